"""Levels behind each deed, what is handed out, and ahead: points [3], [4], [5], [7] and [8]."""

from skipladder.errors import Missing, NoLevel, OutOfRange
from skipladder.ladder import Ladder
from tests.words import FAR, FULL, GREAT, SIZES, SMALL, LadderTest, Words, crowded, filled


def deeds(numbers, seed):
    """A long row of deeds with these numbers, each True (put) or False (take) with its number.

    All are put in and taken out in the end, and in between they go and come.
    """
    kept = []
    waiting = list(numbers)
    for step in range(2 * len(numbers)):
        toss = (seed + step * 2654435761) % 1009
        if waiting and (toss % 3 or not kept):
            kept.append(waiting.pop(toss % len(waiting)))
            yield True, kept[-1]
        elif kept:
            waiting.append(kept.pop(toss % len(kept)))
            yield False, waiting[-1]
    for number in waiting:
        yield True, number
    for number in sorted(kept + waiting, key=lambda number: number * 48271 % 65537):
        yield False, number


class LongRowsOfDeeds(LadderTest):
    def do(self, width, high, row_of_deeds):
        """Does the deeds one by one, and holds the changes and levels against the words."""
        ladder = Ladder(width, high)
        words = Words(width, high)
        most = 0
        for puts, number in row_of_deeds:
            words, _ = self.deed(ladder, words, puts, number)
            self.same([ladder.level(level) for level in range(high + 1)], words.levels, ("levels", puts, number))
            self.same(ladder.row(), words.kept, ("row", puts, number))
            self.same(ladder.many, len(words.kept), ("many", puts, number))
            self.same(ladder.has(number), puts, ("has", puts, number))
            most = max(most, ladder.many)
        self.same(ladder.row(), [])
        return most

    def test_small_ladders_to_the_last_number(self):
        for width, high in FULL:
            limit = width ** high
            for seed in (1, 2):
                with self.subTest(width=width, high=high, seed=seed):
                    self.assertEqual(self.do(width, high, deeds(range(limit), seed)), limit)

    def test_great_ladders_with_up_to_a_hundred_numbers(self):
        for width, high in GREAT:
            for seed in (1, 2):
                numbers = crowded(100, width ** high, seed)
                with self.subTest(width=width, high=high, seed=seed):
                    self.assertEqual(self.do(width, high, deeds(numbers, seed)), len(numbers))
                    self.assertGreater(len(numbers), 80)

    def test_each_size(self):
        for width, high in SIZES:
            numbers = crowded(15, width ** high, width + high)
            with self.subTest(width=width, high=high):
                self.do(width, high, deeds(numbers, high))

    def test_rising_and_falling_rows(self):
        for width, high in ((2, 12), (9, 12), (3, 4), (4, 3)):
            limit = width ** high
            step = max(1, limit // 60)
            numbers = list(range(0, limit, step))
            for ins in (numbers, numbers[::-1]):
                for outs in (numbers, numbers[::-1]):
                    row = [(True, number) for number in ins] + [(False, number) for number in outs]
                    with self.subTest(width=width, high=high, first=ins[0], out=outs[0]):
                        self.do(width, high, row)

    def test_the_edges_of_blocks(self):
        for width, high in GREAT:
            limit = width ** high
            edges = {edge for level in range(high + 1) for edge in (width ** level - 1, width ** level)}
            edges |= {limit - edge for edge in edges}
            numbers = [number for number in sorted(edges) if number < limit]
            with self.subTest(width=width, high=high):
                self.do(width, high, deeds(numbers, 3))


class Levels(LadderTest):
    def test_written_out(self):
        ladder = filled(3, 2, [8, 1, 5, 4])
        self.same(ladder.level(0), [1, 4, 5, 8])
        self.same(ladder.level(1), [1, 4, 8])
        self.same(ladder.level(2), [1])

    def test_level_nought_is_the_row(self):
        for width, high in SMALL + GREAT:
            numbers = crowded(50, width ** high, 9)
            ladder = filled(width, high, numbers)
            self.same(ladder.level(0), sorted(numbers))
            self.same(ladder.level(0), ladder.row())

    def test_the_least_alone_stands_on_the_level_of_the_height(self):
        for width, high in SIZES:
            numbers = crowded(20, width ** high, 4)
            ladder = filled(width, high, numbers)
            self.same(ladder.level(high), [min(numbers)])

    def test_what_stands_on_a_level_stands_on_each_level_beneath(self):
        for width, high in SIZES:
            ladder = filled(width, high, crowded(30, width ** high, 13))
            for level in range(high):
                beneath = ladder.level(level)
                for number in ladder.level(level + 1):
                    self.assertIn(number, beneath)

    def test_no_level(self):
        for width, high in SIZES:
            for ladder in (Ladder(width, high), filled(width, high, [0, 1])):
                for level in (-FAR, -high, -2, -1, high + 1, high + 2, 13 + high, FAR):
                    with self.subTest(width=width, high=high, level=level):
                        self.refused(NoLevel, ladder.level, level)
                self.same(ladder.level(high), ladder.row()[:1])

    def test_by_the_names_of_the_interface(self):
        self.same(filled(2, 2, [1, 3]).level(level=2), [1])


class HandedOut(LadderTest):
    """Point [7]: what is told is the asker's own."""

    def spoil(self, told):
        told.append(-5)
        told.insert(0, -7)
        told.reverse()
        self.assertIn(-5, told)
        del told[:]

    def questions(self, ladder, words):
        """All calls that tell a list."""
        calls = [ladder.row]
        calls += [lambda level=level: ladder.level(level) for level in range(words.high + 1)]
        calls += [lambda number=number: ladder.trail(number) for number in words.probes()]
        calls += [lambda place=place: ladder.way(place) for place in range(len(words.kept))]
        calls += [lambda low=low, high=high: ladder.stretch(low, high) for low, high in words.ends()]
        return calls

    def test_changing_one_list_changes_nothing_that_is_told_later(self):
        for width, high in ((2, 1), (2, 3), (3, 3), (9, 12)):
            limit = width ** high
            for numbers in ([], [0], [1, 0, limit - 1], crowded(12, limit, 6)):
                numbers = list(dict.fromkeys(numbers))
                ladder = filled(width, high, numbers)
                for call in self.questions(ladder, Words(width, high, numbers)):
                    meant = list(call())
                    self.spoil(call())
                    self.same(call(), meant)
                with self.subTest(width=width, high=high, numbers=numbers):
                    self.check(ladder, width, high, numbers)

    def test_changing_the_changes_changes_nothing(self):
        for width, high in ((2, 3), (3, 3), (9, 12)):
            ladder = Ladder(width, high)
            words = Words(width, high)
            for puts, number in deeds(crowded(9, width ** high, 2), 5):
                words, told = self.deed(ladder, words, puts, number)
                self.spoil(told)
                self.check(ladder, width, high, words.kept)

    def test_lists_that_were_told_stay_as_they_are_behind_later_deeds(self):
        for width, high in ((2, 3), (3, 3), (9, 12)):
            limit = width ** high
            ladder = filled(width, high, [1, limit // 2, limit - 2])
            words = Words(width, high, [1, limit // 2, limit - 2])
            told = [call() for call in self.questions(ladder, words)]
            meant = repr(told)
            ladder.put(0)
            ladder.put(limit - 1)
            ladder.take(1)
            self.assertEqual(repr(told), meant)

    def test_a_row_that_was_told_is_no_way_into_another_ladder(self):
        one = Ladder(2, 3)
        other = Ladder(2, 3)
        self.spoil(one.row())
        self.spoil(one.level(3))
        self.spoil(one.trail(7))
        self.check(other, 2, 3, [])
        one.put(5)
        self.check(one, 2, 3, [5])
        self.check(other, 2, 3, [])


class Ahead(LadderTest):
    """Point [8]."""

    def test_written_out(self):
        ladder = filled(3, 2, [1, 4, 5, 8])
        self.same([ladder.ahead(0, number) for number in (1, 4, 5, 8)], [(4, 1), (5, 1), (8, 1), (None, 1)])
        self.same([ladder.ahead(1, number) for number in (1, 4, 8)], [(4, 1), (8, 2), (None, 1)])
        self.same(ladder.ahead(2, 1), (None, 4))

    def test_nought_is_a_number(self):
        ladder = filled(2, 3, [0])
        self.same([ladder.ahead(level, 0) for level in range(4)], [(None, 1)] * 4)
        ladder.put(1)
        self.same([ladder.ahead(level, 0) for level in range(4)], [(1, 1), (None, 2), (None, 2), (None, 2)])

    def test_each_number_on_each_level(self):
        for width, high in SIZES:
            numbers = crowded(40, width ** high, 15)
            ladder = filled(width, high, numbers)
            words = Words(width, high, numbers)
            for level in range(high + 1):
                for number in sorted(numbers):
                    with self.subTest(width=width, high=high, level=level, number=number):
                        if number in words.levels[level]:
                            self.same(ladder.ahead(level, number), words.ahead(level, number))
                        else:
                            self.refused(Missing, ladder.ahead, level, number)

    def test_a_hundred_numbers(self):
        for width, high in GREAT:
            numbers = crowded(100, width ** high, 21)
            ladder = filled(width, high, numbers)
            words = Words(width, high, numbers)
            for level in range(high + 1):
                standing = words.levels[level]
                told = [ladder.ahead(level, number) for number in standing]
                self.same(told, [words.ahead(level, number) for number in standing])
                # From one to the next, the whole row is gone along.
                self.assertEqual(sum(gap for _, gap in told), len(numbers))
                self.assertEqual([following for following, _ in told], standing[1:] + [None])

    def test_the_gaps_behind_each_deed(self):
        for width, high in ((3, 4), (2, 6), (9, 12)):
            ladder = Ladder(width, high)
            words = Words(width, high)
            for puts, number in deeds(crowded(25, width ** high, 8), 4):
                words, _ = self.deed(ladder, words, puts, number)
                for level in range(high + 1):
                    standing = words.levels[level]
                    told = [ladder.ahead(level, number) for number in standing]
                    self.same(told, [words.ahead(level, number) for number in standing])

    def test_missing(self):
        for width, high in SMALL + GREAT:
            limit = width ** high
            numbers = crowded(20, limit, 17)[: max(1, min(20, limit // 2))]
            ladder = filled(width, high, numbers)
            words = Words(width, high, numbers)
            bad = [number for number in words.probes() if number not in numbers]
            for number in bad + [-FAR, -limit, -1, limit, limit + 1, FAR]:
                for level in range(high + 1):
                    with self.subTest(width=width, high=high, level=level, number=number):
                        self.refused(Missing, ladder.ahead, level, number)
            self.check(ladder, width, high, numbers)

    def test_missing_where_it_was_taken_out(self):
        ladder = filled(3, 3, [3, 4, 12])
        ladder.take(3)
        for level in range(4):
            self.refused(Missing, ladder.ahead, level, 3)
            self.same(ladder.ahead(level, 4), ((12, 1) if level < 3 else (None, 2)))

    def test_missing_where_a_lesser_one_came(self):
        ladder = filled(3, 3, [4])
        self.same(ladder.ahead(3, 4), (None, 1))
        ladder.put(3)
        self.refused(Missing, ladder.ahead, 3, 4)
        self.refused(Missing, ladder.ahead, 1, 4)
        self.same(ladder.ahead(0, 4), (None, 1))
        self.same(ladder.ahead(3, 3), (None, 2))

    def test_no_level_goes_first(self):
        for width, high in SIZES:
            limit = width ** high
            ladder = filled(width, high, [0, limit - 1])
            for level in (-FAR, -2, -1, high + 1, high + 2, FAR):
                for number in (-FAR, -1, 0, 1, limit - 1, limit, FAR):
                    self.refused(NoLevel, ladder.ahead, level, number)

    def test_none_of_these_is_out_of_range(self):
        with self.assertRaises(Missing) as caught:
            Ladder(2, 2).ahead(0, 99)
        self.assertNotIsInstance(caught.exception, OutOfRange)

    def test_by_the_names_of_the_interface(self):
        self.same(filled(2, 2, [1, 3]).ahead(level=1, number=1), (3, 1))
