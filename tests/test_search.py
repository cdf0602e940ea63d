"""Trails, ways, places and stretches: points [9] to [12], and stretch and counted."""

from skipladder.errors import NoPlace, OutOfRange
from skipladder.ladder import Ladder
from tests.words import FAR, FULL, GREAT, SIZES, SMALL, LadderTest, Words, crowded, filled

# What no ladder can keep; the limit of each is added where it is known.
BENEATH = [-FAR, -100, -2, -1]


def rows_of(width, high):
    """Rows to be put into a ladder: none, one, a few, many, and where it goes all."""
    limit = width ** high
    rows = [[], [0], [limit - 1], [limit // 2], [0, limit - 1], crowded(7, limit, 3), crowded(40, limit, 5)]
    if limit <= 100:
        rows += [range(limit), range(0, limit, 2), range(1, limit, 2), range(limit // 2, limit)]
    return [list(dict.fromkeys(row)) for row in rows]


class Trail(LadderTest):
    """Points [9] and [10]."""

    def test_written_out(self):
        ladder = filled(3, 2, [1, 4, 5, 8])
        self.same(ladder.trail(0), [])
        for number in (1, 2, 3):
            self.same(ladder.trail(number), [(2, 1), (1, 1), (0, 1)])
        self.same(ladder.trail(4), [(2, 1), (1, 1), (1, 4), (0, 4)])
        for number in (5, 6, 7):
            self.same(ladder.trail(number), [(2, 1), (1, 1), (1, 4), (0, 4), (0, 5)])
        self.same(ladder.trail(8), [(2, 1), (1, 1), (1, 4), (1, 8), (0, 8)])

    def test_a_trail_can_begin_and_end_at_nought(self):
        ladder = filled(2, 3, [0])
        for number in range(8):
            self.same(ladder.trail(number), [(3, 0), (2, 0), (1, 0), (0, 0)])

    def test_each_number_of_small_ladders(self):
        for width, high in FULL:
            for row in rows_of(width, high):
                ladder = filled(width, high, row)
                words = Words(width, high, row)
                for number in range(width ** high):
                    with self.subTest(width=width, high=high, row=row, number=number):
                        self.same(ladder.trail(number), words.trail(number))

    def test_the_numbers_about_the_kept_ones_of_great_ladders(self):
        for width, high in SIZES:
            for row in rows_of(width, high):
                ladder = filled(width, high, row)
                words = Words(width, high, row)
                for number in words.probes():
                    with self.subTest(width=width, high=high, row=row, number=number):
                        self.same(ladder.trail(number), words.trail(number))

    def test_a_hundred_numbers(self):
        for width, high in GREAT:
            row = crowded(100, width ** high, 31)
            ladder = filled(width, high, row)
            words = Words(width, high, row)
            for number in words.probes():
                self.same(ladder.trail(number), words.trail(number))

    def test_it_is_empty_where_no_kept_number_is_as_small(self):
        for width, high in SIZES:
            limit = width ** high
            ladder = filled(width, high, [limit - 1])
            for number in {0, (limit - 1) // 2, limit - 2}:
                self.same(ladder.trail(number), [])
            self.same(ladder.trail(limit - 1), [(level, limit - 1) for level in range(high, -1, -1)])

    def test_each_step(self):
        """Where it begins and ends, how it goes on, and how long it is."""
        for width, high in FULL + GREAT:
            for row in rows_of(width, high)[1:]:
                ladder = filled(width, high, row)
                for number in Words(width, high, row).probes():
                    trail = ladder.trail(number)
                    if number >= min(row):
                        self.assertEqual(trail[0], (high, min(row)))
                        self.assertEqual(trail[-1], (0, max(kept for kept in row if kept <= number)))
                        self.follow(ladder, trail, number)
                        self.count(trail, width, high)

    def follow(self, ladder, trail, wanted):
        for (level, number), step in zip(trail, trail[1:]):
            following = ladder.ahead(level, number)[0]
            if following is not None and following <= wanted:
                self.assertEqual(step, (level, following))
            else:
                self.assertEqual(step, (level - 1, number))

    def count(self, trail, width, high):
        self.assertLessEqual(len(trail), 1 + high * width)
        for level in range(high):
            self.assertLessEqual(len([place for place in trail if place[0] == level]), width)
        self.assertEqual(len([place for place in trail if place[0] == high]), 1)

    def test_the_longest_trail_of_full_ladders(self):
        for width, high in FULL:
            limit = width ** high
            trail = filled(width, high, range(limit)).trail(limit - 1)
            self.assertEqual(len(trail), 1 + high * width)
            self.count(trail, width, high)

    def test_the_longest_trail_of_great_ladders(self):
        for width, high in ((9, 11), (9, 12), (2, 12), (8, 12)):
            # The last number there is, and on each level one in each block beside its own.
            limit = width ** high
            row = {limit - 1}
            for level in range(high):
                row.update(limit - 1 - step * width ** level for step in range(width))
            self.assertLessEqual(len(row), 100)
            ladder = filled(width, high, sorted(row))
            trail = ladder.trail(limit - 1)
            self.same(trail, Words(width, high, row).trail(limit - 1))
            self.assertEqual(len(trail), 1 + high * width)

    def test_out_of_range(self):
        for width, high in SIZES:
            limit = width ** high
            for row in ([], [0], [0, limit - 1]):
                ladder = filled(width, high, row)
                for number in BENEATH + [limit, limit + 1, FAR]:
                    for call in (ladder.trail, ladder.below, ladder.above, ladder.has):
                        with self.subTest(width=width, high=high, number=number):
                            self.refused(OutOfRange, call, number)


class Neighbours(LadderTest):
    """has, below and above."""

    def test_written_out(self):
        ladder = filled(3, 2, [1, 4, 5])
        self.same([ladder.has(number) for number in range(9)], [number in (1, 4, 5) for number in range(9)])
        self.same([ladder.below(number) for number in range(9)], [None, 1, 1, 1, 4, 5, 5, 5, 5])
        self.same([ladder.above(number) for number in range(9)], [1, 1, 4, 4, 4, 5, None, None, None])

    def test_nought_is_not_none(self):
        ladder = filled(2, 3, [0])
        self.same([ladder.below(number) for number in range(8)], [0] * 8)
        self.same([ladder.above(number) for number in range(8)], [0] + [None] * 7)
        self.same(ladder.has(0), True)

    def test_each_size(self):
        for width, high in SIZES:
            for row in rows_of(width, high):
                ladder = filled(width, high, row)
                words = Words(width, high, row)
                for number in words.probes():
                    with self.subTest(width=width, high=high, row=row, number=number):
                        self.same(ladder.has(number), number in row)
                        self.same(ladder.below(number), words.below(number))
                        self.same(ladder.above(number), words.above(number))

    def test_what_was_taken_out_is_not_found(self):
        ladder = filled(9, 12, [5, 6, 700])
        ladder.take(6)
        self.same([ladder.has(6), ladder.below(6), ladder.above(6)], [False, 5, 700])
        ladder.take(5)
        self.same([ladder.has(5), ladder.below(699), ladder.above(0)], [False, None, 700])

    def test_by_the_names_of_the_interface(self):
        ladder = filled(2, 3, [4])
        self.same([ladder.has(number=4), ladder.below(number=5), ladder.above(number=3)], [True, 4, 4])
        self.same(ladder.trail(number=4), [(3, 4), (2, 4), (1, 4), (0, 4)])


class Places(LadderTest):
    """Points [11] and [12]."""

    def test_written_out(self):
        ladder = filled(3, 2, [1, 4, 5, 8])
        self.same([ladder.place(number) for number in range(10)], [0, 0, 1, 1, 1, 2, 3, 3, 3, 4])
        self.same([ladder.at(place) for place in range(4)], [1, 4, 5, 8])
        self.same(ladder.way(0), [(2, 1), (1, 1), (0, 1)])
        self.same(ladder.way(1), [(2, 1), (1, 1), (1, 4), (0, 4)])
        self.same(ladder.way(2), [(2, 1), (1, 1), (1, 4), (0, 4), (0, 5)])
        self.same(ladder.way(3), [(2, 1), (1, 1), (1, 4), (1, 8), (0, 8)])

    def test_the_place_of_each_number_to_the_limit(self):
        for width, high in FULL:
            for row in rows_of(width, high):
                ladder = filled(width, high, row)
                words = Words(width, high, row)
                told = [ladder.place(number) for number in range(width ** high + 1)]
                self.same(told, [words.place(number) for number in range(width ** high + 1)])

    def test_at_and_way_of_each_place(self):
        for width, high in SIZES:
            for row in rows_of(width, high):
                ladder = filled(width, high, row)
                words = Words(width, high, row)
                for place, number in enumerate(words.kept):
                    with self.subTest(width=width, high=high, row=row, place=place):
                        self.same(ladder.at(place), number)
                        self.same(ladder.place(number), place)
                        self.same(ladder.way(place), words.way(place))
                        self.same(ladder.way(place), ladder.trail(number))
                self.same(ladder.place(width ** high), len(words.kept))

    def test_a_hundred_numbers(self):
        for width, high in GREAT:
            row = crowded(100, width ** high, 41)
            ladder = filled(width, high, row)
            words = Words(width, high, row)
            for place, number in enumerate(words.kept):
                self.same([ladder.at(place), ladder.place(number)], [number, place])
                self.same(ladder.way(place), words.way(place))
                self.same(ladder.way(place), ladder.trail(number))

    def test_the_way_goes_by_what_ahead_tells(self):
        for width, high in FULL + GREAT:
            for row in rows_of(width, high)[1:]:
                ladder = filled(width, high, row)
                for place in range(len(row)):
                    self.follow(ladder, ladder.way(place), place, high, row)

    def follow(self, ladder, way, left, high, row):
        self.assertEqual(way[0], (high, min(row)))
        for (level, number), step in zip(way, way[1:]):
            following, gap = ladder.ahead(level, number)
            if following is not None and gap <= left:
                self.assertEqual(step, (level, following))
                left = left - gap
            else:
                self.assertEqual(step, (level - 1, number))
        self.assertEqual(left, 0)
        self.assertEqual(way[-1][0], 0)

    def test_places_behind_deeds(self):
        ladder = filled(4, 9, [7, 70, 700])
        ladder.put(0)
        self.same([ladder.at(place) for place in range(4)], [0, 7, 70, 700])
        self.same([ladder.place(number) for number in (0, 7, 70, 700, 4 ** 9)], [0, 1, 2, 3, 4])
        ladder.take(70)
        self.same([ladder.at(place) for place in range(3)], [0, 7, 700])
        self.same([ladder.place(number) for number in (0, 7, 70, 700, 4 ** 9)], [0, 1, 2, 2, 3])
        self.refused(NoPlace, ladder.at, 3)
        self.refused(NoPlace, ladder.way, 3)

    def test_out_of_range(self):
        for width, high in SIZES:
            limit = width ** high
            for row in ([], [0], [0, limit - 1]):
                ladder = filled(width, high, row)
                for number in BENEATH + [limit + 1, limit + 2, 2 * limit, FAR]:
                    with self.subTest(width=width, high=high, number=number):
                        self.refused(OutOfRange, ladder.place, number)
                self.same(ladder.place(limit), len(row))

    def test_no_place(self):
        for width, high in SIZES:
            for row in rows_of(width, high):
                ladder = filled(width, high, row)
                for place in BENEATH + [-len(row), len(row), len(row) + 1, len(row) + 100, FAR]:
                    if place not in range(len(row)):
                        with self.subTest(width=width, high=high, row=row, place=place):
                            self.refused(NoPlace, ladder.at, place)
                            self.refused(NoPlace, ladder.way, place)

    def test_by_the_names_of_the_interface(self):
        ladder = filled(2, 2, [1, 3])
        self.same([ladder.place(number=3), ladder.at(place=1)], [1, 3])
        self.same(ladder.way(place=0), [(2, 1), (1, 1), (0, 1)])


class Stretches(LadderTest):
    def test_written_out(self):
        ladder = filled(3, 2, [1, 4, 5, 8])
        self.same(ladder.stretch(0, 9), [1, 4, 5, 8])
        self.same(ladder.stretch(1, 8), [1, 4, 5])
        self.same(ladder.stretch(2, 9), [4, 5, 8])
        self.same(ladder.stretch(4, 5), [4])
        self.same(ladder.stretch(6, 8), [])
        self.same(ladder.stretch(8, 1), [])
        self.same(ladder.stretch(5, 5), [])
        self.same([ladder.counted(1, 8), ladder.counted(8, 1), ladder.counted(5, 5)], [3, 0, 0])

    def test_each_pair_of_ends(self):
        for width, high in SMALL + [(4, 2), (3, 3)]:
            limit = width ** high
            for row in rows_of(width, high):
                ladder = filled(width, high, row)
                words = Words(width, high, row)
                for low in range(limit + 1):
                    for end in range(limit + 1):
                        meant = words.stretch(low, end)
                        self.same(ladder.stretch(low, end), meant, (width, high, row, low, end))
                        self.same(ladder.counted(low, end), len(meant), (width, high, row, low, end))

    def test_the_ends_about_the_kept_numbers_of_great_ladders(self):
        for width, high in GREAT:
            limit = width ** high
            row = crowded(12, limit, 51)
            ladder = filled(width, high, row)
            words = Words(width, high, row)
            ends = words.probes() + [limit]
            for low in ends:
                for end in ends:
                    meant = words.stretch(low, end)
                    self.same(ladder.stretch(low, end), meant)
                    self.same(ladder.counted(low, end), len(meant))

    def test_a_hundred_numbers(self):
        ladder = filled(9, 12, range(100))
        self.same(ladder.stretch(0, 9 ** 12), list(range(100)))
        self.same(ladder.counted(0, 9 ** 12), 100)
        self.same(ladder.stretch(13, 87), list(range(13, 87)))
        self.same(ladder.counted(99, 100), 1)

    def test_stretches_behind_deeds(self):
        ladder = filled(2, 12, [1, 2, 3])
        ladder.take(2)
        self.same([ladder.stretch(1, 4), ladder.counted(1, 4)], [[1, 3], 2])
        ladder.put(0)
        self.same([ladder.stretch(0, 3), ladder.counted(0, 3)], [[0, 1], 2])

    def test_out_of_range_at_either_end(self):
        for width, high in SIZES:
            limit = width ** high
            for row in ([], [0, limit - 1]):
                ladder = filled(width, high, row)
                for bad in BENEATH + [limit + 1, limit + 2, FAR]:
                    for good in (0, 1, limit - 1, limit):
                        for ends in ((bad, good), (good, bad), (bad, bad)):
                            with self.subTest(width=width, high=high, ends=ends):
                                self.refused(OutOfRange, ladder.stretch, *ends)
                                self.refused(OutOfRange, ladder.counted, *ends)
                self.refused(OutOfRange, ladder.stretch, limit + 1, -1)
                self.refused(OutOfRange, ladder.counted, limit + 1, -1)

    def test_by_the_names_of_the_interface(self):
        ladder = filled(2, 2, [1, 3])
        self.same([ladder.stretch(low=1, high=3), ladder.counted(low=1, high=3)], [[1], 1])


class FromTheBeginning(LadderTest):
    def test_a_new_ladder_tells_what_the_words_tell(self):
        for width, high in SIZES:
            self.check(Ladder(width, high), width, high, [])
