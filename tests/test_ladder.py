"""Sizes, empty ladders, put and take: points [1], [5] and [6]."""

from skipladder.errors import BadSize, Missing, NoLevel, NoPlace, OutOfRange, Present
from skipladder.ladder import Ladder
from tests.words import FAR, FULL, GREAT, HEIGHTS, SIZES, SMALL, WIDTHS, LadderTest, Words, crowded, filled


class Sizes(LadderTest):
    def test_each_width_with_each_height(self):
        for width in WIDTHS:
            product = 1
            for high in HEIGHTS:
                product *= width
                ladder = Ladder(width, high)
                with self.subTest(width=width, high=high):
                    fields = [ladder.width, ladder.high, ladder.limit, ladder.many]
                    self.same(fields, [width, high, product, 0])

    def test_written_out(self):
        self.assertEqual(Ladder(3, 2).limit, 9)
        self.assertEqual(Ladder(2, 1).limit, 2)
        self.assertEqual(Ladder(9, 12).limit, 282429536481)

    def test_by_the_names_of_the_interface(self):
        ladder = Ladder(width=4, high=7)
        self.same([ladder.width, ladder.high, ladder.limit, ladder.many], [4, 7, 16384, 0])

    def test_a_width_that_is_none(self):
        for width in (-FAR, -9, -3, -2, -1, 0, 1, 10, 11, 12, 100, FAR):
            for high in HEIGHTS:
                with self.subTest(width=width, high=high):
                    self.refused(BadSize, Ladder, width, high)

    def test_a_height_that_is_none(self):
        for width in WIDTHS:
            for high in (-FAR, -12, -2, -1, 0, 13, 14, 100, FAR):
                with self.subTest(width=width, high=high):
                    self.refused(BadSize, Ladder, width, high)

    def test_both_are_none(self):
        for width in (-FAR, -1, 0, 1, 10, FAR):
            for high in (-FAR, -1, 0, 13, FAR):
                with self.subTest(width=width, high=high):
                    self.refused(BadSize, Ladder, width, high)

    def test_the_fields_stay_right_behind_each_deed(self):
        for width, high in SMALL + GREAT:
            ladder = Ladder(width, high)
            numbers = crowded(40, width ** high, 5)
            for many, number in enumerate(numbers):
                self.same([ladder.width, ladder.high, ladder.limit, ladder.many], [width, high, width ** high, many])
                ladder.put(number)
            for many, number in enumerate(numbers):
                left = len(numbers) - many
                self.same([ladder.width, ladder.high, ladder.limit, ladder.many], [width, high, width ** high, left])
                ladder.take(number)
            self.same(ladder.many, 0)

    def test_each_number_from_nought_to_below_the_limit_can_be_kept(self):
        for width, high in FULL:
            limit = width ** high
            ladder = filled(width, high, range(limit))
            self.same(ladder.row(), list(range(limit)))
            self.same(ladder.many, limit)

    def test_the_least_and_the_greatest_number_of_each_size(self):
        for width, high in SIZES:
            ladder = filled(width, high, [width ** high - 1, 0])
            self.same(ladder.row(), [0, width ** high - 1])


class Empty(LadderTest):
    def check_empty(self, ladder, width, high):
        self.check(ladder, width, high, [])
        limit = width ** high
        self.same(ladder.row(), [])
        self.same([ladder.level(level) for level in range(high + 1)], [[]] * (high + 1))
        for number in (0, 1, limit - 1):
            self.same(ladder.has(number), False)
            self.same(ladder.trail(number), [])
            self.same(ladder.below(number), None)
            self.same(ladder.above(number), None)
            self.same(ladder.place(number), 0)
            self.refused(Missing, ladder.take, number)
        self.same(ladder.place(limit), 0)
        self.same(ladder.stretch(0, limit), [])
        self.same(ladder.counted(0, limit), 0)
        for place in (-FAR, -2, -1, 0, 1, 2, limit, FAR):
            self.refused(NoPlace, ladder.at, place)
            self.refused(NoPlace, ladder.way, place)
        for level in (-FAR, -2, -1, high + 1, high + 2, FAR):
            self.refused(NoLevel, ladder.level, level)
            for number in (-FAR, -1, 0, 1, limit - 1, limit, FAR):
                self.refused(NoLevel, ladder.ahead, level, number)
        for level in range(high + 1):
            for number in (-FAR, -1, 0, 1, limit - 1, limit, limit + 1, FAR):
                self.refused(Missing, ladder.ahead, level, number)

    def test_new_ones(self):
        for width, high in SIZES:
            with self.subTest(width=width, high=high):
                self.check_empty(Ladder(width, high), width, high)

    def test_ones_from_which_all_was_taken(self):
        for width, high in SMALL + GREAT:
            numbers = crowded(20, width ** high, 3)
            ladder = filled(width, high, numbers)
            for number in reversed(numbers):
                ladder.take(number)
            with self.subTest(width=width, high=high):
                self.check_empty(ladder, width, high)
                self.same(ladder.put(1), [(level, 1, None) for level in range(high + 1)])


class Changes(LadderTest):
    """Point [5], each deed told by hand."""

    def test_the_first_number_comes_on_each_level(self):
        for width, high in SIZES:
            for number in (0, 1, width ** high - 1):
                told = Ladder(width, high).put(number)
                self.same(told, [(level, number, None) for level in range(high + 1)])

    def test_the_last_one_goes_from_each_level(self):
        for width, high in SIZES:
            for number in (0, 1, width ** high - 1):
                ladder = filled(width, high, [number])
                self.same(ladder.take(number), [(level, None, number) for level in range(high + 1)])
                self.same(ladder.row(), [])

    def test_a_new_least_one_in_the_block_of_the_old(self):
        ladder = filled(3, 3, [7])
        self.same(ladder.put(6), [(0, 6, None), (1, 6, 7), (2, 6, 7), (3, 6, 7)])
        self.same(ladder.take(6), [(0, None, 6), (1, 7, 6), (2, 7, 6), (3, 7, 6)])

    def test_a_new_least_one_in_another_block(self):
        ladder = filled(3, 3, [6])
        self.same(ladder.put(5), [(0, 5, None), (1, 5, None), (2, 5, 6), (3, 5, 6)])
        self.same(ladder.take(5), [(0, None, 5), (1, None, 5), (2, 6, 5), (3, 6, 5)])

    def test_nought_ahead_of_the_greatest(self):
        ladder = filled(2, 4, [15])
        told = [(0, 0, None), (1, 0, None), (2, 0, None), (3, 0, None), (4, 0, 15)]
        self.same(ladder.put(0), told)
        self.same(ladder.take(0), [(level, went, came) for level, came, went in told])

    def test_nought_goes_and_comes_as_a_number(self):
        ladder = filled(2, 2, [0, 1])
        self.same(ladder.take(0), [(0, None, 0), (1, 1, 0), (2, 1, 0)])
        self.same(ladder.put(0), [(0, 0, None), (1, 0, 1), (2, 0, 1)])

    def test_between_two_others_in_one_block(self):
        ladder = filled(5, 3, [26, 29])
        self.same(ladder.put(27), [(0, 27, None)])
        self.same(ladder.put(28), [(0, 28, None)])
        self.same(ladder.take(27), [(0, None, 27)])
        self.same(ladder.take(28), [(0, None, 28)])

    def test_at_the_begin_of_a_block(self):
        ladder = filled(3, 3, [2, 10])
        self.same(ladder.put(9), [(0, 9, None), (1, 9, 10), (2, 9, 10)])
        self.same(ladder.take(9), [(0, None, 9), (1, 10, 9), (2, 10, 9)])

    def test_at_the_end_of_a_block(self):
        ladder = filled(3, 3, [2, 9])
        self.same(ladder.put(8), [(0, 8, None), (1, 8, None)])
        self.same(ladder.take(8), [(0, None, 8), (1, None, 8)])

    def test_in_a_block_of_its_own_with_the_next_in_a_block_above(self):
        ladder = filled(3, 3, [0, 17])
        self.same(ladder.put(12), [(0, 12, None), (1, 12, None), (2, 12, 17)])
        self.same(ladder.take(12), [(0, None, 12), (1, None, 12), (2, 17, 12)])

    def test_new_behind_all_others(self):
        ladder = filled(3, 3, [0])
        self.same(ladder.put(1), [(0, 1, None)])
        self.same(ladder.put(8), [(0, 8, None), (1, 8, None)])
        self.same(ladder.put(26), [(0, 26, None), (1, 26, None), (2, 26, None)])
        self.same(ladder.take(26), [(0, None, 26), (1, None, 26), (2, None, 26)])

    def test_the_greatest_numbers_there_are(self):
        last = 9 ** 12 - 1
        ladder = filled(9, 12, [last])
        self.same(ladder.put(last - 1), [(0, last - 1, None)] + [(level, last - 1, last) for level in range(1, 13)])
        self.same(ladder.take(last), [(0, None, last)])

    def test_only_the_next_one_goes_not_one_further_on(self):
        ladder = filled(2, 3, [5, 6, 7])
        self.same(ladder.put(4), [(0, 4, None), (1, 4, 5), (2, 4, 5), (3, 4, 5)])
        self.same(ladder.take(5), [(0, None, 5)])
        self.same(ladder.take(6), [(0, None, 6), (1, 7, 6)])
        self.same(ladder.take(4), [(0, None, 4), (1, None, 4), (2, 7, 4), (3, 7, 4)])

    def test_each_number_into_and_out_of_each_row_of_small_ladders(self):
        for width, high in ((2, 1), (2, 2), (3, 1), (2, 3), (3, 2)):
            limit = width ** high
            for chosen in range(1 << limit):
                kept = [number for number in range(limit) if chosen >> number & 1]
                ladder = filled(width, high, kept)
                words = Words(width, high, kept)
                for number in range(limit):
                    if number not in kept:
                        later = words.with_number(number)
                        self.same(ladder.put(number), words.changes(later), ("put", kept, number))
                        self.same(ladder.take(number), later.changes(words), ("take", kept, number))


class Refused(LadderTest):
    """Point [6]: what is refused, by what, and that it changes nothing."""

    def test_out_of_range_goes_first(self):
        for width, high in SIZES:
            limit = width ** high
            for numbers in ([], [0], [0, limit - 1]):
                ladder = filled(width, high, numbers)
                for number in (-FAR, -limit, -2, -1, limit, limit + 1, 2 * limit, FAR):
                    with self.subTest(width=width, high=high, number=number):
                        self.refused(OutOfRange, ladder.put, number)
                        self.refused(OutOfRange, ladder.take, number)
                        self.refused(OutOfRange, ladder.has, number)
                self.same(ladder.row(), numbers)

    def test_present_and_missing(self):
        for width, high in SMALL + GREAT:
            limit = width ** high
            numbers = crowded(30, limit, 11)[: max(1, min(30, limit // 2))]
            ladder = filled(width, high, numbers)
            for number in Words(width, high, numbers).probes():
                with self.subTest(width=width, high=high, number=number):
                    if number in numbers:
                        self.refused(Present, ladder.put, number)
                    else:
                        self.refused(Missing, ladder.take, number)

    def test_what_was_taken_is_missing_and_can_be_put_in_again(self):
        ladder = filled(3, 2, [1, 4, 8])
        ladder.take(4)
        self.refused(Missing, ladder.take, 4)
        self.same(ladder.put(4), [(0, 4, None), (1, 4, None)])
        self.refused(Present, ladder.put, 4)

    def test_what_is_refused_changes_nothing(self):
        for width, high in SMALL + GREAT:
            limit = width ** high
            numbers = crowded(24, limit, 7)[: max(1, min(24, limit // 2))]
            ladder = filled(width, high, numbers)
            for number in (-FAR, -1, limit, limit + 1, FAR):
                self.refused(OutOfRange, ladder.put, number)
                self.refused(OutOfRange, ladder.take, number)
            self.check(ladder, width, high, numbers)
            for number in Words(width, high, numbers).probes():
                if number in numbers:
                    self.refused(Present, ladder.put, number)
                else:
                    self.refused(Missing, ladder.take, number)
            with self.subTest(width=width, high=high):
                self.check(ladder, width, high, numbers)

    def test_refused_questions_change_nothing(self):
        for width, high in ((2, 3), (3, 3), (9, 12)):
            limit = width ** high
            numbers = [1, 2, limit - 1]
            ladder = filled(width, high, numbers)
            for bad in (-1, limit + 1, FAR):
                for call in (ladder.has, ladder.trail, ladder.below, ladder.above, ladder.place):
                    self.refused(OutOfRange, call, bad)
                self.refused(NoPlace, ladder.at, bad)
                self.refused(NoPlace, ladder.way, bad)
                self.refused(NoLevel, ladder.level, bad)
                self.refused(NoLevel, ladder.ahead, bad, 1)
                self.refused(Missing, ladder.ahead, 0, bad)
                self.refused(OutOfRange, ladder.stretch, bad, 0)
                self.refused(OutOfRange, ladder.counted, 0, bad)
            self.check(ladder, width, high, numbers)

    def test_by_the_names_of_the_interface(self):
        ladder = Ladder(2, 3)
        self.same(ladder.put(number=5), [(level, 5, None) for level in range(4)])
        self.same(ladder.take(number=5), [(level, None, 5) for level in range(4)])
