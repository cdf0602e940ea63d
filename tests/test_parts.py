"""Cutting and pouring: points [13], [14] and [15]."""

from skipladder.errors import Missing, OtherSize, OutOfRange, Present
from skipladder.ladder import Ladder
from skipladder.parts import cut, poured
from tests.words import FAR, FULL, GREAT, SIZES, SMALL, LadderTest, Words, crowded, filled


class PartsTest(LadderTest):
    def check_later_deeds(self, ladder, width, high, kept):
        """The changes of deeds to come are those of a ladder with just these numbers."""
        words = Words(width, high, kept)
        others = [number for number in words.probes() if number not in words.kept]
        for number in others[:: max(1, len(others) // 8)]:
            self.refused(Missing, ladder.take, number)
            later, _ = self.deed(ladder, words, True, number)
            self.deed(ladder, later, False, number)
        for number in words.kept[:: max(1, len(words.kept) // 8)]:
            self.refused(Present, ladder.put, number)
            later, _ = self.deed(ladder, words, False, number)
            self.deed(ladder, later, True, number)
        self.same(ladder.row(), words.kept)

    def check_wholly(self, ladder, width, high, kept):
        self.check(ladder, width, high, kept)
        self.check_later_deeds(ladder, width, high, kept)


class Cut(PartsTest):
    def check_cut(self, width, high, numbers, number):
        ladder = filled(width, high, numbers)
        upper = cut(ladder, number)
        self.assertIsInstance(upper, Ladder)
        self.assertIsNot(upper, ladder)
        lesser = [kept for kept in numbers if kept < number]
        greater = [kept for kept in numbers if kept >= number]
        self.check_wholly(ladder, width, high, lesser)
        self.check_wholly(upper, width, high, greater)
        # What is done to one is not done to the other.
        for kept in greater:
            upper.take(kept)
        self.same([ladder.row(), ladder.many], [sorted(lesser), len(lesser)])
        self.same([upper.row(), upper.many], [[], 0])
        for kept in greater:
            ladder.put(kept)
        self.same([upper.row(), upper.many], [[], 0])
        self.check(ladder, width, high, numbers)

    def test_written_out(self):
        ladder = filled(3, 2, [1, 4, 5, 8])
        upper = cut(ladder, 5)
        self.same([ladder.row(), ladder.many], [[1, 4], 2])
        self.same([upper.row(), upper.many], [[5, 8], 2])
        self.same([upper.width, upper.high, upper.limit], [3, 2, 9])
        self.same([upper.level(level) for level in range(3)], [[5, 8], [5, 8], [5]])
        self.same([ladder.level(level) for level in range(3)], [[1, 4], [1, 4], [1]])
        self.same([upper.ahead(2, 5), ladder.ahead(2, 1)], [(None, 2), (None, 2)])
        self.same(upper.put(3), [(0, 3, None), (1, 3, 5), (2, 3, 5)])

    def test_a_small_ladder_at_each_number_to_the_limit(self):
        for width, high in SMALL:
            limit = width ** high
            for numbers in (range(limit), range(0, limit, 2), [limit - 1], [0], crowded(limit // 2, limit, 3)):
                for number in range(limit + 1):
                    with self.subTest(width=width, high=high, numbers=numbers, number=number):
                        self.check_cut(width, high, list(numbers), number)

    def test_great_ladders_at_the_ends_at_kept_numbers_and_between(self):
        for width, high in GREAT:
            limit = width ** high
            numbers = crowded(30, limit, 12)
            some = sorted(numbers)[::7]
            places = [0, 1, limit // 2, limit - 1, limit] + some + [number + 1 for number in some]
            for number in places:
                with self.subTest(width=width, high=high, number=number):
                    self.check_cut(width, high, numbers, number)

    def test_a_hundred_numbers(self):
        for width, high in ((9, 12), (2, 12)):
            numbers = crowded(100, width ** high, 14)
            self.check_cut(width, high, numbers, sorted(numbers)[50])

    def test_each_size_at_nought_and_at_the_limit(self):
        for width, high in SIZES:
            limit = width ** high
            ladder = filled(width, high, [0, limit - 1])
            self.same(cut(ladder, limit).row(), [])
            self.same(ladder.row(), [0, limit - 1])
            self.same(cut(ladder, 0).row(), [0, limit - 1])
            self.same(ladder.row(), [])

    def test_an_empty_ladder(self):
        for width, high in SIZES:
            limit = width ** high
            ladder = Ladder(width, high)
            for number in (0, 1, limit - 1, limit):
                upper = cut(ladder, number)
                self.assertIsNot(upper, ladder)
                self.check(ladder, width, high, [])
                self.check(upper, width, high, [])
                upper.put(1)
                self.same([ladder.row(), ladder.many], [[], 0])

    def test_cut_again_and_again(self):
        ladder = filled(2, 6, range(64))
        parts = [cut(ladder, number) for number in range(56, -1, -8)]
        self.check_wholly(ladder, 2, 6, [])
        for number, part in zip(range(56, -1, -8), parts):
            self.check_wholly(part, 2, 6, range(number, number + 8))

    def test_out_of_range_changes_nothing(self):
        for width, high in SIZES:
            limit = width ** high
            for numbers in ([], [0, limit - 1]):
                ladder = filled(width, high, numbers)
                for number in (-FAR, -limit, -2, -1, limit + 1, limit + 2, 2 * limit, FAR):
                    with self.subTest(width=width, high=high, number=number):
                        self.refused(OutOfRange, cut, ladder, number)
                self.check(ladder, width, high, numbers)

    def test_by_the_names_of_the_interface(self):
        ladder = filled(2, 2, [1, 3])
        self.same(cut(ladder=ladder, number=2).row(), [3])


class Poured(PartsTest):
    def check_poured(self, width, high, numbers, others):
        ladder = filled(width, high, numbers)
        other = filled(width, high, others)
        self.assertIsNone(poured(ladder, other))
        self.check_wholly(ladder, width, high, numbers + others)
        self.check_wholly(other, width, high, others)
        # What is done to one is not done to the other.
        for number in numbers + others:
            ladder.take(number)
        self.same([ladder.row(), ladder.many], [[], 0])
        self.check(other, width, high, others)
        for number in numbers:
            other.put(number)
        self.same([ladder.row(), ladder.many], [[], 0])
        self.check(other, width, high, numbers + others)

    def test_written_out(self):
        ladder = filled(3, 2, [4, 8])
        other = filled(3, 2, [1, 5])
        self.assertIsNone(poured(ladder, other))
        self.same([ladder.row(), ladder.many], [[1, 4, 5, 8], 4])
        self.same([ladder.level(level) for level in range(3)], [[1, 4, 5, 8], [1, 4, 8], [1]])
        self.same(ladder.ahead(2, 1), (None, 4))
        self.same([other.row(), other.many], [[1, 5], 2])
        self.same(other.ahead(1, 1), (5, 1))

    def test_halves_by_turns_and_side_by_side(self):
        for width, high in FULL + GREAT:
            numbers = sorted(crowded(40, width ** high, 19))
            half = len(numbers) // 2
            for one, two in (
                (numbers[::2], numbers[1::2]),
                (numbers[1::2], numbers[::2]),
                (numbers[:half], numbers[half:]),
                (numbers[half:], numbers[:half]),
            ):
                with self.subTest(width=width, high=high, one=one):
                    self.check_poured(width, high, one, two)

    def test_an_empty_one_and_a_full_one(self):
        for width, high in SMALL + GREAT:
            numbers = crowded(20, width ** high, 23)
            with self.subTest(width=width, high=high):
                self.check_poured(width, high, numbers, [])
                self.check_poured(width, high, [], numbers)
                self.check_poured(width, high, [], [])

    def test_small_ladders_to_the_last_number(self):
        for width, high in FULL:
            limit = width ** high
            self.check_poured(width, high, list(range(0, limit, 2)), list(range(1, limit, 2)))

    def test_a_hundred_numbers(self):
        for width, high in ((9, 12), (2, 12)):
            numbers = crowded(100, width ** high, 29)
            self.check_poured(width, high, numbers[::2], numbers[1::2])

    def test_one_after_another(self):
        ladder = Ladder(3, 3)
        for begin in (20, 5, 11):
            poured(ladder, filled(3, 3, [begin, begin + 1]))
        self.check_wholly(ladder, 3, 3, [5, 6, 11, 12, 20, 21])

    def check_refused(self, kind, one, two):
        """Refused, and neither of the two is changed; each is a size and its numbers."""
        ladder = filled(*one)
        other = filled(*two)
        self.refused(kind, poured, ladder, other)
        self.check(ladder, *one)
        self.check(other, *two)

    def test_other_sizes(self):
        for one in SIZES:
            for two in SIZES:
                if one != two:
                    with self.subTest(one=one, two=two):
                        self.refused(OtherSize, poured, Ladder(*one), Ladder(*two))

    def test_other_sizes_with_one_limit(self):
        for one, two in (((2, 4), (4, 2)), ((2, 12), (4, 6)), ((3, 4), (9, 2)), ((2, 6), (8, 2)), ((4, 3), (8, 2))):
            self.assertEqual(Ladder(*one).limit, Ladder(*two).limit)
            for size, another in ((one, two), (two, one)):
                self.check_refused(OtherSize, (*size, []), (*another, []))
                self.check_refused(OtherSize, (*size, [1, 3]), (*another, [0, 2]))

    def test_other_size_goes_ahead_of_present(self):
        for one, two in (((2, 4), (4, 2)), ((2, 3), (2, 4)), ((2, 3), (3, 3)), ((9, 12), (2, 1))):
            self.check_refused(OtherSize, (*one, [0, 1]), (*two, [1]))
            self.check_refused(OtherSize, (*two, [1]), (*one, [0, 1]))

    def test_one_number_in_both(self):
        for width, high in SMALL + GREAT:
            numbers = sorted(crowded(13, width ** high, 37))
            for common in numbers:
                rest = [number for number in numbers if number != common]
                with self.subTest(width=width, high=high, common=common):
                    self.check_refused(
                        Present, (width, high, rest[::2] + [common]), (width, high, rest[1::2] + [common])
                    )

    def test_several_numbers_in_both(self):
        for width, high in SMALL + GREAT:
            numbers = sorted(crowded(13, width ** high, 43))
            for one, two in ((numbers, numbers), (numbers[1:], numbers), (numbers, numbers[-1:])):
                with self.subTest(width=width, high=high):
                    self.check_refused(Present, (width, high, one), (width, high, two))

    def test_into_itself(self):
        for width, high in SIZES:
            ladder = Ladder(width, high)
            self.assertIsNone(poured(ladder, ladder))
            self.check(ladder, width, high, [])
            ladder.put(1)
            self.refused(Present, poured, ladder, ladder)
            ladder.put(0)
            self.refused(Present, poured, ladder, ladder)
            self.check(ladder, width, high, [0, 1])

    def test_by_the_names_of_the_interface(self):
        ladder = Ladder(2, 2)
        self.assertIsNone(poured(ladder=ladder, other=filled(2, 2, [1, 3])))
        self.same(ladder.row(), [1, 3])


class CutAndPoured(PartsTest):
    def test_what_was_cut_off_is_poured_back(self):
        for width, high in FULL + GREAT:
            limit = width ** high
            numbers = crowded(40, limit, 47)
            for number in (0, sorted(numbers)[len(numbers) // 2], limit // 2, limit):
                ladder = filled(width, high, numbers)
                upper = cut(ladder, number)
                poured(ladder, upper)
                with self.subTest(width=width, high=high, number=number):
                    self.check_wholly(ladder, width, high, numbers)
                    self.check_wholly(upper, width, high, [kept for kept in numbers if kept >= number])

    def test_what_was_left_is_poured_into_what_was_cut_off(self):
        for width, high in FULL + GREAT:
            numbers = crowded(40, width ** high, 53)
            ladder = filled(width, high, numbers)
            upper = cut(ladder, sorted(numbers)[len(numbers) // 2])
            poured(upper, ladder)
            self.check_wholly(upper, width, high, numbers)
