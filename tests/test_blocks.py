"""The functions of skipladder.blocks: points [2], [3] and [4]."""

import unittest

from skipladder.blocks import block, power, tall, thinned

WIDTHS = range(2, 10)
LEVELS = range(0, 13)
HEIGHTS = range(1, 13)
FORTY_DIGITS = 1234567890123456789012345678901234567890


def multiplied(width, level):
    """The width multiplied by itself, worked out apart from the program."""
    return width ** level


def least_of_blocks(width, level, row):
    """Point [3] word by word: who has no lesser number in its block."""
    size = multiplied(width, level)
    return [
        number
        for number in row
        if not any(other < number and other // size == number // size for other in row)
    ]


def levels_stood_on(width, high, before, number):
    """Point [4] word by word: the levels on which the two lie apart."""
    apart = [
        level
        for level in range(high + 1)
        if before is None or before // multiplied(width, level) != number // multiplied(width, level)
    ]
    return len(apart)


def scattered(many, below, stride):
    """Different numbers below a limit, rising, with uneven gaps."""
    return sorted({(step * step * stride + 3 * step) % below for step in range(many)})


class Power(unittest.TestCase):
    def test_each_width_with_each_level(self):
        for width in WIDTHS:
            product = 1
            for level in LEVELS:
                with self.subTest(width=width, level=level):
                    self.assertEqual(power(width, level), product)
                product *= width

    def test_level_zero_gives_one(self):
        for width in WIDTHS:
            self.assertEqual(power(width, 0), 1)

    def test_written_out(self):
        self.assertEqual(power(3, 2), 9)
        self.assertEqual(power(2, 12), 4096)
        self.assertEqual(power(7, 1), 7)
        self.assertEqual(power(9, 12), 282429536481)

    def test_somewhat_beyond_the_limits(self):
        self.assertEqual(power(10, 13), 10000000000000)
        self.assertEqual(power(1, 14), 1)

    def test_whole_numbers_by_the_names_of_the_interface(self):
        for level in LEVELS:
            self.assertIs(type(power(width=4, level=level)), int)


class Block(unittest.TestCase):
    def test_zero_lies_in_block_zero(self):
        for width in WIDTHS:
            for level in LEVELS:
                self.assertEqual(block(width, level, 0), 0)

    def test_on_level_zero_each_number_is_a_block_of_its_own(self):
        for width in WIDTHS:
            for number in list(range(100)) + [FORTY_DIGITS]:
                self.assertEqual(block(width, 0, number), number)

    def test_about_the_first_number_of_a_block(self):
        for width in WIDTHS:
            for level in LEVELS:
                size = multiplied(width, level)
                for which in (1, 2, width - 1, width, width + 1, 1000003):
                    with self.subTest(width=width, level=level, which=which):
                        self.assertEqual(block(width, level, which * size), which)
                        self.assertEqual(block(width, level, which * size - 1), which - 1)
                        # On level 0 the next number is a block of its own.
                        above = which + 1 if level == 0 else which
                        self.assertEqual(block(width, level, which * size + 1), above)

    def test_a_block_of_level_one_has_as_many_numbers_as_the_width(self):
        for width in WIDTHS:
            told = [block(width, 1, number) for number in range(3 * width)]
            self.assertEqual(told, [0] * width + [1] * width + [2] * width)

    def test_on_the_level_of_the_height_all_numbers_are_one_block(self):
        for width in WIDTHS:
            for high in HEIGHTS:
                limit = multiplied(width, high)
                self.assertEqual(block(width, high, limit - 1), 0)
                self.assertEqual(block(width, high, limit), 1)

    def test_written_out(self):
        self.assertEqual(block(3, 1, 8), 2)
        self.assertEqual(block(3, 2, 8), 0)
        self.assertEqual(block(2, 2, 7), 1)
        self.assertEqual(block(9, 12, 282429536480), 0)
        self.assertEqual(block(9, 12, 282429536481), 1)

    def test_numbers_far_above_any_limit(self):
        self.assertEqual(block(2, 1, FORTY_DIGITS), 617283945061728394506172839450617283945)
        for width in WIDTHS:
            for level in LEVELS:
                size = multiplied(width, level)
                told = block(width, level, FORTY_DIGITS)
                self.assertLessEqual(told * size, FORTY_DIGITS)
                self.assertLess(FORTY_DIGITS, (told + 1) * size)
                self.assertEqual(block(width, level, FORTY_DIGITS * size), FORTY_DIGITS)
                self.assertEqual(block(width, level, FORTY_DIGITS * size - 1), FORTY_DIGITS - 1)

    def test_whole_numbers_by_the_names_of_the_interface(self):
        for level in LEVELS:
            for number in (0, 1, 4, FORTY_DIGITS):
                self.assertIs(type(block(width=4, level=level, number=number)), int)


class Thinned(unittest.TestCase):
    def check(self, width, level, row):
        handed_in = list(row)
        told = thinned(width, level, handed_in)
        with self.subTest(width=width, level=level, row=row):
            self.assertIs(type(told), list)
            self.assertEqual(told, least_of_blocks(width, level, row))
            self.assertEqual(told, sorted(told))
            self.assertEqual(handed_in, row)
            self.assertIsNot(told, handed_in)
            for number in told:
                self.assertIs(type(number), int)

    def check_all_levels(self, row):
        for width in WIDTHS:
            for level in LEVELS:
                self.check(width, level, row)

    def test_the_empty_row(self):
        self.assertEqual(thinned(2, 0, []), [])
        self.check_all_levels([])

    def test_a_row_of_one_number(self):
        for number in (0, 1, 8, 4095, FORTY_DIGITS):
            for level in LEVELS:
                self.assertEqual(thinned(2, level, [number]), [number])
            self.check_all_levels([number])

    def test_a_row_that_lies_all_in_one_block(self):
        for width in WIDTHS:
            for level in HEIGHTS:
                first = 5 * multiplied(width, level)
                row = list(range(first, first + width))
                self.assertEqual(thinned(width, level, row), [first])
                # The least of those that are kept need not be the block's first.
                self.assertEqual(thinned(width, level, row[1:]), [first + 1])
                self.check(width, level, row)

    def test_on_level_zero_all_stay(self):
        for width in WIDTHS:
            for row in ([0], [0, 1, 2, 3], [5, 7, 1000, FORTY_DIGITS]):
                self.assertEqual(thinned(width, 0, row), row)

    def test_on_level_twelve(self):
        for width in WIDTHS:
            limit = multiplied(width, 12)
            row = [3, 4, limit - 1, limit, limit + 1, 2 * limit - 1, 2 * limit + 5]
            self.assertEqual(thinned(width, 12, row), [3, limit, 2 * limit + 5])
            self.assertEqual(thinned(width, 12, row[:3]), [3])

    def test_written_out(self):
        row = [0, 1, 2, 4, 5, 8]
        self.assertEqual(thinned(3, 0, row), [0, 1, 2, 4, 5, 8])
        self.assertEqual(thinned(3, 1, row), [0, 4, 8])
        self.assertEqual(thinned(3, 2, row), [0])

    def test_a_block_begins_at_its_edge(self):
        self.assertEqual(thinned(2, 2, [2, 3, 4, 5, 7, 8]), [2, 4, 8])
        for width in WIDTHS:
            for level in HEIGHTS:
                edge = 7 * multiplied(width, level)
                self.assertEqual(thinned(width, level, [edge - 1, edge]), [edge - 1, edge])
                self.assertEqual(thinned(width, level, [edge, edge + 1]), [edge])

    def test_rows_with_wide_gaps(self):
        self.check_all_levels([0, 1, 81, 82, 6561, 43046721, 43046722, 282429536480])
        self.check_all_levels([17, 4096, 4097, 10 ** 12, 10 ** 12 + 1, FORTY_DIGITS, FORTY_DIGITS + 1])

    def test_rows_of_some_sixty_numbers(self):
        for below, stride in ((67, 1), (1009, 7), (4093, 11), (282429536401, 987654321)):
            row = scattered(60, below, stride)
            self.assertGreater(len(row), 25)
            self.check_all_levels(row)
        self.check_all_levels(list(range(60)))
        self.check_all_levels([step ** 5 for step in range(60)])

    def test_more_than_a_hundred_numbers(self):
        self.check(5, 2, list(range(0, 300, 2)))

    def test_the_answer_is_the_askers_own(self):
        for level in (0, 1, 2):
            row = [1, 4, 6]
            told = thinned(width=3, level=level, row=row)
            told.append(9)
            self.assertEqual(row, [1, 4, 6])

    def test_what_stands_on_a_level_stands_on_every_level_beneath(self):
        row = scattered(60, 4093, 11)
        for width in WIDTHS:
            for level in HEIGHTS:
                beneath = thinned(width, level - 1, row)
                for number in thinned(width, level, row):
                    self.assertIn(number, beneath)


class Tall(unittest.TestCase):
    def test_with_none_before_it_is_one_more_than_the_height(self):
        for width in WIDTHS:
            for high in HEIGHTS:
                for number in (0, 1, multiplied(width, high) - 1):
                    self.assertEqual(tall(width, high, None, number), high + 1)

    def test_zero_before_is_not_none_before(self):
        self.assertEqual(tall(2, 1, 0, 1), 1)
        self.assertEqual(tall(9, 12, 0, 1), 1)

    def test_numbers_in_one_block_from_level_one_on(self):
        for width in WIDTHS:
            for high in HEIGHTS:
                first = multiplied(width, high) - width
                for before in range(first, first + width):
                    for number in range(before + 1, first + width):
                        self.assertEqual(tall(width, high, before, number), 1)

    def test_one_apart_on_either_side_of_an_edge(self):
        for width in WIDTHS:
            for high in HEIGHTS:
                for level in range(high):
                    for which in range(1, width):
                        edge = which * multiplied(width, level)
                        with self.subTest(width=width, high=high, edge=edge):
                            self.assertEqual(tall(width, high, edge - 1, edge), level + 1)

    def test_the_least_and_the_greatest_number(self):
        for width in WIDTHS:
            for high in HEIGHTS:
                greatest = multiplied(width, high) - 1
                self.assertEqual(tall(width, high, 0, greatest), high)
                self.assertEqual(tall(width, high, greatest - 1, greatest), 1)
                self.assertEqual(tall(width, high, None, greatest), high + 1)

    def test_the_least_and_the_greatest_sizes(self):
        self.assertEqual(tall(2, 1, None, 0), 2)
        self.assertEqual(tall(2, 1, 0, 1), 1)
        self.assertEqual(tall(2, 12, 0, 4095), 12)
        self.assertEqual(tall(2, 12, 2047, 2048), 12)
        self.assertEqual(tall(2, 12, 2046, 2047), 1)
        self.assertEqual(tall(9, 1, 0, 8), 1)
        self.assertEqual(tall(9, 1, None, 8), 2)
        self.assertEqual(tall(9, 12, 0, 282429536480), 12)
        self.assertEqual(tall(9, 12, 282429536479, 282429536480), 1)
        self.assertEqual(tall(9, 12, None, 282429536480), 13)

    def test_written_out(self):
        self.assertEqual(tall(3, 2, None, 1), 3)
        self.assertEqual(tall(3, 2, 1, 2), 1)
        self.assertEqual(tall(3, 2, 2, 3), 2)
        self.assertEqual(tall(3, 2, 3, 8), 2)
        self.assertEqual(tall(10, 3, 99, 100), 3)

    def test_not_above_one_more_than_the_height(self):
        self.assertEqual(tall(2, 1, 0, 2), 2)
        self.assertEqual(tall(2, 1, 0, FORTY_DIGITS), 2)
        self.assertEqual(tall(3, 2, 8, 9), 3)

    def test_every_pair_of_small_ladders(self):
        for width, high in ((2, 1), (2, 4), (3, 3), (9, 1), (5, 2)):
            limit = multiplied(width, high)
            for number in range(limit):
                for before in [None] + list(range(number)):
                    told = tall(width, high, before, number)
                    self.assertEqual(told, levels_stood_on(width, high, before, number))
                    self.assertIn(told, range(1, high + 2))

    def test_a_number_stands_on_just_so_many_levels_of_a_row(self):
        for width in WIDTHS:
            for high in (1, 2, 5, 12):
                limit = multiplied(width, high)
                row = scattered(60, limit, 987654321)
                stood = [thinned(width, level, row) for level in range(high + 1)]
                for before, number in zip([None] + row, row):
                    told = tall(width, high, before, number)
                    for level in range(high + 1):
                        self.assertEqual(number in stood[level], level < told)

    def test_whole_numbers_by_the_names_of_the_interface(self):
        for before in (None, 0, 5, 7):
            self.assertIs(type(tall(width=2, high=3, before=before, number=8)), int)
