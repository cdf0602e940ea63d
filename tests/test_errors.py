"""The classes of skipladder.errors."""

import unittest

from skipladder.errors import (
    BadSize,
    LadderError,
    Missing,
    NoLevel,
    NoPlace,
    OtherSize,
    OutOfRange,
    Present,
)

SEVEN = [BadSize, OutOfRange, Present, Missing, NoLevel, NoPlace, OtherSize]


class Errors(unittest.TestCase):
    def test_ladder_error_stands_right_under_value_error(self):
        self.assertEqual(LadderError.__bases__, (ValueError,))

    def test_each_of_the_seven_stands_right_under_ladder_error(self):
        for kind in SEVEN:
            with self.subTest(kind=kind.__name__):
                self.assertEqual(kind.__bases__, (LadderError,))

    def test_each_is_caught_by_its_own_name(self):
        for kind in [LadderError] + SEVEN:
            with self.subTest(kind=kind.__name__):
                with self.assertRaises(kind) as caught:
                    raise kind("why")
                self.assertIs(caught.exception.__class__, kind)
                self.assertEqual(str(caught.exception), "why")

    def test_each_is_caught_by_ladder_error_and_by_value_error(self):
        for kind in SEVEN:
            for above in (LadderError, ValueError):
                with self.subTest(kind=kind.__name__, above=above.__name__):
                    with self.assertRaises(above):
                        raise kind("why")

    def test_each_can_be_raised_without_words(self):
        for kind in [LadderError] + SEVEN:
            with self.subTest(kind=kind.__name__):
                with self.assertRaises(kind):
                    raise kind()

    def test_none_of_the_seven_is_caught_by_another(self):
        for kind in SEVEN:
            for other in SEVEN:
                if other is not kind:
                    with self.subTest(kind=kind.__name__, other=other.__name__):
                        self.assertEqual(self.caught_first_by(kind, other), "ladder")

    def test_a_bare_ladder_error_is_caught_by_none_of_the_seven(self):
        for other in SEVEN:
            with self.subTest(other=other.__name__):
                self.assertEqual(self.caught_first_by(LadderError, other), "ladder")

    def test_a_bare_value_error_is_caught_by_none_of_them(self):
        for other in [LadderError] + SEVEN:
            with self.subTest(other=other.__name__):
                self.assertNotIsInstance(ValueError("why"), other)

    def caught_first_by(self, kind, other):
        try:
            raise kind("why")
        except other:
            return "other"
        except LadderError:
            return "ladder"
