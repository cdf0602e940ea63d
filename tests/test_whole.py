"""The whole program: point [15], the kinds of what is told, and README.md."""

import doctest
import os
import unittest

from skipladder.errors import BadSize, LadderError, Missing, NoLevel, NoPlace, OtherSize, OutOfRange, Present
from skipladder.ladder import Ladder
from skipladder.parts import cut, poured
from tests.words import FULL, GREAT, SEVEN, LadderTest, Words, crowded, filled

README = os.path.join(os.path.dirname(os.path.dirname(os.path.abspath(__file__))), "README.md")


def rising(width, high, numbers):
    return filled(width, high, sorted(numbers))


def falling(width, high, numbers):
    return filled(width, high, sorted(numbers, reverse=True))


def with_guests(width, high, numbers):
    """Others come in between, and go again."""
    ladder = Ladder(width, high)
    guests = [number for number in Words(width, high, numbers).probes() if number not in numbers][:40]
    for number in guests:
        ladder.put(number)
    for number in numbers:
        ladder.put(number)
    for number in reversed(guests):
        ladder.take(number)
    return ladder


def emptied_between(width, high, numbers):
    ladder = filled(width, high, numbers)
    for number in numbers:
        ladder.take(number)
    for number in reversed(numbers):
        ladder.put(number)
    return ladder


def each_taken_once(width, high, numbers):
    ladder = filled(width, high, numbers)
    for number in sorted(numbers):
        ladder.take(number)
        ladder.put(number)
    return ladder


def refused_often(width, high, numbers):
    ladder = Ladder(width, high)
    for number in numbers:
        for call, bad in ((ladder.take, number), (ladder.put, -1), (ladder.put, ladder.limit)):
            try:
                call(bad)
            except LadderError:
                pass
        ladder.put(number)
        try:
            ladder.put(number)
        except LadderError:
            pass
    return ladder


def rest_of_a_cut(width, high, numbers):
    """What is left when all from the greatest number on is cut off, and that put in again."""
    ladder = filled(width, high, numbers)
    cut(ladder, max(numbers))
    ladder.put(max(numbers))
    return ladder


def cut_off(width, high, numbers):
    return cut(filled(width, high, numbers), 0)


def cut_and_poured_back(width, high, numbers):
    ladder = filled(width, high, numbers)
    poured(ladder, cut(ladder, sorted(numbers)[len(numbers) // 2]))
    return ladder


def poured_by_turns(width, high, numbers):
    ladder = Ladder(width, high)
    poured(ladder, filled(width, high, sorted(numbers)[::2]))
    poured(ladder, filled(width, high, sorted(numbers)[1::2]))
    return ladder


def poured_from(width, high, numbers):
    """A ladder that was poured into another one, from which all was taken then."""
    ladder = filled(width, high, numbers)
    other = Ladder(width, high)
    poured(other, ladder)
    for number in numbers:
        other.take(number)
    return ladder


PASTS = [
    filled,
    rising,
    falling,
    with_guests,
    emptied_between,
    each_taken_once,
    refused_often,
    rest_of_a_cut,
    cut_off,
    cut_and_poured_back,
    poured_by_turns,
    poured_from,
]


class WhateverWasDone(LadderTest):
    def check_all_pasts(self, width, high, numbers, later):
        for past in PASTS:
            ladder = past(width, high, numbers)
            words = Words(width, high, numbers)
            with self.subTest(width=width, high=high, past=past.__name__):
                self.check(ladder, width, high, numbers)
                for number in later:
                    words, _ = self.deed(ladder, words, number not in words.kept, number)
                self.check(ladder, width, high, words.kept)

    def test_small_ladders(self):
        for width, high in FULL:
            limit = width ** high
            numbers = crowded(limit // 2, limit, 59)
            # Each number is put in or taken out once, some twice.
            self.check_all_pasts(width, high, numbers, list(range(limit)) + list(range(0, limit, 3)))

    def test_great_ladders(self):
        for width, high in GREAT:
            limit = width ** high
            numbers = crowded(40, limit, 61)
            self.check_all_pasts(width, high, numbers, crowded(45, limit, 67) + sorted(numbers)[::2])

    def test_a_hundred_numbers(self):
        limit = 9 ** 12
        numbers = crowded(100, limit, 71)
        for past in (filled, falling, emptied_between, cut_and_poured_back, poured_by_turns):
            ladder = past(9, 12, numbers)
            self.check(ladder, 9, 12, numbers)

    def test_ladders_at_one_time_do_not_meddle_with_each_other(self):
        sizes = [(2, 3), (2, 3), (3, 3), (9, 12)]
        ladders = [Ladder(*size) for size in sizes]
        kept = [[], [], [], []]
        for step, number in enumerate((5, 0, 7, 1, 6, 2)):
            for which in range(4):
                if (step + which) % 3:
                    ladders[which].put(number)
                    kept[which].append(number)
            for ladder, size, numbers in zip(ladders, sizes, kept):
                self.check(ladder, *size, numbers)

    def test_what_is_asked_changes_nothing(self):
        for width, high in ((2, 3), (3, 3), (9, 12)):
            numbers = crowded(9, width ** high, 73)
            ladder = filled(width, high, numbers)
            self.check(ladder, width, high, numbers)
            self.check(ladder, width, high, numbers)


class Kinds(LadderTest):
    def whole(self, *told):
        for number in told:
            self.assertIs(type(number), int)

    def test_all_numbers_are_whole_and_has_tells_true_or_false(self):
        ladder = Ladder(2, 3)
        for number in (1, 0, 5, 4):
            changes = ladder.put(number)
            self.assertIs(type(changes), list)
            for change in changes:
                self.assertIs(type(change), tuple)
                self.whole(*[part for part in change if part is not None])
        for field in (ladder.width, ladder.high, ladder.limit, ladder.many):
            self.whole(field)
        self.assertIs(ladder.has(1), True)
        self.assertIs(ladder.has(0), True)
        self.assertIs(ladder.has(2), False)
        for told in (ladder.row(), ladder.level(0), ladder.level(1), ladder.stretch(0, 8)):
            self.assertIs(type(told), list)
            self.whole(*told)
        for told in (ladder.trail(1), ladder.way(1), ladder.trail(7), ladder.way(3)):
            self.assertIs(type(told), list)
            for step in told:
                self.assertIs(type(step), tuple)
                self.whole(*step)
        for told in (ladder.ahead(0, 0), ladder.ahead(1, 0)):
            self.assertIs(type(told), tuple)
            self.whole(*told)
        self.assertIs(type(ladder.ahead(3, 0)), tuple)
        self.whole(ladder.below(0), ladder.below(1), ladder.above(0), ladder.above(1))
        self.whole(ladder.place(0), ladder.place(1), ladder.at(0), ladder.at(1))
        self.whole(ladder.counted(0, 1), ladder.counted(0, 2), ladder.counted(1, 0))


class Refusals(unittest.TestCase):
    def test_each_is_caught_by_its_own_kind_and_by_none_of_the_other_six(self):
        ladder = filled(2, 3, [1, 5])
        calls = [
            (BadSize, lambda: Ladder(1, 3)),
            (BadSize, lambda: Ladder(2, 13)),
            (OutOfRange, lambda: ladder.put(8)),
            (OutOfRange, lambda: ladder.take(-1)),
            (OutOfRange, lambda: ladder.has(8)),
            (OutOfRange, lambda: ladder.trail(8)),
            (OutOfRange, lambda: ladder.below(8)),
            (OutOfRange, lambda: ladder.above(8)),
            (OutOfRange, lambda: ladder.place(9)),
            (OutOfRange, lambda: ladder.stretch(0, 9)),
            (OutOfRange, lambda: ladder.counted(9, 0)),
            (OutOfRange, lambda: cut(ladder, 9)),
            (Present, lambda: ladder.put(5)),
            (Present, lambda: poured(ladder, ladder)),
            (Missing, lambda: ladder.take(2)),
            (Missing, lambda: ladder.ahead(3, 5)),
            (NoLevel, lambda: ladder.level(4)),
            (NoLevel, lambda: ladder.ahead(-1, 1)),
            (NoPlace, lambda: ladder.at(2)),
            (NoPlace, lambda: ladder.way(-1)),
            (OtherSize, lambda: poured(ladder, Ladder(8, 1))),
        ]
        self.assertEqual({kind for kind, _ in calls}, set(SEVEN))
        for kind, call in calls:
            for catcher in SEVEN + [LadderError, ValueError]:
                with self.subTest(kind=kind.__name__, catcher=catcher.__name__):
                    caught = self.caught(call, catcher)
                    self.assertEqual(caught, catcher in (kind, LadderError, ValueError))
        self.assertEqual(ladder.row(), [1, 5])

    def caught(self, call, catcher):
        try:
            call()
        except catcher:
            return True
        except Exception:
            return False
        self.fail("nothing is refused")


class Readme(unittest.TestCase):
    def test_its_examples_tell_what_they_say(self):
        failures, tries = doctest.testfile(README, module_relative=False)
        self.assertEqual(failures, 0)
        self.assertGreater(tries, 10)
