"""What the tests of ladders share.

Words is what DOC.md says of a ladder, worked out word by word from its numbers
alone. It uses nothing of the program, so that the program can be held against it.
"""

import unittest

from skipladder.errors import (
    BadSize,
    LadderError,
    Missing,
    NoLevel,
    NoPlace,
    OtherSize,
    OutOfRange,
    Present,
)
from skipladder.ladder import Ladder

WIDTHS = range(2, 10)
HEIGHTS = range(1, 13)
SIZES = [(width, high) for width in WIDTHS for high in HEIGHTS]
# Each of these can be filled to the last number: no more than 100 are kept.
SMALL = [(2, 1), (9, 1), (2, 2), (3, 2), (2, 3), (3, 3), (5, 2), (2, 5)]
FULL = SMALL + [(2, 6), (3, 4), (4, 3), (8, 2), (9, 2)]
GREAT = [(2, 12), (9, 12), (3, 7), (5, 5), (7, 3), (4, 9), (8, 6)]
FAR = 10 ** 40
SEVEN = [BadSize, OutOfRange, Present, Missing, NoLevel, NoPlace, OtherSize]


class Words:
    """What a ladder of that size with just these numbers is to tell."""

    def __init__(self, width, high, numbers=()):
        self.width = width
        self.high = high
        self.limit = width ** high
        self.kept = sorted(set(numbers))
        self.levels = [self.stand(level) for level in range(high + 1)]
        self.aheads = {}

    def stand(self, level):
        """Point [3]: of each block, the least kept number."""
        blocks = {}
        for number in self.kept:
            blocks.setdefault(number // self.width ** level, []).append(number)
        return sorted(min(numbers) for numbers in blocks.values())

    def ahead(self, level, number):
        """Point [8]: the next one on the level, and how many lie from the number to it."""
        if (level, number) not in self.aheads:
            greater = [other for other in self.levels[level] if other > number]
            following = min(greater, default=None)
            end = self.limit if following is None else following
            self.aheads[level, number] = (following, len(self.stretch(number, end)))
        return self.aheads[level, number]

    def trail(self, wanted):
        """Point [9]: right where the next one is not greater than the wanted one, else down."""
        if not any(kept <= wanted for kept in self.kept):
            return []
        places = [(self.high, self.kept[0])]
        while True:
            level, number = places[-1]
            following = self.ahead(level, number)[0]
            if following is not None and following <= wanted:
                places.append((level, following))
            elif level > 0:
                places.append((level - 1, number))
            else:
                return places

    def way(self, place):
        """Point [12]: right where the gap is not greater than what is left, else down."""
        places = [(self.high, self.kept[0])]
        left = place
        while True:
            level, number = places[-1]
            following, gap = self.ahead(level, number)
            if following is not None and gap <= left:
                places.append((level, following))
                left = left - gap
            elif level > 0:
                places.append((level - 1, number))
            else:
                return places

    def below(self, number):
        return max((kept for kept in self.kept if kept <= number), default=None)

    def above(self, number):
        return min((kept for kept in self.kept if kept >= number), default=None)

    def place(self, number):
        return len([kept for kept in self.kept if kept < number])

    def stretch(self, low, high):
        return [kept for kept in self.kept if low <= kept < high]

    def changes(self, later):
        """Point [5]: what this ladder's deed tells that makes it the later one."""
        told = []
        for level, (old, new) in enumerate(zip(self.levels, later.levels)):
            came = [number for number in new if number not in old]
            went = [number for number in old if number not in new]
            assert len(came) <= 1 and len(went) <= 1
            if came or went:
                told.append((level, came[0] if came else None, went[0] if went else None))
        return told

    def with_number(self, number):
        return Words(self.width, self.high, self.kept + [number])

    def without_number(self, number):
        return Words(self.width, self.high, [kept for kept in self.kept if kept != number])

    def probes(self):
        """Numbers to ask for: all of them, or those about the kept ones and the ends."""
        if self.limit <= 100:
            return list(range(self.limit))
        near = {0, 1, self.limit // 2, self.limit - 2, self.limit - 1}
        for number in self.kept:
            near.update((number - 1, number, number + 1))
        return sorted(number for number in near if 0 <= number < self.limit)

    def ends(self):
        """Pairs of ends of stretches: some in order, some equal, some turned about."""
        some = self.probes()
        some = some[:: max(1, len(some) // 6)] + [self.limit]
        return [(low, high) for low in some for high in some]

    def told(self):
        """All that such a ladder tells, by what is asked."""
        levels = range(self.high + 1)
        places = range(len(self.kept))
        probes = self.probes()
        return {
            "fields": [self.width, self.high, self.limit, len(self.kept)],
            "row": self.kept,
            "levels": self.levels,
            "ahead": [[self.ahead(level, number) for number in self.levels[level]] for level in levels],
            "has": [number in self.kept for number in probes],
            "trails": [self.trail(number) for number in probes],
            "below": [self.below(number) for number in probes],
            "above": [self.above(number) for number in probes],
            "places": [self.place(number) for number in probes + [self.limit]],
            "at": [self.kept[place] for place in places],
            "ways": [self.way(place) for place in places],
            "stretches": [self.stretch(low, high) for low, high in self.ends()],
            "counted": [len(self.stretch(low, high)) for low, high in self.ends()],
        }


def told_by(ladder, words):
    """All that the ladder tells, asked in the order of Words.told."""
    levels = range(words.high + 1)
    places = range(len(words.kept))
    probes = words.probes()
    return {
        "fields": [ladder.width, ladder.high, ladder.limit, ladder.many],
        "row": ladder.row(),
        "levels": [ladder.level(level) for level in levels],
        "ahead": [[ladder.ahead(level, number) for number in words.levels[level]] for level in levels],
        "has": [ladder.has(number) for number in probes],
        "trails": [ladder.trail(number) for number in probes],
        "below": [ladder.below(number) for number in probes],
        "above": [ladder.above(number) for number in probes],
        "places": [ladder.place(number) for number in probes + [words.limit]],
        "at": [ladder.at(place) for place in places],
        "ways": [ladder.way(place) for place in places],
        "stretches": [ladder.stretch(low, high) for low, high in words.ends()],
        "counted": [ladder.counted(low, high) for low, high in words.ends()],
    }


def filled(width, high, numbers):
    """A ladder into which these numbers are put, in their order."""
    ladder = Ladder(width, high)
    for number in numbers:
        ladder.put(number)
    return ladder


def spread(many, limit, stride):
    """Up to so many different numbers below the limit, in no order, the same ones each time."""
    numbers = []
    number = stride % limit
    for _ in range(4 * many):
        number = (number * 6364136223846793005 + 1442695040888963407) % (1 << 64)
        if number % limit not in numbers:
            numbers.append(number % limit)
        if len(numbers) == many:
            break
    return numbers


def crowded(many, limit, stride):
    """Up to so many numbers, in no order: at both ends, side by side and far apart."""
    third = many // 3
    ends = list(range(third)) + list(range(limit - third, limit))
    numbers = {number for number in ends + spread(many - 2 * third, limit, stride) if 0 <= number < limit}
    return sorted(numbers, key=lambda number: (number + stride) * 6364136223846793005 % (1 << 64) >> 20)


class LadderTest(unittest.TestCase):
    """The checks that the tests of ladders share."""

    def same(self, told, meant, why=""):
        """The same value, of the same kinds throughout: True is no 1, a tuple no list."""
        if repr(told) != repr(meant):
            self.fail(f"{why}: {repr(told)[:2000]} is not {repr(meant)[:2000]}")

    def check(self, ladder, width, high, numbers):
        """The ladder tells what one of that size with just these numbers is to tell."""
        words = Words(width, high, numbers)
        told = told_by(ladder, words)
        for asked, meant in words.told().items():
            self.same(told[asked], meant, asked)

    def deed(self, ladder, words, puts, number):
        """Puts the number in or takes it out, and gives the words behind that and the changes told."""
        later = words.with_number(number) if puts else words.without_number(number)
        told = ladder.put(number) if puts else ladder.take(number)
        self.same(told, words.changes(later), ("put" if puts else "take", number))
        return later, told

    def refused(self, kind, call, *arguments):
        """The call is refused with that kind and with none of the other six."""
        with self.assertRaises(kind) as caught:
            call(*arguments)
        self.assertIsInstance(caught.exception, LadderError)
        self.assertIsInstance(caught.exception, ValueError)
        for other in SEVEN:
            if other is not kind:
                self.assertNotIsInstance(caught.exception, other)
