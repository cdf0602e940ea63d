"""The ladder: whole numbers in order, on the levels that the numbers tell."""

from skipladder.blocks import block, power, tall, thinned
from skipladder.errors import BadSize, Missing, NoLevel, NoPlace, OutOfRange, Present


class Ladder:
    """Keeps whole numbers from 0 to below its limit, each once.

    A spot is an index of the row of all kept numbers.
    """

    # The row is all that a ladder remembers of its numbers. Levels, gaps and
    # trails are worked out of it when they are asked for, so ladders with the
    # same numbers tell the same, whatever was done to them.

    def __init__(self, width, high):
        if width < 2 or width > 9:
            raise BadSize("a width is from 2 to 9")
        if high < 1 or high > 12:
            raise BadSize("a height is from 1 to 12")
        self.width = width
        self.high = high
        self.limit = power(width, high)
        self.many = 0
        self._row = []

    def put(self, number):
        """Keeps the number; tells the changes, a tuple (level, came, went) each."""
        if self.has(number):
            raise Present("the number is kept already")
        self._row.insert(self._spot(number), number)
        self.many = len(self._row)
        return [(level, number, went) for level, went in enumerate(self._heirs(number))]

    def take(self, number):
        """Keeps the number no more; tells the changes, a tuple (level, came, went) each."""
        if not self.has(number):
            raise Missing("the number is not kept")
        heirs = self._heirs(number)
        self._row.remove(number)
        self.many = len(self._row)
        return [(level, came, number) for level, came in enumerate(heirs)]

    def has(self, number):
        """Whether the number is kept."""
        self._check_number(number)
        return number in self._row

    def row(self):
        """All kept numbers, rising."""
        return list(self._row)

    def level(self, level):
        """The numbers that stand on the level, rising."""
        self._check_level(level)
        return thinned(self.width, level, self._row)

    def ahead(self, level, number):
        """The next number on the level, None behind the last one, and the gap to it."""
        self._check_level(level)
        begin = self._begin(level, number)
        spot = self._spot(begin)
        if self._at_or_none(spot) != number:
            raise Missing("the number does not stand on the level")
        reach = self._reach(level, spot)
        return (self._at_or_none(reach), reach - spot)

    def trail(self, number):
        """The places (level, number) at which the search for the number stands."""
        self._check_number(number)
        return self._walk(self._spot(number + 1) - 1)

    def below(self, number):
        """The greatest kept number that is not above this one, or None."""
        self._check_number(number)
        return self._before(self._spot(number + 1))

    def above(self, number):
        """The least kept number that is not below this one, or None."""
        self._check_number(number)
        return self._at_or_none(self._spot(number))

    def place(self, number):
        """How many kept numbers are less than this one."""
        self._check_end(number)
        return self._spot(number)

    def at(self, place):
        """The kept number at the place."""
        self._check_place(place)
        return self._row[place]

    def way(self, place):
        """The places (level, number) on the way to the number at the place."""
        self._check_place(place)
        return self._walk(place)

    def stretch(self, low, high):
        """All kept numbers from low on that are below high, rising."""
        self._check_end(low)
        self._check_end(high)
        return [number for number in self._row if low <= number and number < high]

    def counted(self, low, high):
        """How many kept numbers from low on are below high."""
        return len(self.stretch(low, high))

    def _check_number(self, number):
        if number < 0 or number >= self.limit:
            raise OutOfRange("what can be kept is from 0 to below the limit")

    def _check_end(self, number):
        if number < 0 or number > self.limit:
            raise OutOfRange("the numbers here are from 0 to the limit")

    def _check_level(self, level):
        if level < 0 or level > self.high:
            raise NoLevel("the levels are from 0 to the height")

    def _check_place(self, place):
        if place < 0 or place >= self.many:
            raise NoPlace("the places are from 0 to below how many are kept")

    def _spot(self, number):
        """Where in the row the number is or would be."""
        return len([kept for kept in self._row if kept < number])

    def _at_or_none(self, spot):
        """The number at the spot, None for the one behind the row's end."""
        if spot == self.many:
            return None
        return self._row[spot]

    def _before(self, spot):
        """The number right before the spot, None at the row's begin."""
        if spot == 0:
            return None
        return self._row[spot - 1]

    def _begin(self, level, number):
        """The first number of the number's block on the level."""
        return block(self.width, level, number) * power(self.width, level)

    def _reach(self, level, spot):
        """The spot of the next number on the level, behind the row's end if none."""
        # The next one there is the least kept number of a block further on.
        begin = self._begin(level, self._row[spot])
        return self._spot(begin + power(self.width, level))

    def _heirs(self, number):
        """Who stands without the kept number where it stands, from level 0 up.

        None on the levels on which nobody comes in its stead.
        """
        spot = self._spot(number)
        levels = tall(self.width, self.high, self._before(spot), number)
        after = self._at_or_none(spot + 1)
        if after is None:
            return [None] * levels
        # On these levels the next one stands beside the number already.
        beside = tall(self.width, self.high, number, after)
        return [None if level < beside else after for level in range(levels)]

    def _walk(self, last):
        """The places of a search that ends at the spot last; none if it is below 0.

        A trail goes right to what is not greater than the wanted number, a way
        to what is not further than is left. The row rises, so both go right
        just as long as the next number's spot is not behind the last one.
        """
        places = []
        if last < 0:
            return places
        level = self.high
        spot = 0
        while level >= 0:
            places.append((level, self._row[spot]))
            reach = self._reach(level, spot)
            if reach <= last:
                spot = reach
            else:
                level = level - 1
        return places
