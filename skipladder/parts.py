"""Ladders cut in two, and ladders poured into one another."""

from skipladder.errors import OtherSize, Present
from skipladder.ladder import Ladder


def cut(ladder, number):
    """Moves all kept numbers from this one on into a new ladder, and gives that."""
    # A number that is none is refused right here, ahead of any change.
    moved = ladder.stretch(number, ladder.limit)
    other = Ladder(ladder.width, ladder.high)
    for kept in moved:
        ladder.take(kept)
        other.put(kept)
    return other


def poured(ladder, other):
    """Puts all numbers of the other ladder into the ladder, too."""
    if ladder.width != other.width or ladder.high != other.high:
        raise OtherSize("the ladders differ in width or height")
    numbers = other.row()
    # All are looked at before the first is put in, so a refusal changes nothing.
    for number in numbers:
        if ladder.has(number):
            raise Present("a number is kept in both ladders")
    for number in numbers:
        ladder.put(number)
