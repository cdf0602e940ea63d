"""Blocks of numbers on a level, and who stands on which level."""


def power(width, level):
    """The width multiplied by itself as often as the level tells."""
    answer = 1
    for _ in range(level):
        answer = answer * width
    return answer


def block(width, level, number):
    """The number's block on the level."""
    return number // power(width, level)


def thinned(width, level, row):
    """Of a rising row, a new list of the least number of each block."""
    least = []
    for number in row:
        # The row rises, so a block's numbers lie side by side and the last
        # one in the list is the only one that can share this number's block.
        if not least or block(width, level, least[-1]) != block(width, level, number):
            least.append(number)
    return least


def tall(width, high, before, number):
    """On how many of the levels from 0 to high the number stands.

    The next lesser kept number is before, None where there is none.
    """
    if before is None:
        return high + 1
    levels = 0
    for level in range(high + 1):
        if block(width, level, before) != block(width, level, number):
            levels = levels + 1
    return levels
