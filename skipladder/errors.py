"""The refusals of the program, one class for each kind."""


class LadderError(ValueError):
    """Any refusal."""


class BadSize(LadderError):
    """A width or a height that is none."""


class OutOfRange(LadderError):
    """A number that the ladder cannot keep, or that lies outside of it."""


class Present(LadderError):
    """A number that is kept already."""


class Missing(LadderError):
    """A number that is not kept, or does not stand on the level."""


class NoLevel(LadderError):
    """A level that the ladder does not have."""


class NoPlace(LadderError):
    """A place at which no kept number is."""


class OtherSize(LadderError):
    """Two ladders that differ in width or height."""
