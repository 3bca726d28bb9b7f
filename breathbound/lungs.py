"""Makes of lungs: whether they are right, and how much may be blown by them for the next tick.

A make is handed in as its twelve whole numbers, each 0 or more.
"""

TWO_TO_20 = 1048576
TWO_TO_24 = 16777216
COUNT_MOST = 65535

# Stiffness and narrowness are told in parts of this many, so pressures are reckoned in such parts too.
PARTS = 65536

# The form of an answer that is a number alone, refusals among them.
FORM_NUMBER = 0

REFUSED = -22


def answer_number(number):
    return [FORM_NUMBER, number]


def make_is_right(near, cough, limit, pull, stiff, narrow, most, volume, in_most, out_least, next_most, longer):
    # Whole numbers are never below 0, so only those that must not be 0 have a least one asked for.
    return (
        max(near, cough, limit, pull, stiff) <= TWO_TO_20
        and narrow <= TWO_TO_24
        and 1 <= most <= COUNT_MOST
        and 1 <= volume <= TWO_TO_24
        and 1 <= in_most <= COUNT_MOST
        and 1 <= out_least <= next_most <= COUNT_MOST
        and 1 <= longer <= COUNT_MOST
    )


def br_right(near, cough, limit, pull, stiff, narrow, most, volume, in_most, out_least, next_most, longer):
    if make_is_right(
        near, cough, limit, pull, stiff, narrow, most, volume, in_most, out_least, next_most, longer
    ):
        return answer_number(0)
    return answer_number(REFUSED)


def may_be_blown(near, cough, limit, stiff, narrow, x, f, g):
    # Of f nobody knows how much is really blown; the pressure in the next tick is highest if none or all of it is.
    in_next_tick = PARTS * (x + near + cough) + max(narrow * g, stiff * f + narrow * max(g - f, 0))
    in_tick_behind = PARTS * (x + near + 2 * cough) + stiff * (f + g)
    return max(in_next_tick, in_tick_behind) <= PARTS * limit


def greatest_that_may_be_blown(near, cough, limit, stiff, narrow, most, x, f):
    # Where an amount may be blown each lesser one may be too, so halving finds where that ends.
    may = 0
    beyond = most + 1
    while may + 1 < beyond:
        g = (may + beyond) // 2
        if may_be_blown(near, cough, limit, stiff, narrow, x, f, g):
            may = g
        else:
            beyond = g
    return may


def br_most(near, cough, limit, pull, stiff, narrow, most, volume, in_most, out_least, next_most, longer, x, f):
    right = make_is_right(
        near, cough, limit, pull, stiff, narrow, most, volume, in_most, out_least, next_most, longer
    )
    if not right or f > most:
        return answer_number(REFUSED)
    return answer_number(greatest_that_may_be_blown(near, cough, limit, stiff, narrow, most, x, f))
