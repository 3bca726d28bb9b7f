"""Makes of lungs, and whether they are right.

A make is handed in as its twelve whole numbers, each 0 or more.
"""

TWO_TO_20 = 1048576
TWO_TO_24 = 16777216
COUNT_MOST = 65535

# The form of an answer that is a number alone, refusals among them.
FORM_NUMBER = 0

REFUSED = -22


def answer_number(number):
    return [FORM_NUMBER, number]


def make_is_right(near, cough, limit, pull, stiff, narrow, most, volume, in_most, out_least, next_most, longer):
    # Whole numbers are never below 0, so only those that must not be 0 have a least one asked for.
    return (
        max(near, cough, limit, pull, stiff) <= TWO_TO_20
        and narrow <= TWO_TO_24
        and 1 <= most <= COUNT_MOST
        and 1 <= volume <= TWO_TO_24
        and 1 <= in_most <= COUNT_MOST
        and 1 <= out_least <= next_most <= COUNT_MOST
        and 1 <= longer <= COUNT_MOST
    )


def br_right(near, cough, limit, pull, stiff, narrow, most, volume, in_most, out_least, next_most, longer):
    if make_is_right(
        near, cough, limit, pull, stiff, narrow, most, volume, in_most, out_least, next_most, longer
    ):
        return answer_number(0)
    return answer_number(REFUSED)
