"""Makes for the tests, and the bounds that the document tells of them."""

# Every number lies well within its bounds, so that a test that moves one moves nothing else out of them.
ORDINARY = {
    "near": 500,
    "cough": 2000,
    "limit": 40000,
    "pull": 1500,
    "stiff": 3000,
    "narrow": 90000,
    "most": 12000,
    "volume": 600000,
    "in_most": 150,
    "out_least": 100,
    "next_most": 400,
    "longer": 50,
}

GREATEST = {
    "near": 1048576,
    "cough": 1048576,
    "limit": 1048576,
    "pull": 1048576,
    "stiff": 1048576,
    "narrow": 16777216,
    "most": 65535,
    "volume": 16777216,
    "in_most": 65535,
    "out_least": 400,  # next_most of the ordinary make
    "next_most": 65535,
    "longer": 65535,
}

MAY_BE_0 = ("near", "cough", "limit", "pull", "stiff", "narrow")
AT_LEAST_1 = ("most", "volume", "in_most", "out_least", "longer")
HANDED_IN_MOST = 9223372036854775807
HANDED_IN_LEAST = -9223372036854775808


def make_with(**changes):
    return {**ORDINARY, **changes}
