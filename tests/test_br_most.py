"""Promise 2: br_most answers the greatest amount that may be blown, 0 if there's none, or -22."""

import ast
import contextlib
import inspect
import io
import itertools
import random
import unittest
from fractions import Fraction

import breathbound.lungs
from breathbound.lungs import br_most, br_right
from makes import AT_LEAST_1, GREATEST, HANDED_IN_LEAST, HANDED_IN_MOST, MAY_BE_0, ORDINARY, make_with

REFUSAL = [0, -22]

# A microlitre raises the pressure by just 1 (65,536 parts), so that the sums can be done in the head.
IN_THE_HEAD = make_with(near=10, cough=5, limit=1000, stiff=65536, narrow=65536, most=1000)

NOT_USED_HERE = ("pull", "volume", "in_most", "out_least", "next_most", "longer")


def head_make(**changes):
    return {**IN_THE_HEAD, **changes}


def sums(make, x, f, g):
    """The two sums, as the document writes them."""
    near, cough, stiff, narrow = make["near"], make["cough"], make["stiff"], make["narrow"]
    above = g - f if g - f > 0 else 0
    first = 65536 * (x + near + cough) + max(narrow * g, stiff * f + narrow * above)
    second = 65536 * (x + near + 2 * cough) + stiff * (f + g)
    return first, second


def may(make, x, f, g):
    first, second = sums(make, x, f, g)
    return first <= 65536 * make["limit"] and second <= 65536 * make["limit"]


def tried(make, x, f):
    """The greatest amount that may be blown, by trying each."""
    for g in range(make["most"], 0, -1):
        if may(make, x, f, g):
            return g
    return 0


def drawn_case(draw, most_bound):
    """A right make, x and f, with x where the answer is seldom just 0 or most."""
    near, cough = draw.choice(((0, 0), (draw.randint(0, 50), draw.randint(0, 50)), (1048576, 1048576)))
    stiff = draw.choice((0, 1, draw.randint(0, 65536), draw.randint(0, 200000), draw.randint(0, 1048576)))
    narrow = draw.choice((0, 1, draw.randint(0, 65536), draw.randint(0, 200000), draw.randint(0, 16777216)))
    make = make_with(
        near=near, cough=cough, limit=draw.choice((0, draw.randint(0, 1000), draw.randint(0, 1048576))),
        stiff=stiff, narrow=narrow, most=draw.randint(1, most_bound),
    )
    f = draw.choice((0, make["most"], draw.randint(0, make["most"])))
    aim = draw.randint(0, make["most"] + 1)
    needed = max(sums(make, 0, f, aim))
    x = make["limit"] - needed // 65536 + draw.choice((-1, 0, 0, 0, 1))
    return make, x, f


class BrMostCase(unittest.TestCase):
    def check(self, expected, make, x, f):
        self.assertEqual(br_most(**make, x=x, f=f), [0, expected], (make, x, f))

    def check_tried(self, make, x, f):
        self.check(tried(make, x, f), make, x, f)

    def check_refused(self, make, x, f):
        self.assertEqual(br_most(**make, x=x, f=f), REFUSAL, (make, x, f))


class OrdinaryCalls(BrMostCase):
    def test_narrowness_decides(self):
        # 65,536 * (40,000 - 30,000 - 2,500) = 491,520,000 is 5,461 times 90,000, and some.
        self.check(5461, ORDINARY, 30000, 1000)

    def test_stiffness_decides(self):
        # 65,536 * (40,000 - 35,000 - 4,500) = 32,768,000 is 10,922 times 3,000, and some; 9,000 of these are f's.
        self.check(1922, make_with(narrow=9), 35000, 9000)

    def test_most_decides(self):
        self.check(12000, ORDINARY, 10000, 4000)

    def test_none_may(self):
        self.check(0, ORDINARY, 39000, 4000)

    def test_ordinary_makes_over_x_and_f(self):
        for x in range(-20000, 60000, 2777):
            for f in (0, 1, 500, 6000, 12000):
                with self.subTest(x=x, f=f):
                    self.check_tried(ORDINARY, x, f)


class Refusals(BrMostCase):
    # Of these x the first leaves room for everything and the last for nothing.
    XS = (HANDED_IN_LEAST, 30000, HANDED_IN_MOST)

    def refused_for_each_x(self, make, f):
        for x in self.XS:
            with self.subTest(make=make, x=x, f=f):
                self.check_refused(make, x, f)

    def test_one_above_greatest(self):
        for name, greatest in GREATEST.items():
            self.refused_for_each_x(make_with(**{name: greatest + 1}), 0)

    def test_0_where_1_is_the_least(self):
        for name in AT_LEAST_1:
            self.refused_for_each_x(make_with(**{name: 0}), 0)

    def test_greatest_that_may_be_handed_in(self):
        for name in ORDINARY:
            self.refused_for_each_x(make_with(**{name: HANDED_IN_MOST}), 0)

    def test_next_most_below_out_least(self):
        self.refused_for_each_x(make_with(out_least=100, next_most=99), 0)
        self.refused_for_each_x(make_with(out_least=0, next_most=0), 0)

    def test_f_one_above_most(self):
        for most in (1, 2, 12000, 65534, 65535):
            self.refused_for_each_x(make_with(most=most), most + 1)

    def test_f_greatest_that_may_be_handed_in(self):
        for most in (1, 12000, 65535):
            self.refused_for_each_x(make_with(most=most), HANDED_IN_MOST)

    def test_f_above_most_though_nothing_comes_of_f(self):
        self.refused_for_each_x(make_with(stiff=0, narrow=0), 12001)

    def test_both_refusals_due(self):
        for name in ORDINARY:
            self.refused_for_each_x(make_with(**{name: HANDED_IN_MOST}), HANDED_IN_MOST)
        self.refused_for_each_x(make_with(most=0), 1)

    def test_as_br_right_refuses(self):
        for name, greatest in GREATEST.items():
            for number in (0, 1, greatest - 1, greatest, greatest + 1, HANDED_IN_MOST):
                make = make_with(**{name: number})
                with self.subTest(name=name, number=number):
                    refused = br_most(**make, x=30000, f=0) == REFUSAL
                    self.assertEqual(refused, br_right(**make) == REFUSAL)


class Bounds(BrMostCase):
    def test_each_number_at_its_greatest(self):
        for name, greatest in GREATEST.items():
            make = make_with(**{name: greatest})
            for x in (-2100000, -1020000, 30000):
                with self.subTest(name=name, x=x):
                    self.check_tried(make, x, 400)

    def test_each_number_at_its_least(self):
        for name in MAY_BE_0 + AT_LEAST_1:
            make = make_with(**{name: 0 if name in MAY_BE_0 else 1})
            for x in (-20000, 30000, 34000):
                for f in (0, 1):
                    with self.subTest(name=name, x=x, f=f):
                        self.check_tried(make, x, f)

    def test_everything_at_its_greatest(self):
        make = {**GREATEST, "out_least": 65535}
        # By this x the first sum leaves 2 * 2^20, 256 for each of g; the second leaves 2^20, 16 for each of f and g.
        x = -3 * 1048576
        self.check(8192, make, x, 0)
        self.check(8192, make, x, 57344)
        self.check(8191, make, x, 57345)
        self.check(1, make, x, 65535)
        self.check(8191, make, x + 1, 0)
        self.check(0, make, x + 1, 65535)

    def test_everything_at_its_least(self):
        least = {name: 0 for name in MAY_BE_0}
        least.update({name: 1 for name in AT_LEAST_1}, next_most=1)
        for f in (0, 1):
            self.check(1, least, -1, f)
            self.check(1, least, 0, f)
            self.check(0, least, 1, f)

    def test_f_0_and_f_just_most(self):
        for most in (1, 2, 100, 65535):
            make = make_with(most=most)
            for f in (0, most):
                for x in (-20000, 30000, 35000, 39000):
                    with self.subTest(most=most, f=f, x=x):
                        self.check_tried(make, x, f)

    def test_f_just_most_may_still_leave_all(self):
        self.check(12000, ORDINARY, -100000, 12000)


class NoStiffnessOrNoNarrowness(BrMostCase):
    def test_no_stiffness(self):
        make = head_make(stiff=0)
        self.check(100, make, 885, 0)
        self.check(5, make, 980, 0)
        self.check(0, make, 981, 0)

    def test_no_stiffness_so_f_is_nothing(self):
        make = head_make(stiff=0)
        for f in (0, 1, 99, 100, 101, 1000):
            with self.subTest(f=f):
                self.check(100, make, 885, f)

    def test_no_narrowness(self):
        make = head_make(narrow=0)
        self.check(100, make, 880, 0)
        self.check(70, make, 880, 30)
        self.check(1, make, 880, 99)
        self.check(0, make, 880, 100)

    def test_neither(self):
        make = head_make(stiff=0, narrow=0)
        for f in (0, 1, 1000):
            with self.subTest(f=f):
                self.check(1000, make, -5, f)
                self.check(1000, make, 979, f)
                self.check(1000, make, 980, f)
                self.check(0, make, 981, f)

    def test_neither_nor_cough_nor_nearness(self):
        make = head_make(near=0, cough=0, stiff=0, narrow=0)
        self.check(1000, make, 1000, 1000)
        self.check(0, make, 1001, 0)

    def test_least_stiffness(self):
        make = head_make(stiff=1, narrow=0, most=65535)
        self.check(65535, make, 979, 1)
        self.check(65534, make, 979, 2)
        self.check(1, make, 979, 65535)
        self.check(0, make, 980, 0)

    def test_least_narrowness(self):
        make = head_make(cough=0, stiff=0, narrow=1, most=65535)
        self.check(65535, make, 989, 65535)
        self.check(0, make, 990, 0)

    def test_a_part_more_than_a_whole_one(self):
        self.check(99, head_make(stiff=0, narrow=65537), 885, 0)
        self.check(99, head_make(stiff=65537, narrow=0), 880, 0)
        self.check(100, head_make(stiff=0, narrow=65535), 885, 0)
        self.check(101, head_make(stiff=0, narrow=64887), 885, 0)


class ToldGreaterThanMayBeNow(BrMostCase):
    def test_answers_below_f(self):
        make = head_make(narrow=0)
        self.check(40, make, 880, 60)
        self.check(49, make, 880, 51)
        self.check(50, make, 880, 50)
        self.check(51, make, 880, 49)

    def test_answer_0(self):
        make = head_make(narrow=0)
        for f in (100, 101, 999, 1000):
            with self.subTest(f=f):
                self.check(0, make, 880, f)

    def test_answers_below_f_by_narrowness(self):
        make = head_make(stiff=655, narrow=196608)
        for f in (0, 33, 34, 60, 1000):
            with self.subTest(f=f):
                self.check(33, make, 885, f)

    def test_greater_f_never_more(self):
        for narrow in (0, 30000, 65536, 200000):
            make = head_make(narrow=narrow, most=200)
            answers = [br_most(**make, x=800, f=f)[1] for f in range(201)]
            self.assertEqual(answers, [tried(make, 800, f) for f in range(201)])
            self.assertEqual(answers, sorted(answers, reverse=True))
            self.assertGreater(answers[0], 0)
            self.assertEqual(answers[-1], 0)


class FarBelowAndFarAbove(BrMostCase):
    def test_far_below_0_most(self):
        for x in (-1000000000, -(2**31), -(2**40), HANDED_IN_LEAST + 1, HANDED_IN_LEAST):
            for f in (0, 5, 12000):
                with self.subTest(x=x, f=f):
                    self.check(12000, ORDINARY, x, f)

    def test_far_above_limit_none(self):
        for x in (1000000000, 2**31 - 1, 2**40, HANDED_IN_MOST - 1, HANDED_IN_MOST):
            for f in (0, 5, 12000):
                with self.subTest(x=x, f=f):
                    self.check(0, ORDINARY, x, f)

    def test_ends_of_x_by_the_widest_makes(self):
        greatest = {**GREATEST, "out_least": 65535}
        makes = (greatest, {**greatest, "limit": 0}, {**greatest, "near": 0, "cough": 0, "stiff": 0, "narrow": 0})
        for make in makes:
            for f in (0, 65535):
                for x in (-(2**31), -(2**63)):
                    self.check(65535, make, x, f)
                for x in (2**31 - 1, 2**63 - 1):
                    self.check(0, make, x, f)

    def test_below_0_but_not_far(self):
        make = head_make(limit=0, narrow=0)
        self.check(80, make, -100, 0)
        self.check(50, make, -100, 30)
        self.check(1, make, -21, 0)
        self.check(0, make, -20, 0)
        self.check(0, make, 0, 0)


class LimitJustMet(BrMostCase):
    def check_just_met(self, place, make, x, f, answer):
        met = sums(make, x, f, answer)
        self.assertEqual(met[place], 65536 * make["limit"])
        self.assertLess(met[1 - place], 65536 * make["limit"])
        self.check(answer, make, x, f)
        self.check(answer - 1, make, x + 1, f)
        self.check(answer + 1, make, x - 1, f)

    def test_by_the_first_sum(self):
        for f in (0, 40, 94):
            self.check_just_met(0, head_make(stiff=655), 885, f, 100)
        self.check_just_met(0, head_make(stiff=0), 885, 1000, 100)

    def test_by_the_second_sum(self):
        for f in (0, 50, 100, 500):
            self.check_just_met(1, head_make(), 880 - f, f, 100)
        self.check_just_met(1, head_make(narrow=0), 880, 0, 100)

    def test_by_both(self):
        make = head_make(stiff=65536, narrow=131072, cough=0)
        self.assertEqual(sums(make, 790, 100, 100), (65536 * 1000, 65536 * 1000))
        self.check(100, make, 790, 100)
        self.check(99, make, 791, 100)
        self.check(100, make, 789, 100)

    def test_just_1_then_none_by_the_first_sum(self):
        make = head_make(stiff=0, narrow=655360)
        self.check(1, make, 975, 0)
        self.check(0, make, 976, 0)

    def test_just_1_then_none_by_the_second_sum(self):
        self.check(1, head_make(), 979, 0)
        self.check(0, head_make(), 980, 0)
        self.check(1, head_make(), 679, 300)
        self.check(0, head_make(), 680, 300)

    def test_all_then_none(self):
        make = head_make(stiff=0, narrow=0)
        self.check(1000, make, 980, 7)
        self.check(0, make, 981, 7)

    def test_near_counts_once_in_each(self):
        self.check(99, head_make(stiff=0, near=11), 885, 0)
        self.check(99, head_make(narrow=0, near=11), 880, 0)

    def test_cough_counts_once_in_the_first_and_twice_in_the_second(self):
        self.check(99, head_make(stiff=0, cough=6), 885, 0)
        self.check(98, head_make(narrow=0, cough=6), 880, 0)

    def test_limit_counts_once_in_each(self):
        self.check(101, head_make(stiff=0, limit=1001), 885, 0)
        self.check(101, head_make(narrow=0, limit=1001), 880, 0)


class MostJustWhatMayBe(BrMostCase):
    def test_around_what_may_be(self):
        for make, x, f in ((head_make(stiff=0), 885, 0), (head_make(), 830, 50), (head_make(narrow=0), 780, 100)):
            for most, expected in ((1000, 100), (101, 100), (100, 100), (99, 99)):
                if f <= most:
                    with self.subTest(make=make, most=most):
                        self.check(expected, {**make, "most": most}, x, f)

    def test_most_1(self):
        make = head_make(most=1)
        self.check(1, make, 979, 0)
        self.check(0, make, 980, 0)
        self.check(1, make, 978, 1)
        self.check(0, make, 979, 1)

    def test_most_65535(self):
        make = head_make(near=0, cough=0, limit=1048576, stiff=1048576, narrow=0, most=65535)
        self.check(65535, make, 0, 0)
        self.check(65535, make, 16, 0)
        self.check(65534, make, 17, 0)
        self.check(65534, make, 16, 1)
        self.check(1, make, 16, 65534)
        self.check(0, make, 16, 65535)

    def test_every_answer_up_to_most(self):
        for most in (1, 2, 3, 4, 7, 8, 100):
            make = head_make(narrow=0, most=most)
            for answer in range(most + 1):
                with self.subTest(most=most, answer=answer):
                    self.check(answer, make, 980 - answer, 0)


class AsByTryingEach(BrMostCase):
    def test_small_numbers_all(self):
        parts = (0, 1, 40000, 65536, 65537, 150000)
        for stiff, narrow, near, cough in itertools.product(parts, parts, (0, 1), (0, 1, 2)):
            for most in (1, 2, 5):
                make = make_with(near=near, cough=cough, limit=9, stiff=stiff, narrow=narrow, most=most)
                for x, f in itertools.product(range(-9, 12), range(most + 1)):
                    self.check_tried(make, x, f)

    def test_drawn_makes(self):
        draw = random.Random(20)
        between = 0
        for count in range(20000):
            make, x, f = drawn_case(draw, 60)
            answer = tried(make, x, f)
            self.check(answer, make, x, f)
            between += 0 < answer < make["most"]
        # Else the draws would show little.
        self.assertGreater(between, 5000)

    def test_drawn_makes_with_a_great_most(self):
        draw = random.Random(21)
        between = 0
        for count in range(150):
            make, x, f = drawn_case(draw, 65535)
            answer = tried(make, x, f)
            self.check(answer, make, x, f)
            between += 0 < answer < make["most"]
        self.assertGreater(between, 30)


def pressures(lungs, v):
    """The pressures in the next tick, in which v is blown, and in the one behind, in which nothing is."""
    p, e, r, u, w, c, next_w, next_c = lungs
    in_next = p + c + e * (u - w) + r * (v - u)
    return in_next, in_next + next_c + e * (v - next_w) + r * (0 - v)


def drawn_lungs(draw, make, x, f):
    def part(bound):
        return bound * Fraction(draw.choice((0, 7, draw.randint(0, 7))), 7)

    cough = make["cough"]
    return (
        x - make["near"] + part(2 * make["near"]),
        part(Fraction(make["stiff"], 65536)),
        part(Fraction(make["narrow"], 65536)),
        part(f),
        draw.choice((0, part(3 * f))),
        cough - draw.choice((0, part(3 * cough + 1))),
        draw.choice((0, part(5))),
        cough - draw.choice((0, part(3 * cough + 1))),
    )


def worst_lungs(make, x, f):
    """Lungs as told, each pressing and coughing as much as told: of e, r and u all pairings of the ends."""
    cough = make["cough"]
    stiffs = (0, Fraction(make["stiff"], 65536))
    narrows = (0, Fraction(make["narrow"], 65536))
    return [
        (x + make["near"], e, r, u, 0, cough, 0, cough)
        for e, r, u in itertools.product(stiffs, narrows, (0, f))
    ]


class WhatHolds(BrMostCase):
    def cases(self, seed, count):
        draw = random.Random(seed)
        return [drawn_case(draw, 40) for _ in range(count)]

    def test_safe(self):
        draw = random.Random(31)
        for make, x, f in self.cases(30, 1500):
            answer = br_most(**make, x=x, f=f)[1]
            if answer > 0:
                lungs_tried = worst_lungs(make, x, f) + [drawn_lungs(draw, make, x, f) for _ in range(10)]
                for lungs in lungs_tried:
                    for v in (0, Fraction(answer, 3), answer):
                        self.assertLessEqual(max(pressures(lungs, v)), make["limit"], (make, x, f, lungs, v))

    def test_no_less(self):
        for make, x, f in self.cases(32, 1500):
            answer = br_most(**make, x=x, f=f)[1]
            for g in range(answer + 1, make["most"] + 1):
                highest = max(max(pressures(lungs, g)) for lungs in worst_lungs(make, x, f))
                self.assertGreater(highest, make["limit"], (make, x, f, g))

    def test_where_less_is_measured_no_less(self):
        draw = random.Random(33)
        for make, x, f in self.cases(34, 3000):
            answer = br_most(**make, x=x, f=f)[1]
            for less in (1, draw.randint(2, 10), draw.randint(11, 100000), 2**31, 2**62):
                self.assertGreaterEqual(br_most(**make, x=x - less, f=f)[1], answer, (make, x, f, less))

    def test_each_up_to_the_answer_may_and_no_greater(self):
        for make, x, f in self.cases(35, 3000):
            answer = br_most(**make, x=x, f=f)[1]
            for g in range(1, make["most"] + 1):
                self.assertEqual(may(make, x, f, g), g <= answer, (make, x, f, g))


class TheCall(BrMostCase):
    def test_arguments_have_their_names_and_order(self):
        self.assertEqual(list(inspect.signature(br_most).parameters), list(ORDINARY) + ["x", "f"])

    def test_by_place_as_by_name(self):
        draw = random.Random(40)
        for count in range(300):
            make, x, f = drawn_case(draw, 60)
            self.assertEqual(br_most(*make.values(), x, f), br_most(**make, x=x, f=f))

    def test_numbers_that_are_not_used_here_change_nothing(self):
        for name in NOT_USED_HERE:
            for number in (1, 399, 401, GREATEST[name]):
                make = make_with(**{name: number})
                if br_right(**make) == [0, 0]:
                    with self.subTest(name=name, number=number):
                        self.check(5461, make, 30000, 1000)

    def test_answer_is_a_list_of_two_ints(self):
        calls = (
            (ORDINARY, 30000, 1000),
            (ORDINARY, HANDED_IN_MOST, 0),
            (ORDINARY, HANDED_IN_LEAST, 12000),
            (make_with(most=1), 0, 0),
            (make_with(most=0), 0, 0),
            (ORDINARY, 0, 12001),
        )
        for make, x, f in calls:
            answer = br_most(**make, x=x, f=f)
            self.assertIs(type(answer), list)
            self.assertEqual([type(number) for number in answer], [int, int])

    def test_nothing_is_kept_between_calls(self):
        for _ in range(3):
            self.check(5461, ORDINARY, 30000, 1000)
            self.check_refused(make_with(most=0), 30000, 0)
            self.assertEqual(br_right(**ORDINARY), [0, 0])
            self.check(0, ORDINARY, 39000, 4000)
            self.check_refused(ORDINARY, 30000, 12001)
            self.assertEqual(br_right(**make_with(longer=0)), REFUSAL)
            self.check(12000, ORDINARY, 10000, 4000)

    def test_a_changed_answer_changes_no_later_one(self):
        for f in (1000, 12001):
            answer = br_most(**ORDINARY, x=30000, f=f)
            expected = list(answer)
            answer[1] = 7
            answer.append(8)
            self.assertEqual(br_most(**ORDINARY, x=30000, f=f), expected)

    def test_nothing_is_printed(self):
        printed = io.StringIO()
        with contextlib.redirect_stdout(printed), contextlib.redirect_stderr(printed):
            br_most(**ORDINARY, x=30000, f=1000)
            br_most(**ORDINARY, x=HANDED_IN_MOST, f=0)
            br_most(**make_with(most=0), x=0, f=0)
        self.assertEqual(printed.getvalue(), "")

    def test_nothing_is_imported(self):
        for module in (breathbound, breathbound.lungs):
            tree = ast.parse(inspect.getsource(module))
            imports = [node for node in ast.walk(tree) if isinstance(node, (ast.Import, ast.ImportFrom))]
            self.assertEqual(imports, [])


if __name__ == "__main__":
    unittest.main()
