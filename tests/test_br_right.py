"""Promise 1: br_right answers 0 if the make is right, else -22."""

import contextlib
import inspect
import io
import itertools
import unittest

from breathbound.lungs import br_right
from makes import AT_LEAST_1, GREATEST, HANDED_IN_MOST, MAY_BE_0, ORDINARY, make_with

RIGHT = [0, 0]
REFUSAL = [0, -22]


class BrRightCase(unittest.TestCase):
    def check(self, expected, **changes):
        self.assertEqual(br_right(**make_with(**changes)), expected, changes)


class OrdinaryMakes(BrRightCase):
    def test_ordinary_make_is_right(self):
        self.check(RIGHT)

    def test_all_least_at_once_is_right(self):
        least = {name: 0 for name in MAY_BE_0}
        least.update({name: 1 for name in AT_LEAST_1}, next_most=1)
        self.check(RIGHT, **least)

    def test_all_greatest_at_once_is_right(self):
        self.check(RIGHT, **{**GREATEST, "out_least": 65535})


class Edges(BrRightCase):
    def test_greatest_is_right(self):
        for name, greatest in GREATEST.items():
            with self.subTest(name):
                self.check(RIGHT, **{name: greatest})

    def test_one_below_greatest_is_right(self):
        for name, greatest in GREATEST.items():
            with self.subTest(name):
                self.check(RIGHT, **{name: greatest - 1})

    def test_one_above_greatest_is_refused(self):
        for name, greatest in GREATEST.items():
            with self.subTest(name):
                self.check(REFUSAL, **{name: greatest + 1})

    def test_0_is_right_where_no_least_is_told(self):
        for name in MAY_BE_0:
            with self.subTest(name):
                self.check(RIGHT, **{name: 0})

    def test_1_is_right_where_it_is_the_least(self):
        for name in AT_LEAST_1:
            with self.subTest(name):
                self.check(RIGHT, **{name: 1})

    def test_0_is_refused_where_1_is_the_least(self):
        for name in AT_LEAST_1:
            with self.subTest(name):
                self.check(REFUSAL, **{name: 0})

    def test_greatest_that_may_be_handed_in_is_refused_at_each_place(self):
        for name in ORDINARY:
            with self.subTest(name):
                self.check(REFUSAL, **{name: HANDED_IN_MOST})


class OutLeastAndNextMost(BrRightCase):
    def test_out_least_just_next_most_is_right(self):
        for both in (1, 2, 100, 65534, 65535):
            with self.subTest(both):
                self.check(RIGHT, out_least=both, next_most=both)

    def test_out_least_one_above_next_most_is_refused(self):
        for next_most in (0, 1, 100, 65534, 65535):
            with self.subTest(next_most):
                self.check(REFUSAL, out_least=next_most + 1, next_most=next_most)

    def test_widest_apart_is_right(self):
        self.check(RIGHT, out_least=1, next_most=65535)

    def test_both_0_is_refused(self):
        self.check(REFUSAL, out_least=0, next_most=0)

    def test_both_alike_but_too_great_is_refused(self):
        for both in (65536, HANDED_IN_MOST):
            with self.subTest(both):
                self.check(REFUSAL, out_least=both, next_most=both)

    def test_next_most_too_great_is_refused_though_out_least_is_small(self):
        self.check(REFUSAL, out_least=1, next_most=65536)


class SeveralFaults(BrRightCase):
    def test_any_two_numbers_too_great(self):
        for first, second in itertools.combinations(ORDINARY, 2):
            with self.subTest(first=first, second=second):
                self.check(REFUSAL, **{first: HANDED_IN_MOST, second: HANDED_IN_MOST})

    def test_any_two_numbers_0_that_must_not_be(self):
        for first, second in itertools.combinations(AT_LEAST_1, 2):
            with self.subTest(first=first, second=second):
                self.check(REFUSAL, **{first: 0, second: 0})

    def test_one_too_great_and_one_too_small(self):
        for great, small in itertools.product(ORDINARY, AT_LEAST_1):
            if great != small:
                with self.subTest(great=great, small=small):
                    self.check(REFUSAL, **{great: HANDED_IN_MOST, small: 0})

    def test_everything_too_great(self):
        self.check(REFUSAL, **{name: HANDED_IN_MOST for name in ORDINARY})

    def test_everything_0(self):
        self.check(REFUSAL, **{name: 0 for name in ORDINARY})


class TheCall(unittest.TestCase):
    def test_arguments_have_their_names_and_order(self):
        self.assertEqual(list(inspect.signature(br_right).parameters), list(ORDINARY))

    def test_by_place_as_by_name(self):
        for name, greatest in GREATEST.items():
            for number in (0, 1, greatest, greatest + 1):
                make = make_with(**{name: number})
                with self.subTest(name=name, number=number):
                    self.assertEqual(br_right(*make.values()), br_right(**make))

    def test_answer_is_a_list_of_two_ints(self):
        for make in (make_with(), make_with(most=0), make_with(near=HANDED_IN_MOST)):
            answer = br_right(**make)
            self.assertIs(type(answer), list)
            self.assertEqual([type(number) for number in answer], [int, int])

    def test_twice_called_twice_the_same(self):
        for changes, expected in (({}, RIGHT), ({"longer": 0}, REFUSAL)):
            make = make_with(**changes)
            self.assertEqual([br_right(**make), br_right(**make)], [expected, expected])

    def test_nothing_is_kept_between_calls(self):
        for changes, expected in (({}, RIGHT), ({"most": 0}, REFUSAL), ({}, RIGHT), ({"most": 0}, REFUSAL)):
            self.assertEqual(br_right(**make_with(**changes)), expected)

    def test_a_changed_answer_changes_no_later_one(self):
        for changes, expected in (({}, RIGHT), ({"volume": 0}, REFUSAL)):
            answer = br_right(**make_with(**changes))
            answer[1] = 7
            answer.append(8)
            self.assertEqual(br_right(**make_with(**changes)), expected)

    def test_nothing_is_printed(self):
        printed = io.StringIO()
        with contextlib.redirect_stdout(printed), contextlib.redirect_stderr(printed):
            br_right(**make_with())
            br_right(**make_with(most=0))
        self.assertEqual(printed.getvalue(), "")


if __name__ == "__main__":
    unittest.main()
