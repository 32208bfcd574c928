package tests

import (
	"fmt"
	"slices"
	"testing"

	"loop.example/g01297/impl"
)

func TestIsTriple(t *testing.T) {
	good := []impl.Triple{{1, 0, 0}, {0, 1, 0}, {0, 0, 1}, {1, 1, 1}, {2, 7, 5}, {3, 3, 0}, {top, top, top}, {top, 0, 0}, {0, 0, top}, {0, top, 0}}
	for _, x := range slices.Concat(good, gridTriples(4), greatTriples(100), unsortedTriples(3)) {
		if !impl.IsTriple(x) {
			t.Errorf("%v is a triple", x)
		}
	}
	for _, x := range badTriples() {
		if impl.IsTriple(x) {
			t.Errorf("%v is no triple", x)
		}
	}
	for place := range 3 {
		for _, n := range []int64{-1, 1000001} {
			x := impl.Triple{3, 3, 3}
			x[place] = n
			if impl.IsTriple(x) {
				t.Errorf("%v is no triple", x)
			}
		}
	}
}

func TestSortTriple(t *testing.T) {
	for _, x := range slices.Concat(gridTriples(6), greatTriples(100), unsortedTriples(3)) {
		want := x
		slices.Sort(want[:])
		slices.Reverse(want[:])
		got, code := impl.SortTriple(x)
		check(t, fmt.Sprintf("SortTriple(%v)", x), got, code, want, impl.ErrNone)
	}
	for _, x := range badTriples() {
		got, code := impl.SortTriple(x)
		check(t, fmt.Sprintf("SortTriple(%v)", x), got, code, impl.Triple{}, impl.ErrInvalid)
	}
}

func TestStepTriple(t *testing.T) {
	for _, x := range slices.Concat(sortedTriples(12), greatTriples(400)) {
		for rule := range int64(4) {
			want, _ := stepByHand(x, rule)
			got, code := impl.StepTriple(x, rule)
			check(t, fmt.Sprintf("StepTriple(%v, %d)", x, rule), got, code, want, impl.ErrNone)
		}
	}
}

func TestStepsByHand(t *testing.T) {
	cases := []struct {
		of    impl.Triple
		wants [4]impl.Triple
	}{
		{impl.Triple{7, 5, 2}, [4]impl.Triple{{5, 2, 2}, {5, 5, 2}, {3, 2, 2}, {5, 3, 2}}},
		{impl.Triple{1, 1, 1}, [4]impl.Triple{{1, 1, 0}, {1, 1, 0}, {1, 0, 0}, {1, 0, 0}}},
		{impl.Triple{9, 4, 0}, [4]impl.Triple{{5, 4, 0}, {9, 4, 0}, {5, 4, 0}, {9, 4, 0}}},
		{impl.Triple{9, 0, 0}, [4]impl.Triple{{9, 0, 0}, {9, 0, 0}, {9, 0, 0}, {9, 0, 0}}},
		{impl.Triple{6, 6, 0}, [4]impl.Triple{{6, 0, 0}, {6, 6, 0}, {6, 0, 0}, {6, 6, 0}}},
		{impl.Triple{1000000, 1, 1}, [4]impl.Triple{{999999, 1, 1}, {999999, 1, 1}, {999999, 1, 0}, {999999, 1, 0}}},
		{impl.Triple{1000000, 1000000, 1}, [4]impl.Triple{{1000000, 1, 0}, {1000000, 999999, 1}, {999999, 1, 0}, {999999, 999999, 1}}},
	}
	for _, c := range cases {
		for rule, want := range c.wants {
			got, code := impl.StepTriple(c.of, int64(rule))
			check(t, fmt.Sprintf("StepTriple(%v, %d)", c.of, rule), got, code, want, impl.ErrNone)
		}
	}
}

// A triple has ended exactly if the step would leave it.
func TestHasEnded(t *testing.T) {
	for _, x := range slices.Concat(sortedTriples(12), greatTriples(400)) {
		for rule := range int64(4) {
			next, _ := stepByHand(x, rule)
			if last := 1 + rule%2; (x[last] == 0) != (next == x) {
				t.Errorf("%v by the rule %d: its step is %v", x, rule, next)
			}
			got, code := impl.HasEnded(x, rule)
			check(t, fmt.Sprintf("HasEnded(%v, %d)", x, rule), got, code, next == x, impl.ErrNone)
		}
	}
}

func TestStepsKeepDivisors(t *testing.T) {
	for _, x := range slices.Concat(sortedTriples(12), greatTriples(400)) {
		want, code := impl.GcdOfTriple(x)
		if code != impl.ErrNone {
			t.Fatalf("GcdOfTriple(%v): code %d", x, code)
		}
		for rule := range int64(4) {
			next, _ := impl.StepTriple(x, rule)
			got, code := impl.GcdOfTriple(next)
			check(t, fmt.Sprintf("the divisor of %v, from %v by the rule %d,", next, x, rule), got, code, want, impl.ErrNone)
		}
	}
}

func TestGcdOfTriple(t *testing.T) {
	for _, x := range gridTriples(12) {
		want := divisorByCounting(divisorByCounting(x[0], x[1]), x[2])
		got, code := impl.GcdOfTriple(x)
		check(t, fmt.Sprintf("GcdOfTriple(%v)", x), got, code, want, impl.ErrNone)
	}
	great := map[impl.Triple]int64{
		{top, 0, 0}: top, {0, top, 0}: top, {0, 0, top}: top, {top, top, top}: top, {top, top - 1, 0}: 1, {top, 640000, 15625}: 625,
		{0, 999999, 3}: 3, {12, 0, 18}: 6, {999999, 999998, 999997}: 1, {999000, 888000, 777000}: 111000,
	}
	for x, want := range great {
		got, code := impl.GcdOfTriple(x)
		check(t, fmt.Sprintf("GcdOfTriple(%v)", x), got, code, want, impl.ErrNone)
	}
	for _, x := range badTriples() {
		got, code := impl.GcdOfTriple(x)
		check(t, fmt.Sprintf("GcdOfTriple(%v)", x), got, code, 0, impl.ErrInvalid)
	}
}

// What is no sorted triple is found ahead of what is no rule.
func TestErrorsOfSteps(t *testing.T) {
	for _, x := range slices.Concat(badTriples(), unsortedTriples(3)) {
		for _, rule := range append(badRules(), 0, 1, 2, 3) {
			checkStepErrors(t, x, rule, impl.ErrInvalid)
		}
	}
	for _, x := range slices.Concat(sortedTriples(3), greatTriples(20)) {
		for _, rule := range badRules() {
			checkStepErrors(t, x, rule, impl.ErrRange)
		}
	}
}

func checkStepErrors(t *testing.T, x impl.Triple, rule int64, want int64) {
	t.Helper()
	call := fmt.Sprintf("(%v, %d)", x, rule)
	next, code := impl.StepTriple(x, rule)
	check(t, "StepTriple"+call, next, code, impl.Triple{}, want)
	ended, code := impl.HasEnded(x, rule)
	check(t, "HasEnded"+call, ended, code, false, want)
	length, code := impl.LengthOfRun(x, rule)
	check(t, "LengthOfRun"+call, length, code, 0, want)
	end, code := impl.EndOfRun(x, rule)
	check(t, "EndOfRun"+call, end, code, impl.Triple{}, want)
}
