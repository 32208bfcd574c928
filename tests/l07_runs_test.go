package tests

import (
	"fmt"
	"slices"
	"testing"

	"loop.example/g01297/impl"
)

// runsAtTheLimit have exactly MaxRun steps to their ends, and those that are longer one more.
var (
	runsAtTheLimit = [4][]impl.Triple{
		{{300, 1, 0}, {299, 1, 1}, {299, 298, 1}, {300, 299, 0}},
		{{300, 1, 1}, {299, 2, 1}, {299, 298, 2}},
		{{300, 1, 0}, {300, 1, 1}, {300, 300, 1}, {303, 302, 2}},
		{{300, 300, 1}, {301, 300, 1}, {1000000, 300, 1}},
	}
	longerRuns = [4][]impl.Triple{
		{{301, 1, 0}, {300, 1, 1}, {300, 299, 1}, {301, 300, 0}},
		{{301, 1, 1}, {300, 2, 1}},
		{{301, 1, 0}, {301, 1, 1}, {301, 301, 1}},
		{{301, 301, 1}, {302, 301, 1}, {1000000, 301, 1}},
	}
)

func TestRunTriple(t *testing.T) {
	for _, x := range sortedTriples(9) {
		for rule := range int64(4) {
			whole, _ := runByHand(x, rule, 300)
			for n := range len(whole) + 2 {
				checkRun(t, x, rule, int64(n), whole[:min(n+1, len(whole))])
			}
			checkRun(t, x, rule, 300, whole)
		}
	}
}

func checkRun(t *testing.T, x impl.Triple, rule int64, n int64, want []impl.Triple) {
	t.Helper()
	got, code := impl.RunTriple(x, rule, n)
	checkList(t, fmt.Sprintf("RunTriple(%v, %d, %d)", x, rule, n), got, code, want, impl.ErrNone)
}

func TestGreatRuns(t *testing.T) {
	for _, x := range greatTriples(200) {
		for rule := range int64(4) {
			whole, _ := runByHand(x, rule, 300)
			for _, n := range []int{0, 1, 2, 17, len(whole) - 2, len(whole) - 1, len(whole), 299, 300} {
				if n >= 0 && n <= 300 {
					checkRun(t, x, rule, int64(n), whole[:min(n+1, len(whole))])
				}
			}
		}
	}
}

func TestRunsByHand(t *testing.T) {
	checkRun(t, impl.Triple{7, 5, 2}, 0, 300, []impl.Triple{{7, 5, 2}, {5, 2, 2}, {3, 2, 2}, {2, 2, 1}, {2, 1, 0}, {1, 1, 0}, {1, 0, 0}})
	checkRun(t, impl.Triple{7, 5, 2}, 0, 0, []impl.Triple{{7, 5, 2}})
	checkRun(t, impl.Triple{7, 5, 2}, 1, 300, []impl.Triple{{7, 5, 2}, {5, 5, 2}, {5, 3, 2}, {3, 3, 2}, {3, 2, 1}, {2, 2, 1}, {2, 1, 1}, {1, 1, 1}, {1, 1, 0}})
	checkRun(t, impl.Triple{7, 5, 2}, 2, 300, []impl.Triple{{7, 5, 2}, {3, 2, 2}, {2, 1, 0}, {1, 1, 0}, {1, 0, 0}})
	checkRun(t, impl.Triple{7, 5, 2}, 3, 300, []impl.Triple{{7, 5, 2}, {5, 3, 2}, {3, 2, 1}, {2, 1, 1}, {1, 1, 0}})
	checkRun(t, impl.Triple{4, 3, 0}, 1, 300, []impl.Triple{{4, 3, 0}})
	checkRun(t, impl.Triple{4, 0, 0}, 2, 300, []impl.Triple{{4, 0, 0}})
}

func TestRunsAtTheLimit(t *testing.T) {
	for rule, list := range runsAtTheLimit {
		for _, x := range list {
			run, code := impl.RunTriple(x, int64(rule), 300)
			if code != impl.ErrNone || len(run) != 301 {
				t.Fatalf("RunTriple(%v, %d, 300) has %d triples; code %d", x, rule, len(run), code)
			}
			length, code := impl.LengthOfRun(x, int64(rule))
			check(t, fmt.Sprintf("LengthOfRun(%v, %d)", x, rule), length, code, 300, impl.ErrNone)
			end, code := impl.EndOfRun(x, int64(rule))
			check(t, fmt.Sprintf("EndOfRun(%v, %d)", x, rule), end, code, run[300], impl.ErrNone)
			checkRun(t, x, int64(rule), 299, run[:300])
		}
	}
	for rule, list := range longerRuns {
		for _, x := range list {
			if length := lengthByHand(x, int64(rule)); length != 301 {
				t.Fatalf("the run of %v by the rule %d has %d steps", x, rule, length)
			}
			checkTooLong(t, x, int64(rule))
		}
	}
}

func checkTooLong(t *testing.T, x impl.Triple, rule int64) {
	t.Helper()
	length, code := impl.LengthOfRun(x, rule)
	check(t, fmt.Sprintf("LengthOfRun(%v, %d)", x, rule), length, code, 0, impl.ErrLimit)
	end, code := impl.EndOfRun(x, rule)
	check(t, fmt.Sprintf("EndOfRun(%v, %d)", x, rule), end, code, impl.Triple{}, impl.ErrLimit)
}

func TestLengthsAndEnds(t *testing.T) {
	for _, x := range slices.Concat(sortedTriples(12), greatTriples(300)) {
		for rule := range int64(4) {
			run, _ := runByHand(x, rule, 301)
			if len(run) > 301 {
				checkTooLong(t, x, rule)
				continue
			}
			length, code := impl.LengthOfRun(x, rule)
			check(t, fmt.Sprintf("LengthOfRun(%v, %d)", x, rule), length, code, int64(len(run))-1, impl.ErrNone)
			end, code := impl.EndOfRun(x, rule)
			check(t, fmt.Sprintf("EndOfRun(%v, %d)", x, rule), end, code, run[len(run)-1], impl.ErrNone)
			if ended, _ := impl.HasEnded(end, rule); !ended {
				t.Errorf("EndOfRun(%v, %d) = %v has not ended", x, rule, end)
			}
		}
	}
}

func TestRunsGetShorterBySteps(t *testing.T) {
	for _, x := range slices.Concat(sortedTriples(12), greatTriples(100)) {
		for rule := range int64(4) {
			length, code := impl.LengthOfRun(x, rule)
			if code != impl.ErrNone {
				continue
			}
			next, _ := impl.StepTriple(x, rule)
			rest, code := impl.LengthOfRun(next, rule)
			check(t, fmt.Sprintf("the length of %v, from %v by the rule %d,", next, x, rule), rest, code, max(length-1, 0), impl.ErrNone)
		}
	}
}

// The ends by the rules 0 and 2 have the divisor alone.
func TestEndsHaveTheDivisor(t *testing.T) {
	for _, x := range sortedTriples(12) {
		divisor, _ := impl.GcdOfTriple(x)
		for _, rule := range []int64{0, 2} {
			end, code := impl.EndOfRun(x, rule)
			check(t, fmt.Sprintf("EndOfRun(%v, %d)", x, rule), end, code, impl.Triple{divisor, 0, 0}, impl.ErrNone)
		}
	}
}

func TestErrorsOfRuns(t *testing.T) {
	steps := []int64{0, 1, 300}
	for _, x := range slices.Concat(badTriples(), unsortedTriples(3)) {
		for _, rule := range []int64{0, 1, 2, 3, -1, 4} {
			for _, n := range append(steps, badSteps()...) {
				checkRunErrors(t, x, rule, n, impl.ErrInvalid)
			}
		}
	}
	// Of these, the matrix of the first one is too great by the rule 2.
	for _, x := range append(sortedTriples(3), impl.Triple{170411, 115027, 0}, impl.Triple{top, top, top}, impl.Triple{top, 1, 0}) {
		for _, rule := range badRules() {
			for _, n := range append(steps, badSteps()...) {
				checkRunErrors(t, x, rule, n, impl.ErrRange)
			}
		}
		for rule := range int64(4) {
			for _, n := range badSteps() {
				checkRunErrors(t, x, rule, n, impl.ErrRange)
			}
		}
	}
}

func checkRunErrors(t *testing.T, x impl.Triple, rule int64, n int64, want int64) {
	t.Helper()
	call := fmt.Sprintf("(%v, %d, %d)", x, rule, n)
	run, code := impl.RunTriple(x, rule, n)
	checkList(t, "RunTriple"+call, run, code, nil, want)
	m, code := impl.MatrixOfRun(x, rule, n)
	check(t, "MatrixOfRun"+call, m, code, impl.Square{}, want)
}

func TestRunsAreNew(t *testing.T) {
	for rule := range int64(4) {
		checkNew(t, func() ([]impl.Triple, int64) { return impl.RunTriple(impl.Triple{34, 21, 13}, rule, 300) })
		checkNew(t, func() ([]impl.Triple, int64) { return impl.RunTriple(impl.Triple{34, 21, 13}, rule, 0) })
	}
}

func TestShortestRule(t *testing.T) {
	found := map[int64]int{}
	for _, x := range slices.Concat(sortedTriples(20), greatTriples(500)) {
		want, least := int64(0), int64(301)
		for rule := range int64(4) {
			if length := lengthByHand(x, rule); length < least {
				want, least = rule, length
			}
		}
		got, code := impl.ShortestRule(x)
		if least > 300 {
			check(t, fmt.Sprintf("ShortestRule(%v)", x), got, code, 0, impl.ErrLimit)
			continue
		}
		check(t, fmt.Sprintf("ShortestRule(%v)", x), got, code, want, impl.ErrNone)
		found[want]++
	}
	for rule := range int64(4) {
		if found[rule] == 0 {
			t.Errorf("the rule %d is never the shortest one", rule)
		}
	}
}

func TestShortestRuleByHand(t *testing.T) {
	cases := map[impl.Triple]int64{
		// Ended for all rules; ended for the rules 1 and 3.
		{5, 0, 0}: 0, {5, 2, 0}: 1, {1000, 1, 0}: 1,
		// Equally short by the rules 1, 2 and 3; by the rules 2 and 3; and by no two.
		{1, 1, 1}: 1, {7, 5, 2}: 2, {1000000, 1, 1}: 3,
		// Runs of exactly MaxRun steps that are the only ones short enough.
		{1000000, 300, 1}: 3,
	}
	for x, want := range cases {
		got, code := impl.ShortestRule(x)
		check(t, fmt.Sprintf("ShortestRule(%v)", x), got, code, want, impl.ErrNone)
	}
	for _, x := range []impl.Triple{{1000000, 301, 1}, {1000000, 100000, 1}, {1000000, 999999, 1}} {
		got, code := impl.ShortestRule(x)
		check(t, fmt.Sprintf("ShortestRule(%v)", x), got, code, 0, impl.ErrLimit)
	}
	for _, x := range slices.Concat(badTriples(), unsortedTriples(3)) {
		got, code := impl.ShortestRule(x)
		check(t, fmt.Sprintf("ShortestRule(%v)", x), got, code, 0, impl.ErrInvalid)
	}
}
