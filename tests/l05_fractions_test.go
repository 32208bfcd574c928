package tests

import (
	"slices"
	"testing"

	"loop.example/g01297/impl"
)

func TestIsFraction(t *testing.T) {
	for _, a := range gridPoints(8) {
		want := divisorByCounting(a[0], a[1]) == 1 && (a[1] > 0 || a == infinity)
		if got := impl.IsFraction(a); got != want {
			t.Errorf("IsFraction(%v) = %v", a, got)
		}
	}
	for _, a := range greatFractions() {
		if !impl.IsFraction(a) {
			t.Errorf("IsFraction(%v) = false", a)
		}
	}
	for _, a := range append(noFractions(), badPoints()...) {
		if impl.IsFraction(a) {
			t.Errorf("IsFraction(%v) = true", a)
		}
	}
}

func TestFractionOfPoint(t *testing.T) {
	cases := []struct{ a, want impl.Point }{
		{infinity, infinity}, {impl.Point{-1, 0}, infinity}, {impl.Point{0, 1}, impl.Point{0, 1}},
		{impl.Point{0, -1}, impl.Point{0, 1}}, {impl.Point{3, -7}, impl.Point{-3, 7}}, {impl.Point{-3, -7}, impl.Point{3, 7}},
		{impl.Point{-3, 7}, impl.Point{-3, 7}}, {impl.Point{5, -1}, impl.Point{-5, 1}},
		{impl.Point{-top, -1}, impl.Point{top, 1}}, {impl.Point{1, -top}, impl.Point{-1, top}},
	}
	for _, c := range cases {
		got, code := impl.FractionOfPoint(c.a)
		check(t, "FractionOfPoint", got, code, c.want, impl.ErrNone)
	}
	for _, a := range slices.Concat(gridFractions(8), greatFractions()) {
		for _, b := range []impl.Point{a, opposite(a)} {
			got, code := impl.FractionOfPoint(b)
			check(t, "FractionOfPoint", got, code, a, impl.ErrNone)
		}
	}
	for _, a := range append(gridPoints(8), impl.Point{top, top}, impl.Point{-top, 2}, impl.Point{0, top}, impl.Point{top, 0}) {
		if divisorByCounting(a[0], a[1]) != 1 {
			got, code := impl.FractionOfPoint(a)
			check(t, "FractionOfPoint", got, code, impl.Point{}, impl.ErrState)
		}
	}
	for _, a := range badPoints() {
		got, code := impl.FractionOfPoint(a)
		check(t, "FractionOfPoint", got, code, impl.Point{}, impl.ErrInvalid)
	}
}

func TestSumsAndDifferencesOfNeighbours(t *testing.T) {
	cases := []struct {
		a, b           impl.Point
		sum            impl.Point
		sumCode        int64
		difference     impl.Point
		differenceCode int64
	}{
		{impl.Point{1, 2}, impl.Point{1, 3}, impl.Point{2, 5}, impl.ErrNone, impl.Point{0, 1}, impl.ErrNone},
		{impl.Point{0, 1}, infinity, impl.Point{1, 1}, impl.ErrNone, impl.Point{-1, 1}, impl.ErrNone},
		{impl.Point{4, 1}, impl.Point{5, 1}, impl.Point{9, 2}, impl.ErrNone, infinity, impl.ErrNone},
		{impl.Point{-4, 1}, impl.Point{-5, 1}, impl.Point{-9, 2}, impl.ErrNone, infinity, impl.ErrNone},
		{impl.Point{-3, 1}, infinity, impl.Point{-2, 1}, impl.ErrNone, impl.Point{-4, 1}, impl.ErrNone},
		{impl.Point{-1, 2}, impl.Point{-1, 1}, impl.Point{-2, 3}, impl.ErrNone, impl.Point{0, 1}, impl.ErrNone},
		// Just points, and one more.
		{infinity, impl.Point{top - 1, 1}, impl.Point{top, 1}, impl.ErrNone, impl.Point{top - 2, 1}, impl.ErrNone},
		{infinity, impl.Point{1 - top, 1}, impl.Point{2 - top, 1}, impl.ErrNone, impl.Point{-top, 1}, impl.ErrNone},
		{infinity, impl.Point{top, 1}, impl.Point{}, impl.ErrLimit, impl.Point{top - 1, 1}, impl.ErrNone},
		{infinity, impl.Point{-top, 1}, impl.Point{1 - top, 1}, impl.ErrNone, impl.Point{}, impl.ErrLimit},
		{impl.Point{0, 1}, impl.Point{1, top - 1}, impl.Point{1, top}, impl.ErrNone, impl.Point{1, top - 2}, impl.ErrNone},
		{impl.Point{0, 1}, impl.Point{1, top}, impl.Point{}, impl.ErrLimit, impl.Point{1, top - 1}, impl.ErrNone},
		{impl.Point{0, 1}, impl.Point{-1, top}, impl.Point{}, impl.ErrLimit, impl.Point{-1, top - 1}, impl.ErrNone},
		{impl.Point{top, 1}, impl.Point{top - 1, 1}, impl.Point{}, impl.ErrLimit, infinity, impl.ErrNone},
		{impl.Point{-top, 1}, impl.Point{1 - top, 1}, impl.Point{}, impl.ErrLimit, infinity, impl.ErrNone},
		{impl.Point{top, top - 1}, impl.Point{top - 1, top - 2}, impl.Point{}, impl.ErrLimit, impl.Point{1, 1}, impl.ErrNone},
	}
	for _, c := range cases {
		for _, pair := range [][2]impl.Point{{c.a, c.b}, {c.b, c.a}} {
			near, code := impl.AreNeighbours(pair[0], pair[1])
			check(t, "AreNeighbours", near, code, true, impl.ErrNone)
			got, code := impl.SumOfNeighbours(pair[0], pair[1])
			check(t, "SumOfNeighbours", got, code, c.sum, c.sumCode)
			got, code = impl.DifferenceOfNeighbours(pair[0], pair[1])
			check(t, "DifferenceOfNeighbours", got, code, c.difference, c.differenceCode)
		}
	}
}

func TestPairsThatAreNoNeighbours(t *testing.T) {
	pairs := [][2]impl.Point{
		{infinity, infinity}, {{0, 1}, {0, 1}}, {{3, 7}, {3, 7}}, {{top, 1}, {top, 1}}, {{1, 2}, {1, 4}}, {{1, 2}, {3, 2}},
		{infinity, {1, 2}}, {{0, 1}, {2, 1}}, {{-1, 1}, {1, 1}}, {{1, 3}, {2, 3}}, {infinity, {1, top}}, {{0, 1}, {top, 1}},
		// The sums or differences would be too great also.
		{{top, 1}, {-top, 1}}, {{top, 1}, {top - 2, 1}}, {{top, top - 1}, {top - 1, top}}, {{-1, top}, {1, top}},
	}
	for _, x := range pairs {
		near, code := impl.AreNeighbours(x[0], x[1])
		check(t, "AreNeighbours", near, code, false, impl.ErrNone)
		got, code := impl.SumOfNeighbours(x[0], x[1])
		check(t, "SumOfNeighbours", got, code, impl.Point{}, impl.ErrState)
		got, code = impl.DifferenceOfNeighbours(x[0], x[1])
		check(t, "DifferenceOfNeighbours", got, code, impl.Point{}, impl.ErrState)
		for _, c := range []impl.Point{infinity, {0, 1}, {1, 3}, {-1, 1}} {
			got, code = impl.ReflectFraction(x[0], x[1], c)
			check(t, "ReflectFraction", got, code, impl.Point{}, impl.ErrState)
		}
	}
}

// TestOnlySumAndDifferenceAreNeighboursOfBoth looks for all fractions that are, among small ones.
func TestOnlySumAndDifferenceAreNeighboursOfBoth(t *testing.T) {
	all := gridFractions(10)
	for _, a := range gridFractions(5) {
		for _, b := range gridFractions(5) {
			near, code := impl.AreNeighbours(a, b)
			check(t, "AreNeighbours", near, code, areExactNeighbours(a, b), impl.ErrNone)
			if !near {
				continue
			}
			sum, code := impl.SumOfNeighbours(a, b)
			check(t, "SumOfNeighbours", sum, code, combine(1, a, 1, b), impl.ErrNone)
			difference, code := impl.DifferenceOfNeighbours(a, b)
			check(t, "DifferenceOfNeighbours", difference, code, fractionByHand(combine(1, a, -1, b)), impl.ErrNone)
			for _, c := range all {
				both := areExactNeighbours(a, c) && areExactNeighbours(b, c)
				if both != (c == sum || c == difference) {
					t.Errorf("%v and %v have the sum %v and the difference %v", a, b, sum, difference)
				}
				checkReflection(t, a, b, c, sum, difference)
			}
		}
	}
}

// checkReflection asks for the other one of the sum and the difference, or for none.
func checkReflection(t *testing.T, a, b, c, sum, difference impl.Point) {
	t.Helper()
	got, code := impl.ReflectFraction(a, b, c)
	switch c {
	case sum:
		check(t, "ReflectFraction", got, code, difference, impl.ErrNone)
	case difference:
		check(t, "ReflectFraction", got, code, sum, impl.ErrNone)
	default:
		check(t, "ReflectFraction", got, code, impl.Point{}, impl.ErrState)
	}
}

func TestReflectFraction(t *testing.T) {
	cases := []struct {
		a, b, c impl.Point
		want    impl.Point
		code    int64
	}{
		{impl.Point{1, 2}, impl.Point{1, 3}, impl.Point{0, 1}, impl.Point{2, 5}, impl.ErrNone},
		{impl.Point{1, 2}, impl.Point{1, 3}, impl.Point{2, 5}, impl.Point{0, 1}, impl.ErrNone},
		{impl.Point{1, 2}, impl.Point{1, 3}, impl.Point{1, 2}, impl.Point{}, impl.ErrState},
		{impl.Point{1, 2}, impl.Point{1, 3}, impl.Point{1, 1}, impl.Point{}, impl.ErrState},
		{impl.Point{0, 1}, infinity, impl.Point{1, 1}, impl.Point{-1, 1}, impl.ErrNone},
		{infinity, impl.Point{0, 1}, impl.Point{-1, 1}, impl.Point{1, 1}, impl.ErrNone},
		{impl.Point{4, 1}, impl.Point{5, 1}, infinity, impl.Point{9, 2}, impl.ErrNone},
		// The sum, or the difference, would be too great, or just is not.
		{infinity, impl.Point{top - 1, 1}, impl.Point{top - 2, 1}, impl.Point{top, 1}, impl.ErrNone},
		{infinity, impl.Point{top, 1}, impl.Point{top - 1, 1}, impl.Point{}, impl.ErrLimit},
		{infinity, impl.Point{1 - top, 1}, impl.Point{2 - top, 1}, impl.Point{-top, 1}, impl.ErrNone},
		{infinity, impl.Point{-top, 1}, impl.Point{1 - top, 1}, impl.Point{}, impl.ErrLimit},
		{impl.Point{1, top}, impl.Point{0, 1}, impl.Point{1, top - 1}, impl.Point{}, impl.ErrLimit},
		{impl.Point{1, top}, impl.Point{0, 1}, impl.Point{1, top - 2}, impl.Point{}, impl.ErrState},
		{infinity, impl.Point{top, 1}, infinity, impl.Point{}, impl.ErrState},
	}
	for _, c := range cases {
		got, code := impl.ReflectFraction(c.a, c.b, c.c)
		check(t, "ReflectFraction", got, code, c.want, c.code)
	}
}

func TestNeighboursAmongGreatFractions(t *testing.T) {
	list := slices.Concat(greatFractions(), manyFractions(60, top))
	for _, a := range list {
		for _, b := range list {
			near, code := impl.AreNeighbours(a, b)
			check(t, "AreNeighbours", near, code, areExactNeighbours(a, b), impl.ErrNone)
		}
	}
}

func TestErrorsOfFractionsInOrder(t *testing.T) {
	good := []impl.Point{infinity, {0, 1}, {1, 2}, {top, 1}}
	for _, a := range badPoints() {
		checkOneError(t, a, impl.ErrInvalid)
		for _, b := range slices.Concat(good, noFractions(), badPoints()[:6]) {
			checkTwoErrors(t, a, b, impl.ErrInvalid)
			checkTwoErrors(t, b, a, impl.ErrInvalid)
		}
	}
	for _, a := range noFractions() {
		checkOneError(t, a, impl.ErrRange)
		for _, b := range append(good, noFractions()...) {
			checkTwoErrors(t, a, b, impl.ErrRange)
			checkTwoErrors(t, b, a, impl.ErrRange)
		}
	}
}

// checkOneError asks the functions of one fraction for a code; beside it, there is nothing.
func checkOneError(t *testing.T, a impl.Point, want int64) {
	t.Helper()
	parents, code := impl.ParentsOf(a)
	checkList(t, "ParentsOf", parents, code, nil, want)
	path, code := impl.PathOf(a)
	check(t, "PathOf", path, code, "", want)
	for _, m := range []impl.Matrix{{{1, 0}, {0, 1}}, {{2, 0}, {0, 1}}, {}} {
		image, code := impl.ApplyToFraction(m, a)
		check(t, "ApplyToFraction", image, code, impl.Point{}, want)
	}
}

// checkTwoErrors does the same for the functions of two and three fractions.
func checkTwoErrors(t *testing.T, a impl.Point, b impl.Point, want int64) {
	t.Helper()
	near, code := impl.AreNeighbours(a, b)
	check(t, "AreNeighbours", near, code, false, want)
	c, code := impl.SumOfNeighbours(a, b)
	check(t, "SumOfNeighbours", c, code, impl.Point{}, want)
	c, code = impl.DifferenceOfNeighbours(a, b)
	check(t, "DifferenceOfNeighbours", c, code, impl.Point{}, want)
	n, code := impl.FareyDistance(a, b)
	check(t, "FareyDistance", n, code, 0, want)
	list, code := impl.GeodesicOf(a, b)
	checkList(t, "GeodesicOf", list, code, nil, want)
	for _, x := range [][3]impl.Point{{a, b, infinity}, {a, infinity, b}, {infinity, a, b}} {
		c, code = impl.ReflectFraction(x[0], x[1], x[2])
		check(t, "ReflectFraction", c, code, impl.Point{}, want)
	}
}
