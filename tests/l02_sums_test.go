package tests

import (
	"slices"
	"testing"

	"loop.example/g01297/impl"
)

func TestSumOfCorners(t *testing.T) {
	x := corner(1, 0, 2, 5)
	one := corner(0, 1, 1, 0)
	cases := []struct {
		x, y impl.Corner
		n    int64
		want impl.Corner
	}{
		{x, x, 1, corner(1, 0, 19, 50)},
		{x, x, 0, corner(1, 0, 9, 25)},
		{x, x, -2, corner(1, 0, 14, 25)},
		{one, one, 0, corner(1, 0, 1, 2)},
		{one, one, -1, corner(1, 0, 1, 1)}, // P is 0 on the way
		{one, one, -3, corner(1, 0, 1, 1)},
		{one, one, top - 2, corner(1, 0, top-1, top)},
		{one, one, -top, corner(1, 0, top-3, top-2)},
		{corner(1, 0, 1, 4), one, 1, corner(1, 0, 2, 9)},
		{one, corner(1, 0, 1, 4), 1, corner(1, 0, 5, 9)},
	}
	for _, c := range cases {
		got, code := impl.SumOfCorners(c.x, c.y, c.n)
		check(t, "SumOfCorners", got, code, c.want, impl.ErrNone)
	}
}

func TestSumsAreAsDefined(t *testing.T) {
	all := gridCorners(2)
	for _, x := range all {
		for _, y := range all {
			for n := int64(-3); n <= 3; n++ {
				list := slices.Concat(longByHand(exactSine(x), cosineByCounting(x)), []int64{n})
				list = append(list, longByHand(exactSine(y), cosineByCounting(y))...)
				p, q := exactFold(list)
				got, code := impl.SumOfCorners(x, y, n)
				if p == 0 {
					check(t, "SumOfCorners", got, code, impl.Corner{}, impl.ErrState)
					continue
				}
				of := corner(1, 0, q, p)
				want := corner(1, 0, cosineByCounting(of), exactSine(of))
				check(t, "SumOfCorners", got, code, want, impl.ErrNone)
			}
		}
	}
}

// The sine of a sum is told by the sines, the cosine of the transposed first corner, and the cosine
// of the second one.
func TestSinesOfSums(t *testing.T) {
	for _, x := range gridCorners(3) {
		for _, y := range []impl.Corner{corner(1, 0, 1, 1), corner(1, 0, 5, 12), corner(3, -7, 2, 9), corner(30, 7, 11, 19)} {
			turned, _ := impl.TransposeCorner(x)
			for _, n := range []int64{-100, -2, -1, 0, 1, 2, 77} {
				a, b := exactSine(x), exactSine(y)
				want := n*a*b + cosineByCounting(turned)*b + a*cosineByCounting(y)
				sum, code := impl.SumOfCorners(x, y, n)
				if want == 0 {
					check(t, "SumOfCorners", sum, code, impl.Corner{}, impl.ErrState)
					continue
				}
				sine, _ := impl.SineOf(sum)
				check(t, "SumOfCorners", sine, code, max(want, -want), impl.ErrNone)
			}
		}
	}
}

func TestSumsThatAreNone(t *testing.T) {
	x := corner(1, 0, 2, 5)
	one := corner(1, 0, 0, 1)
	edge := corner(1, 0, 1, top)
	cases := []struct {
		x, y impl.Corner
		n    int64
		code int64
	}{
		{one, one, -2, impl.ErrState},
		{x, x, -1, impl.ErrState},
		{corner(1, 0, 1, 2), corner(1, 0, 1, 2), -1, impl.ErrState},
		{edge, edge, 0, impl.ErrLimit}, // P would be twice MaxCoord
		{edge, edge, top, impl.ErrLimit},
		{edge, edge, -top, impl.ErrLimit},
		{one, one, top, impl.ErrLimit},
		{one, one, top - 1, impl.ErrLimit},
		{x, x, top, impl.ErrLimit},
		{corner(1, 0, 1, top-1), one, 0, impl.ErrNone},
		{edge, one, 0, impl.ErrLimit},
		{one, edge, 0, impl.ErrLimit},
		{edge, one, -1, impl.ErrNone},
		{one, edge, -1, impl.ErrNone},
	}
	for _, c := range cases {
		got, code := impl.SumOfCorners(c.x, c.y, c.n)
		if code != c.code || code != impl.ErrNone && got != (impl.Corner{}) {
			t.Errorf("SumOfCorners(%v, %v, %d) = %v, %d; want code %d", c.x, c.y, c.n, got, code, c.code)
		}
	}
}

// No sines of at most MaxCoord have lists of more than 29 numbers, so that no list of a sum has
// more than MaxTerms; the longest ones lead to numbers that are too great on the way.
func TestSumsOfTheLongestLists(t *testing.T) {
	longest := corner(1, 0, 514229, 832040)
	list, code := impl.ExpansionOfCorner(longest)
	check(t, "ExpansionOfCorner", len(list), code, 29, impl.ErrNone)
	for _, n := range []int64{-top, -3, -2, -1, 0, 1, 2, top} {
		got, code := impl.SumOfCorners(longest, longest, n)
		check(t, "SumOfCorners", got, code, impl.Corner{}, impl.ErrLimit)
	}
}

func TestErrorsOfSumsInOrder(t *testing.T) {
	good, other := corner(1, 0, 2, 5), corner(0, 1, 1, 0)
	for _, bad := range badCorners() {
		for _, n := range []int64{0, top + 1} {
			for _, y := range []impl.Corner{good, wideCorners()[0], bad} {
				got, code := impl.SumOfCorners(bad, y, n)
				check(t, "SumOfCorners", got, code, impl.Corner{}, impl.ErrInvalid)
				got, code = impl.SumOfCorners(y, bad, n)
				check(t, "SumOfCorners", got, code, impl.Corner{}, impl.ErrInvalid)
			}
		}
	}
	for _, n := range tooGreat {
		for _, wide := range append(wideCorners(), good) {
			got, code := impl.SumOfCorners(wide, other, n)
			check(t, "SumOfCorners", got, code, impl.Corner{}, impl.ErrRange)
			got, code = impl.SumOfCorners(other, wide, n)
			check(t, "SumOfCorners", got, code, impl.Corner{}, impl.ErrRange)
		}
	}
	for _, wide := range wideCorners() {
		for _, n := range []int64{-top, -2, 0, 1, top} {
			got, code := impl.SumOfCorners(wide, other, n)
			check(t, "SumOfCorners", got, code, impl.Corner{}, impl.ErrLimit)
			got, code = impl.SumOfCorners(other, wide, n)
			check(t, "SumOfCorners", got, code, impl.Corner{}, impl.ErrLimit)
		}
	}
}
