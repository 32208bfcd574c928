package tests

import (
	"fmt"
	"slices"
	"testing"

	"loop.example/g01297/impl"
)

func checkDual(t *testing.T, x []impl.Point, want []impl.Point, wantCode int64) {
	t.Helper()
	got, code := impl.DualPolygon(x)
	checkList(t, fmt.Sprintf("DualPolygon(%v)", x), got, code, want, wantCode)
}

func TestDualPolygon(t *testing.T) {
	cases := []struct{ of, want []impl.Point }{
		{threeArms, []impl.Point{{-1, -1}, {2, -1}, {-1, 2}}},
		{[]impl.Point{{-1, -1}, {2, -1}, {-1, 2}}, []impl.Point{{0, 1}, {-1, -1}, {1, 0}}},
		{[]impl.Point{{1, 0}, {0, 1}, {-1, 0}, {0, -1}}, []impl.Point{{-1, -1}, {1, -1}, {1, 1}, {-1, 1}}},
		{[]impl.Point{{-1, -1}, {1, -1}, {1, 1}, {-1, 1}}, []impl.Point{{0, 1}, {-1, 0}, {0, -1}, {1, 0}}},
		{[]impl.Point{{1, 0}, {1, 1}, {0, 1}, {-1, 0}, {-1, -1}, {0, -1}}, []impl.Point{{-1, 0}, {0, -1}, {1, -1}, {1, 0}, {0, 1}, {-1, 1}}},
		{[]impl.Point{{-2, -1}, {2, -1}, {0, 1}}, []impl.Point{{0, 1}, {-1, -1}, {1, -1}}},
		{[]impl.Point{{1, 0}, {0, 1}, {-2, -3}}, []impl.Point{{-1, -1}, {2, -1}, {-1, 1}}},
	}
	for _, c := range cases {
		for i := range c.of {
			checkDual(t, from(c.of, i), from(c.want, i), impl.ErrNone)
		}
	}
}

// dualByTrying tries all points with numbers up to n for each side; it is nil if there is none, or more.
func dualByTrying(x []impl.Point, n int64) []impl.Point {
	var dual []impl.Point
	for i, b := range x {
		c := x[(i+1)%len(x)]
		for _, u := range gridPoints(n) {
			if u[0]*b[0]+u[1]*b[1] == -1 && u[0]*c[0]+u[1]*c[1] == -1 {
				dual = append(dual, u)
			}
		}
	}
	return dual
}

// hasDual tells whether 0 is the only inner point; other tests count these one by one.
func hasDual(x []impl.Point) bool {
	return areaByHand(x) == borderByHand(x) && whereByHand(x, impl.Point{}) == 1
}

// polygonsAroundZero have 0 as their only inner point, and numbers up to 4.
func polygonsAroundZero() [][]impl.Point {
	var list [][]impl.Point
	for _, x := range slices.Concat(manyPolygons(6000, 1, 40), manyPolygons(12000, 2, 41), manyPolygons(6000, 3, 42), manyPolygons(3000, 4, 43)) {
		if hasDual(x) {
			list = append(list, x)
		}
	}
	return list
}

func TestDualsAreAsDefined(t *testing.T) {
	for _, x := range everyFew(polygonsAroundZero(), 5) {
		checkDual(t, x, dualByTrying(x, 8), impl.ErrNone)
	}
}

// There are sixteen polygons with one inner point that are not like each other.
func TestDualsOfDualsAreThePolygons(t *testing.T) {
	forms := map[string]bool{}
	for _, x := range polygonsAroundZero() {
		normal, _ := impl.NormalPolygon(x)
		text, _ := impl.PointsText(normal)
		forms[text] = true
		dual, code := impl.DualPolygon(x)
		if !isPolygonByHand(dual) || code != impl.ErrNone {
			t.Fatalf("DualPolygon(%v) = %v, %d", x, dual, code)
		}
		checkDual(t, dual, from(x, 1), impl.ErrNone)
		border, _ := impl.BorderNumber(x)
		other, code := impl.BorderNumber(dual)
		check(t, fmt.Sprintf("BorderNumber(%v)", dual), other, code, 12-border, impl.ErrNone)
		inner, code := impl.InnerNumber(dual)
		check(t, fmt.Sprintf("InnerNumber(%v)", dual), inner, code, 1, impl.ErrNone)
	}
	if len(forms) != 16 {
		t.Errorf("there are %d normal forms", len(forms))
	}
}

func TestDualsOfGreatPolygons(t *testing.T) {
	few := everyFew(polygonsAroundZero(), 50)
	for _, m := range []impl.Matrix{{{31, 20}, {14, 9}}, {{-250, 249}, {1, -1}}, {{1, 300}, {0, 1}}, {{0, 1}, {-1, 333}}, {{21, 13}, {-34, -21}}} {
		for _, x := range few {
			moved := turnedBy(m, x)
			if slices.Max(numbersOf(moved)) > side || slices.Min(numbersOf(moved)) < -side {
				continue
			}
			dual, code := impl.DualPolygon(moved)
			if len(dual) != len(x) || code != impl.ErrNone {
				t.Fatalf("DualPolygon(%v) = %v, %d", moved, dual, code)
			}
			for i, b := range moved {
				checkDualCorner(t, moved, dual, i, b)
				checkDualCorner(t, moved, dual, i, moved[(i+1)%len(moved)])
			}
		}
	}
}

func checkDualCorner(t *testing.T, x []impl.Point, dual []impl.Point, i int, a impl.Point) {
	t.Helper()
	if u := dual[i]; u[0]*a[0]+u[1]*a[1] != -1 {
		t.Errorf("the sum for %v and %v of the dual of %v is not -1", a, u, x)
	}
}

// The chapter tells of no limit of duals, and the numbers of these are greater than MaxSide.
func TestDualsThatAreGreaterThanPolygons(t *testing.T) {
	checkDual(t, []impl.Point{{999, 1}, {-1000, -1}, {1, 0}}, []impl.Point{{2, -1999}, {-1, 1001}, {-1, 998}}, impl.ErrNone)
	checkDual(t, []impl.Point{{0, 1}, {-1, -1000}, {1, 999}}, []impl.Point{{1001, -1}, {-1999, 2}, {998, -1}}, impl.ErrNone)
}

func TestPolygonsWithoutADual(t *testing.T) {
	lists := [][]impl.Point{
		// No inner point: 0 is a corner, on a side, outside, or far away.
		halfSquare, {{-1, 0}, {1, 0}, {0, 1}}, {{1, 0}, {2, 0}, {1, 1}}, {{-1, -1}, {0, -1}, {1, 1}}, movedBy(unit, halfSquare, impl.Point{-500, 700}), {{-1, -1}, {1, 1}, {0, 1}},
		// Another one is the only inner point: 0 is a corner, on a side, or outside.
		twoSquare, {{-1, 0}, {1, 0}, {1, 2}, {-1, 2}}, {{0, -1}, {2, -1}, {2, 1}, {0, 1}}, movedBy(unit, threeArms, impl.Point{1, 1}), movedBy(unit, threeArms, impl.Point{2, 0}),
		movedBy(unit, threeArms, impl.Point{-1, 0}), movedBy(unit, threeArms, impl.Point{900, -900}), {{-1, 0}, {2, 0}, {-1, 3}}, {{0, 0}, {3, 0}, {0, 3}},
		// Several inner points, 0 among them or not.
		{{-2, -1}, {1, -1}, {1, 1}, {-2, 1}}, {{-1, -1}, {2, -1}, {2, 1}, {-1, 1}}, {{-1, -1}, {2, 0}, {0, 2}}, {{-2, -2}, {2, -2}, {2, 2}, {-2, 2}}, {{-1, 0}, {0, -1}, {2, 0}, {0, 1}},
		{{-3, -3}, {1, 0}, {0, 1}}, {{0, 0}, {4, 0}, {0, 4}}, {{-2, 0}, {2, 0}, {2, 3}, {-2, 3}}, times(2, threeArms), allOfIt, {{-1000, -1000}, {1000, 999}, {1000, 1000}}, movedBy(unit, twoSquare, impl.Point{-1, -2}),
	}
	for _, x := range lists {
		if !isPolygonByHand(x) {
			t.Errorf("%v is no polygon", x)
		}
		if hasDual(x) {
			t.Errorf("%v has a dual", x)
		}
		for i := range x {
			checkDual(t, from(x, i), nil, impl.ErrState)
		}
	}
}

func TestOnlyPolygonsAroundZeroAloneHaveADual(t *testing.T) {
	for _, x := range slices.Concat(manyPolygons(1500, 2, 44), manyPolygons(1500, 3, 45)) {
		_, code := impl.DualPolygon(x)
		want := int64(impl.ErrState)
		if hasDual(x) {
			want = impl.ErrNone
		}
		check(t, fmt.Sprintf("DualPolygon(%v)", x), 0, code, 0, want)
	}
}

func TestWidthFor(t *testing.T) {
	cases := []struct {
		of   []impl.Point
		u    impl.Point
		want int64
	}{
		{threeArms, impl.Point{1, 1}, 3}, {threeArms, impl.Point{1, 0}, 2}, {threeArms, impl.Point{0, 1}, 2}, {threeArms, impl.Point{1, -1}, 2}, {threeArms, impl.Point{-1, -1}, 3},
		{halfSquare, impl.Point{1, 0}, 1}, {halfSquare, impl.Point{-1, 0}, 1}, {halfSquare, impl.Point{1, 1}, 1}, {halfSquare, impl.Point{2, 1}, 2}, {halfSquare, impl.Point{2, -1}, 3},
		{twoSquare, impl.Point{3, 5}, 16}, {twoSquare, impl.Point{3, -5}, 16}, {movedBy(unit, twoSquare, impl.Point{700, -900}), impl.Point{3, -5}, 16},
		{allOfIt, impl.Point{top, top - 1}, 2000 * (2*top - 1)}, {allOfIt, impl.Point{-top, top - 1}, 2000 * (2*top - 1)}, {allOfIt, impl.Point{1, -top}, 2000 * (top + 1)},
		{[]impl.Point{{-1000, -1000}, {1000, 999}, {1000, 1000}}, impl.Point{1, -1}, 1}, {[]impl.Point{{-1000, -1000}, {1000, 999}, {1000, 1000}}, impl.Point{1999, -2000}, 2000},
	}
	for _, c := range cases {
		for i := range c.of {
			got, code := impl.WidthFor(from(c.of, i), c.u)
			check(t, fmt.Sprintf("WidthFor(%v, %v)", from(c.of, i), c.u), got, code, c.want, impl.ErrNone)
		}
	}
}

// The width is the greatest difference of two corners, and not that of neighbours alone.
func TestWidthsAreAsDefined(t *testing.T) {
	next := numbersFrom(46)
	for _, x := range allPolygons() {
		for _, u := range slices.Concat(gridPoints(3), somePoints(next, 10, 50), somePoints(next, 10, top)) {
			want, wantCode := int64(0), int64(impl.ErrState)
			if exactDivisor(u[0], u[1]) == 1 {
				wantCode = impl.ErrNone
				for _, a := range x {
					for _, b := range x {
						want = max(want, u[0]*(a[0]-b[0])+u[1]*(a[1]-b[1]))
					}
				}
			}
			got, code := impl.WidthFor(x, u)
			check(t, fmt.Sprintf("WidthFor(%v, %v)", x, u), got, code, want, wantCode)
		}
	}
}

func TestWidthsOfSumsAreSums(t *testing.T) {
	list := manyPolygons(200, 20, 47)
	for i := 1; i < len(list); i++ {
		sum, code := impl.AddPolygons(list[i-1], list[i])
		for _, u := range []impl.Point{{1, 0}, {0, 1}, {1, 1}, {-2, 3}, {7, -5}, {1, 1000}} {
			if code == impl.ErrNone {
				x, _ := impl.WidthFor(list[i-1], u)
				y, _ := impl.WidthFor(list[i], u)
				got, code := impl.WidthFor(sum, u)
				check(t, fmt.Sprintf("WidthFor(%v, %v)", sum, u), got, code, x+y, impl.ErrNone)
			}
		}
	}
}

func TestWidthsForPointsThatAreNotPrimitive(t *testing.T) {
	for _, u := range []impl.Point{{0, 0}, {2, 0}, {0, 2}, {0, -2}, {-2, 0}, {2, 2}, {2, -4}, {-3, 6}, {top, top}, {top, 0}, {0, -top}, {top, 2}, {999999, 3}} {
		for _, x := range [][]impl.Point{halfSquare, threeArms, allOfIt} {
			got, code := impl.WidthFor(x, u)
			check(t, fmt.Sprintf("WidthFor(%v, %v)", x, u), got, code, 0, impl.ErrState)
		}
	}
}
