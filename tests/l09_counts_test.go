package tests

import (
	"fmt"
	"slices"
	"testing"

	"loop.example/g01297/impl"
)

func checkNumbers(t *testing.T, x []impl.Point, area int64, border int64, inner int64) {
	t.Helper()
	n, code := impl.AreaOfPolygon(x)
	check(t, fmt.Sprintf("AreaOfPolygon(%v)", x), n, code, area, impl.ErrNone)
	n, code = impl.BorderNumber(x)
	check(t, fmt.Sprintf("BorderNumber(%v)", x), n, code, border, impl.ErrNone)
	n, code = impl.InnerNumber(x)
	check(t, fmt.Sprintf("InnerNumber(%v)", x), n, code, inner, impl.ErrNone)
}

func TestNumbersOfPolygons(t *testing.T) {
	cases := []struct {
		of                  []impl.Point
		area, border, inner int64
	}{
		{halfSquare, 1, 3, 0},
		{[]impl.Point{{0, 0}, {1, 0}, {1, 1}, {0, 1}}, 2, 4, 0},
		{twoSquare, 8, 8, 1},
		{threeArms, 3, 3, 1},
		{[]impl.Point{{0, 0}, {2, 0}, {0, 2}}, 4, 6, 0},
		{[]impl.Point{{2, -1}, {-1, 2}, {-1, -1}}, 9, 9, 1},
		{[]impl.Point{{-2, -1}, {2, -1}, {0, 1}}, 8, 8, 1},
		{[]impl.Point{{5, 5}, {8, 6}, {6, 9}}, 11, 3, 5},
		{sixteen()[:12], 96, 12, 43},
		{allOfIt, 8000000, 8000, 3996001},
		{[]impl.Point{{-1000, -1000}, {1000, -1000}, {1000, 1000}}, 4000000, 6000, 1997001},
		{[]impl.Point{{-1000, -1000}, {1000, 999}, {1000, 1000}}, 2000, 2002, 0},
		{[]impl.Point{{-1000, 0}, {0, -1000}, {1000, 0}, {0, 1000}}, 4000000, 4000, 1998001},
		{[]impl.Point{{1000, 999}, {1000, 1000}, {999, 1000}}, 1, 3, 0},
	}
	for _, c := range cases {
		for i := range c.of {
			checkNumbers(t, from(c.of, i), c.area, c.border, c.inner)
		}
	}
}

func TestPointsOfPolygonsAreCountedOneByOne(t *testing.T) {
	none, one, many := 0, 0, 0
	for _, x := range somePolygons() {
		inner, border := countOneByOne(x)
		checkNumbers(t, x, areaByHand(x), border, inner)
		if border != borderByHand(x) {
			t.Errorf("the lengths of %v are %d in sum, but %d points are on the border", x, borderByHand(x), border)
		}
		switch inner {
		case 0:
			none++
		case 1:
			one++
		default:
			many++
		}
	}
	if none < 10 || one < 10 || many < 10 {
		t.Errorf("%d, %d and %d polygons have no inner point, one, and many", none, one, many)
	}
}

func TestNumbersOfGreatPolygons(t *testing.T) {
	for _, x := range greatPolygons() {
		area, border := areaByHand(x), borderByHand(x)
		checkNumbers(t, x, area, border, (area-border+2)/2)
	}
	for _, x := range manyPolygons(2, side, 11) {
		inner, border := countOneByOne(x)
		checkNumbers(t, x, areaByHand(x), border, inner)
	}
}

// Moved polygons have the same numbers, also far from 0.
func TestNumbersOfMovedPolygons(t *testing.T) {
	for _, x := range somePolygons() {
		for _, by := range []impl.Point{{900, 900}, {-900, 900}, {900, -900}, {-900, -900}, {0, 900}, {-17, 0}} {
			area, border := areaByHand(x), borderByHand(x)
			checkNumbers(t, movedBy(unit, x, by), area, border, (area-border+2)/2)
		}
	}
}

func TestAreasOfThreeCornersAreThoseOfTheirPoints(t *testing.T) {
	for _, x := range slices.Concat(gridTriangles(2), manyTriangles(3000, side)) {
		list := x[:]
		if exactTurn(x) < 0 {
			list = backwards(list)
		}
		want, code := impl.AreaOf(x[0], x[1], x[2])
		check(t, "AreaOf", want, code, exactArea(x), impl.ErrNone)
		got, code := impl.AreaOfPolygon(list)
		check(t, fmt.Sprintf("AreaOfPolygon(%v)", list), got, code, want, impl.ErrNone)
		boundary, _ := impl.BoundaryOf(x)
		inner, _ := impl.CountInner(x)
		checkNumbers(t, list, want, boundary, inner)
	}
}

func manyTriangles(n int, limit int64) []impl.Triangle {
	var list []impl.Triangle
	for points := range slices.Chunk(somePoints(numbersFrom(12), 3*n, limit), 3) {
		if x := impl.Triangle(points); exactTurn(x) != 0 {
			list = append(list, x)
		}
	}
	return list
}

func TestCountOfMultiple(t *testing.T) {
	cases := []struct {
		of      []impl.Point
		k, want int64
	}{
		{twoSquare, 0, 1}, {twoSquare, 1, 9}, {twoSquare, 2, 25}, {twoSquare, 1000, 2001 * 2001},
		{halfSquare, 0, 1}, {halfSquare, 1, 3}, {halfSquare, 2, 6}, {halfSquare, 1000, 1001 * 1002 / 2}, {halfSquare, 999, 1000 * 1001 / 2},
		{threeArms, 0, 1}, {threeArms, 1, 4}, {threeArms, 2, 10}, {threeArms, 3, 19},
		{allOfIt, 0, 1}, {allOfIt, 1, 2001 * 2001}, {allOfIt, 1000, 2000001 * 2000001}, {allOfIt, 999, 1998001 * 1998001},
	}
	for _, c := range cases {
		got, code := impl.CountOfMultiple(c.of, c.k)
		check(t, fmt.Sprintf("CountOfMultiple(%v, %d)", c.of, c.k), got, code, c.want, impl.ErrNone)
	}
}

func TestPointsOfMultiplesAreCountedOneByOne(t *testing.T) {
	for _, x := range everyFew(somePolygons(), 3) {
		for k := int64(1); k <= 4; k++ {
			inner, border := countOneByOne(times(k, x))
			got, code := impl.CountOfMultiple(x, k)
			check(t, fmt.Sprintf("CountOfMultiple(%v, %d)", x, k), got, code, inner+border, impl.ErrNone)
		}
	}
}

// All counts are those of the polygon with all corners times k, and that of 0 has 0 alone.
func TestCountsOfGreatMultiples(t *testing.T) {
	for _, x := range allPolygons() {
		got, code := impl.CountOfMultiple(x, 0)
		check(t, fmt.Sprintf("CountOfMultiple(%v, 0)", x), got, code, 1, impl.ErrNone)
		for _, k := range []int64{1, 2, 7, 140, 999, 1000} {
			want := (areaByHand(times(k, x)) + k*borderByHand(x) + 2) / 2
			got, code := impl.CountOfMultiple(x, k)
			check(t, fmt.Sprintf("CountOfMultiple(%v, %d)", x, k), got, code, want, impl.ErrNone)
		}
	}
}

func TestCountsThatAreOutOfRange(t *testing.T) {
	for _, k := range slices.Concat([]int64{-1, -2, -1000, 1001, 1002, 1 << 32, 1<<32 + 1}, tooGreat) {
		for _, x := range [][]impl.Point{halfSquare, twoSquare, allOfIt} {
			got, code := impl.CountOfMultiple(x, k)
			check(t, fmt.Sprintf("CountOfMultiple(%v, %d)", x, k), got, code, 0, impl.ErrRange)
		}
	}
}

func TestWhereInPolygon(t *testing.T) {
	cases := []struct {
		of   []impl.Point
		a    impl.Point
		want int64
	}{
		{twoSquare, impl.Point{1, 1}, 1},
		// Corners, sides, and lines of sides.
		{twoSquare, impl.Point{0, 0}, 0}, {twoSquare, impl.Point{2, 0}, 0}, {twoSquare, impl.Point{2, 2}, 0}, {twoSquare, impl.Point{0, 2}, 0},
		{twoSquare, impl.Point{1, 0}, 0}, {twoSquare, impl.Point{2, 1}, 0}, {twoSquare, impl.Point{1, 2}, 0}, {twoSquare, impl.Point{0, 1}, 0},
		{twoSquare, impl.Point{3, 0}, -1}, {twoSquare, impl.Point{-1, 0}, -1}, {twoSquare, impl.Point{2, 3}, -1}, {twoSquare, impl.Point{0, -1}, -1},
		{twoSquare, impl.Point{3, 3}, -1}, {twoSquare, impl.Point{-1, 1}, -1}, {twoSquare, impl.Point{1, -1}, -1}, {twoSquare, impl.Point{3, 1}, -1},
		{threeArms, impl.Point{0, 0}, 1}, {threeArms, impl.Point{1, 1}, -1}, {threeArms, impl.Point{2, -1}, -1},
		{allOfIt, impl.Point{999, -999}, 1}, {allOfIt, impl.Point{1000, 17}, 0}, {allOfIt, impl.Point{1001, 17}, -1}, {allOfIt, impl.Point{1001, 1000}, -1},
		{allOfIt, impl.Point{top, top}, -1}, {allOfIt, impl.Point{-top, 0}, -1}, {allOfIt, impl.Point{1000, -top}, -1}, {allOfIt, impl.Point{top, -1000}, -1},
		{[]impl.Point{{-1000, -1000}, {1000, 999}, {1000, 1000}}, impl.Point{0, 0}, 0}, {[]impl.Point{{-1000, -1000}, {1000, 999}, {1000, 1000}}, impl.Point{top, top}, -1},
	}
	for _, c := range cases {
		for i := range c.of {
			got, code := impl.WhereInPolygon(from(c.of, i), c.a)
			check(t, fmt.Sprintf("WhereInPolygon(%v, %v)", from(c.of, i), c.a), got, code, c.want, impl.ErrNone)
		}
	}
}

func TestPlacesOfAllPointsAroundPolygons(t *testing.T) {
	for _, x := range somePolygons() {
		for _, a := range boxAround(x, 2) {
			got, code := impl.WhereInPolygon(x, a)
			check(t, fmt.Sprintf("WhereInPolygon(%v, %v)", x, a), got, code, whereByHand(x, a), impl.ErrNone)
		}
	}
	next := numbersFrom(13)
	for _, x := range greatPolygons() {
		for _, a := range slices.Concat(x, somePoints(next, 50, side), somePoints(next, 10, top)) {
			got, code := impl.WhereInPolygon(x, a)
			check(t, fmt.Sprintf("WhereInPolygon(%v, %v)", x, a), got, code, whereByHand(x, a), impl.ErrNone)
		}
	}
}

// On the line of each side, the places are 0 from one corner to the next one, and -1 outside.
func TestPlacesOnLinesOfSides(t *testing.T) {
	for _, x := range allPolygons() {
		for i, b := range x {
			step := exactStep(b, x[(i+1)%len(x)])
			n := exactDivisor(step[0], step[1])
			step = impl.Point{step[0] / n, step[1] / n}
			for _, k := range []int64{0, n, n / 2, n + 1, -1, 2 * n, -n, 300, -300} {
				want := int64(-1)
				if 0 <= k && k <= n {
					want = 0
				}
				a := combine(1, b, k, step)
				got, code := impl.WhereInPolygon(x, a)
				check(t, fmt.Sprintf("WhereInPolygon(%v, %v)", x, a), got, code, want, impl.ErrNone)
			}
		}
	}
}
