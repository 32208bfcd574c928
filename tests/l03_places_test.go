package tests

import (
	"slices"
	"testing"

	"loop.example/g01297/impl"
)

func TestAdjacentAngle(t *testing.T) {
	for _, x := range slices.Concat(gridAngles(5), greatAngles(), longAngles()) {
		got, code := impl.AdjacentAngle(x[0], x[1])
		checkList(t, "AdjacentAngle", got, code, []impl.Point{x[1], {-x[0][0], -x[0][1]}}, impl.ErrNone)
		if !impl.IsAngle(got[0], got[1]) {
			t.Errorf("AdjacentAngle(%v) is none", x)
		}
		want, _ := impl.DeterminantOf(x[0], x[1])
		d, code := impl.DeterminantOf(got[0], got[1])
		check(t, "DeterminantOf the adjacent angle", d, code, want, impl.ErrNone)
	}
}

func TestIsInAngle(t *testing.T) {
	cases := []struct {
		x    angle
		c    impl.Point
		want bool
	}{
		{angle{{1, 0}, {2, 5}}, impl.Point{}, true},
		{angle{{1, 0}, {2, 5}}, impl.Point{1, 2}, true},
		{angle{{1, 0}, {2, 5}}, impl.Point{1, 3}, false},
		{angle{{1, 0}, {2, 5}}, impl.Point{1, -1}, false},
		{angle{{1, 0}, {2, 5}}, impl.Point{-1, -1}, false},
		// On the sides, and on the lines that go on behind 0.
		{angle{{1, 0}, {2, 5}}, impl.Point{top, 0}, true},
		{angle{{1, 0}, {2, 5}}, impl.Point{-1, 0}, false},
		{angle{{1, 0}, {2, 5}}, impl.Point{400000, top}, true},
		{angle{{1, 0}, {2, 5}}, impl.Point{399999, top}, false},
		{angle{{1, 0}, {2, 5}}, impl.Point{-2, -5}, false},
		// Obtuse ones, and the greatest numbers.
		{angle{{3, -1}, {-3, 2}}, impl.Point{0, 1}, true},
		{angle{{3, -1}, {-3, 2}}, impl.Point{0, -1}, false},
		{angle{{top, 1 - top}, {top - 1, top}}, impl.Point{top, top}, true},
		{angle{{top, 1 - top}, {top - 1, top}}, impl.Point{top, -top}, false},
		{angle{{top, 1 - top}, {top - 1, top}}, impl.Point{-top, -top}, false},
		{angle{{-top, 1 - top}, {top - 1, -top}}, impl.Point{0, -1}, true},
		// The sail would have too many points.
		{angle{{1, 0}, {1, top}}, impl.Point{1, top - 1}, true},
		{angle{{1, 0}, {1, top}}, impl.Point{-1, top}, false},
		{angle{{top, -1}, {top, 1}}, impl.Point{}, true},
	}
	for _, c := range cases {
		got, code := impl.IsInAngle(c.x[0], c.x[1], c.c)
		check(t, "IsInAngle", got, code, c.want, impl.ErrNone)
	}
	for _, x := range gridAngles(3) {
		for _, c := range gridPoints(5) {
			got, code := impl.IsInAngle(x[0], x[1], c)
			check(t, "IsInAngle", got, code, isInside(x, c), impl.ErrNone)
		}
	}
}

func TestPlaceOnSail(t *testing.T) {
	for _, x := range gridAngles(3) {
		points, _ := impl.SailPoints(x[0], x[1])
		checkSail(t, x, points)
		for _, c := range gridPoints(4) {
			got, code := impl.PlaceOnSail(x[0], x[1], c)
			if i := slices.Index(points, c); i >= 0 {
				check(t, "PlaceOnSail", got, code, int64(i), impl.ErrNone)
			} else {
				check(t, "PlaceOnSail", got, code, 0, impl.ErrNotFound)
			}
		}
	}
	for _, x := range greatAngles() {
		points, _ := impl.SailPoints(x[0], x[1])
		for i, c := range points {
			got, code := impl.PlaceOnSail(x[0], x[1], c)
			check(t, "PlaceOnSail", got, code, int64(i), impl.ErrNone)
		}
		a, b := x[0], x[1]
		for _, c := range []impl.Point{{}, {top, top}, {-top, top}, {2, 2}, {-a[0], -a[1]}, {-b[0], -b[1]}} {
			got, code := impl.PlaceOnSail(x[0], x[1], c)
			check(t, "PlaceOnSail", got, code, 0, impl.ErrNotFound)
		}
	}
}

func TestSplitPoint(t *testing.T) {
	x := angle{{1, 0}, {2, 5}}
	obtuse := angle{{-3, -4}, {7, -2}}
	cases := []struct {
		x    angle
		c    impl.Point
		want []int64
	}{
		{x, impl.Point{5, 11}, []int64{2, 3, 1}},
		{x, impl.Point{1, 0}, []int64{0, 1, 0}},
		{x, impl.Point{2, 2}, []int64{1, 2, 0}},
		{x, impl.Point{3, 1}, []int64{0, 2, 1}},
		{x, impl.Point{2, 3}, []int64{1, 1, 1}},
		{x, impl.Point{1, 2}, []int64{2, 1, 0}},
		{x, impl.Point{top, 0}, []int64{0, top, 0}},
		{x, impl.Point{top, top}, []int64{1, top, 0}},
		{x, impl.Point{2, 5}, []int64{2, 0, 1}},
		{x, impl.Point{4, 10}, []int64{2, 0, 2}},
		{x, impl.Point{400000, top}, []int64{2, 0, 200000}},
		{angle{{1, 0}, {0, 1}}, impl.Point{7, 9}, []int64{0, 7, 9}},
		{angle{{1, 0}, {0, 1}}, impl.Point{7, 0}, []int64{0, 7, 0}},
		{angle{{1, 0}, {0, 1}}, impl.Point{0, 9}, []int64{0, 0, 9}},
		{angle{{0, -1}, {7, 3}}, impl.Point{1, -5}, []int64{0, 5, 1}},
		{obtuse, impl.Point{0, -3}, []int64{3, 3, 0}},
		{obtuse, impl.Point{10, -3}, []int64{6, 1, 1}},
		{obtuse, impl.Point{-5, -7}, []int64{0, 1, 1}},
		{angle{{1, 0}, {-top, 1}}, impl.Point{top, top}, []int64{0, top * (top + 1), top}},
	}
	for _, c := range cases {
		got, code := impl.SplitPoint(c.x[0], c.x[1], c.c)
		checkList(t, "SplitPoint", got, code, c.want, impl.ErrNone)
	}
}

func TestPointsOfAnglesAreSumsOfNeighbouringPoints(t *testing.T) {
	for _, x := range gridAngles(4) {
		for _, c := range gridPoints(6) {
			checkSplit(t, x, c)
		}
	}
	for _, x := range greatAngles() {
		points, _ := impl.SailPoints(x[0], x[1])
		for i, v := range points {
			checkSplit(t, x, v)
			checkSplit(t, x, impl.Point{-v[0], -v[1]})
			if i > 0 {
				checkSplit(t, x, impl.Point{v[0]/7 + points[i-1][0]/2, v[1]/7 + points[i-1][1]/2})
			}
		}
		for _, c := range []impl.Point{{top, top}, {-top, top}, {top, -top}, {-top, -top}, {0, top}, {-top, 0}, {1, 2}, {-3, 1}} {
			checkSplit(t, x, c)
		}
	}
}

// checkSplit asks for numbers that tell c; there is only one list of them.
func checkSplit(t *testing.T, x angle, c impl.Point) {
	t.Helper()
	got, code := impl.SplitPoint(x[0], x[1], c)
	if c == (impl.Point{}) || !isInside(x, c) {
		checkList(t, "SplitPoint", got, code, nil, impl.ErrNotFound)
		return
	}
	points, _ := impl.SailPoints(x[0], x[1])
	last := int64(len(points) - 2)
	if code != impl.ErrNone || len(got) != 3 || got[0] < 0 || got[0] > last {
		t.Fatalf("SplitPoint(%v, %v) = %v, %d", x, c, got, code)
	}
	i, k, l := got[0], got[1], got[2]
	if k < 0 || l < 0 || k == 0 && i != last {
		t.Errorf("SplitPoint(%v, %v) = %v", x, c, got)
	}
	for j := range 2 {
		if k*points[i][j]+l*points[i+1][j] != c[j] {
			t.Errorf("SplitPoint(%v, %v) = %v", x, c, got)
		}
	}
}

func TestErrorsOfPlacesInOrder(t *testing.T) {
	good := []impl.Point{{}, {1, 0}, {1, 1}, {-1, 0}, {top, top}}
	for _, x := range badAngles() {
		for _, c := range append(badPoints(), good...) {
			checkPlaces(t, x, c, impl.ErrInvalid, impl.ErrInvalid, impl.ErrInvalid)
		}
	}
	for _, x := range append(longAngles(), angle{{1, 0}, {2, 5}}) {
		for _, c := range badPoints() {
			checkPlaces(t, x, c, impl.ErrInvalid, impl.ErrInvalid, impl.ErrInvalid)
		}
	}
	for _, x := range longAngles() {
		for _, c := range append(good, x[0], x[1], impl.Point{-x[0][0], -x[0][1]}) {
			want := int64(impl.ErrLimit)
			if c == (impl.Point{}) || !isInside(x, c) {
				want = impl.ErrNotFound
			}
			checkPlaces(t, x, c, impl.ErrNone, impl.ErrLimit, want)
		}
	}
}

// checkPlaces asks for the codes of the three functions of an angle and a point; beside errors,
// there is nothing.
func checkPlaces(t *testing.T, x angle, c impl.Point, in int64, place int64, split int64) {
	t.Helper()
	is, code := impl.IsInAngle(x[0], x[1], c)
	check(t, "IsInAngle", is, code, in == impl.ErrNone && isInside(x, c), in)
	n, code := impl.PlaceOnSail(x[0], x[1], c)
	check(t, "PlaceOnSail", n, code, 0, place)
	list, code := impl.SplitPoint(x[0], x[1], c)
	checkList(t, "SplitPoint", list, code, nil, split)
}
