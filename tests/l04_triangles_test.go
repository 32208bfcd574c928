package tests

import (
	"slices"
	"testing"

	"loop.example/g01297/impl"
)

func TestLimitsOfTriangles(t *testing.T) {
	if impl.MaxArea != 200 || impl.MaxInner != 1000 {
		t.Errorf("MaxArea is %d, MaxInner is %d", impl.MaxArea, impl.MaxInner)
	}
}

func TestIsTriangle(t *testing.T) {
	for _, a := range gridPoints(2) {
		for _, b := range gridPoints(2) {
			for _, c := range gridPoints(2) {
				x := impl.Triangle{a, b, c}
				if got := impl.IsTriangle(x); got != (exactTurn(x) != 0) {
					t.Errorf("IsTriangle(%v) is %v", x, got)
				}
			}
		}
	}
	for _, x := range slices.Concat(greatTriangles(), wideTriangles()) {
		if !impl.IsTriangle(x) {
			t.Errorf("IsTriangle(%v) is false", x)
		}
	}
	for _, x := range badTriangles() {
		if impl.IsTriangle(x) {
			t.Errorf("IsTriangle(%v) is true", x)
		}
	}
}

func TestEachNumberOfATriangleHasTheLimit(t *testing.T) {
	for i := range 6 {
		for _, n := range []int64{side, -side} {
			x := impl.Triangle{{0, 0}, {4, 0}, {0, 3}}
			x[i/2][i%2] = n
			if !impl.IsTriangle(x) {
				t.Errorf("IsTriangle(%v) is false", x)
			}
			x[i/2][i%2] = n + n/side
			if impl.IsTriangle(x) {
				t.Errorf("IsTriangle(%v) is true", x)
			}
		}
	}
}

func TestTrianglesAreAskedFirst(t *testing.T) {
	good := impl.Triangle{{0, 0}, {4, 0}, {0, 3}}
	for _, x := range badTriangles() {
		for name, f := range map[string]func(impl.Triangle) (int64, int64){
			"AreaOfTriangle": impl.AreaOfTriangle, "BoundaryOf": impl.BoundaryOf, "CountInner": impl.CountInner,
		} {
			got, code := f(x)
			check(t, name, got, code, 0, impl.ErrInvalid)
		}
		points, code := impl.InnerPoints(x)
		checkList(t, "InnerPoints", points, code, nil, impl.ErrInvalid)
		sines, code := impl.SinesOf(x)
		checkList(t, "SinesOf", sines, code, nil, impl.ErrInvalid)
		normal, code := impl.NormalShape(x)
		check(t, "NormalShape", normal, code, impl.Shape{}, impl.ErrInvalid)
		for _, pair := range [][2]impl.Triangle{{x, good}, {good, x}, {x, x}} {
			same, code := impl.AreEqualTriangles(pair[0], pair[1])
			check(t, "AreEqualTriangles", same, code, false, impl.ErrInvalid)
		}
		for _, i := range append([]int64{0, 1, 2, side, side + 1}, badPlaces...) {
			y, code := impl.CornerAt(x, i)
			check(t, "CornerAt", y, code, impl.Corner{}, impl.ErrInvalid)
			shape, code := impl.ShapeOf(x, i, 1)
			check(t, "ShapeOf", shape, code, impl.Shape{}, impl.ErrInvalid)
			shape, code = impl.ShapeOf(x, 1, i)
			check(t, "ShapeOf", shape, code, impl.Shape{}, impl.ErrInvalid)
			multiple, code := impl.MultipleOf(x, i)
			check(t, "MultipleOf", multiple, code, impl.Triangle{}, impl.ErrInvalid)
			parts, code := impl.SplitTriangle(x, i)
			checkList(t, "SplitTriangle", parts, code, nil, impl.ErrInvalid)
		}
	}
}

func TestAreasBoundariesAndInnerPoints(t *testing.T) {
	cases := []struct {
		x        impl.Triangle
		area     int64
		boundary int64
		inner    []impl.Point
	}{
		{impl.Triangle{{0, 0}, {4, 0}, {0, 3}}, 12, 8, []impl.Point{{1, 1}, {1, 2}, {2, 1}}},
		{impl.Triangle{{0, 0}, {0, 3}, {4, 0}}, 12, 8, []impl.Point{{1, 1}, {1, 2}, {2, 1}}},
		{impl.Triangle{{0, 0}, {-4, 0}, {0, -3}}, 12, 8, []impl.Point{{-2, -1}, {-1, -2}, {-1, -1}}},
		{impl.Triangle{{0, 0}, {1, 0}, {0, 1}}, 1, 3, nil},
		{impl.Triangle{{0, 1}, {1, 0}, {0, 0}}, 1, 3, nil},
		{impl.Triangle{{0, 0}, {2, 0}, {0, 2}}, 4, 6, nil},
		// The least one with an inner point.
		{impl.Triangle{{-1, -1}, {1, 0}, {0, 1}}, 3, 3, []impl.Point{{0, 0}}},
		// No side is parallel to an axis; a row begins, and ends, on a side.
		{impl.Triangle{{0, 0}, {4, 2}, {2, 5}}, 16, 4, []impl.Point{{1, 1}, {1, 2}, {2, 2}, {2, 3}, {2, 4}, {3, 2}, {3, 3}}},
		{impl.Triangle{{-3, 1}, {0, -2}, {1, 3}}, 18, 6, []impl.Point{{-2, 1}, {-1, 0}, {-1, 1}, {0, -1}, {0, 0}, {0, 1}, {0, 2}}},
		// A side is upright, on the left and on the right.
		{impl.Triangle{{0, 0}, {0, 4}, {3, 2}}, 12, 6, []impl.Point{{1, 1}, {1, 2}, {1, 3}, {2, 2}}},
		{impl.Triangle{{3, 0}, {3, 4}, {0, 2}}, 12, 6, []impl.Point{{1, 2}, {2, 1}, {2, 2}, {2, 3}}},
		// No points between long sides.
		{impl.Triangle{{-side, -side}, {side, side - 1}, {side, side}}, 2000, 2002, nil},
	}
	for _, c := range cases {
		area, code := impl.AreaOfTriangle(c.x)
		check(t, "AreaOfTriangle", area, code, c.area, impl.ErrNone)
		boundary, code := impl.BoundaryOf(c.x)
		check(t, "BoundaryOf", boundary, code, c.boundary, impl.ErrNone)
		n, code := impl.CountInner(c.x)
		check(t, "CountInner", n, code, int64(len(c.inner)), impl.ErrNone)
		points, code := impl.InnerPoints(c.x)
		checkList(t, "InnerPoints", points, code, c.inner, impl.ErrNone)
	}
}

func TestPointsAreCountedOneByOne(t *testing.T) {
	for _, x := range gridTriangles(2) {
		checkCounts(t, x, impl.ErrNone)
	}
	// The second halves have the same triangles, in the other direction.
	great, wide := greatTriangles(), wideTriangles()
	for _, x := range great[:len(great)/2] {
		checkCounts(t, x, impl.ErrNone)
	}
	for _, x := range wide[:len(wide)/2] {
		checkCounts(t, x, impl.ErrLimit)
	}
}

// checkCounts holds the points of a triangle, in both directions, against those that are counted;
// wantCode is that of InnerPoints.
func checkCounts(t *testing.T, x impl.Triangle, wantCode int64) {
	t.Helper()
	inner, boundary := pointsByCounting(x)
	count := int64(len(inner))
	if wantCode != impl.ErrNone {
		inner = nil
	}
	for _, y := range bothDirections([]impl.Triangle{x}) {
		area, code := impl.AreaOfTriangle(y)
		check(t, "AreaOfTriangle", area, code, exactArea(x), impl.ErrNone)
		got, code := impl.BoundaryOf(y)
		check(t, "BoundaryOf", got, code, boundary, impl.ErrNone)
		n, code := impl.CountInner(y)
		check(t, "CountInner", n, code, count, impl.ErrNone)
		points, code := impl.InnerPoints(y)
		checkList(t, "InnerPoints", points, code, inner, wantCode)
	}
}

func TestAsManyInnerPointsAsMayBe(t *testing.T) {
	for _, x := range fullTriangles() {
		n, code := impl.CountInner(x)
		check(t, "CountInner", n, code, impl.MaxInner, impl.ErrNone)
		points, code := impl.InnerPoints(x)
		check(t, "InnerPoints", len(points), code, impl.MaxInner, impl.ErrNone)
	}
	for i, x := range wideTriangles() {
		n, code := impl.CountInner(x)
		check(t, "CountInner", n > impl.MaxInner, code, true, impl.ErrNone)
		if i == 0 {
			check(t, "CountInner", n, code, impl.MaxInner+1, impl.ErrNone)
		}
		points, code := impl.InnerPoints(x)
		checkList(t, "InnerPoints", points, code, nil, impl.ErrLimit)
	}
}

func TestGreatestTriangles(t *testing.T) {
	x := impl.Triangle{{-side, -side}, {side, -side}, {-side, side}}
	area, code := impl.AreaOfTriangle(x)
	check(t, "AreaOfTriangle", area, code, 4000000, impl.ErrNone)
	boundary, code := impl.BoundaryOf(x)
	check(t, "BoundaryOf", boundary, code, 6000, impl.ErrNone)
	n, code := impl.CountInner(x)
	check(t, "CountInner", n, code, 1997001, impl.ErrNone)
}

func TestResultsOfTrianglesAreNew(t *testing.T) {
	x := impl.Triangle{{0, 0}, {4, 0}, {0, 4}}
	for range 2 {
		points, code := impl.InnerPoints(x)
		checkList(t, "InnerPoints", points, code, []impl.Point{{1, 1}, {1, 2}, {2, 1}}, impl.ErrNone)
		sines, code := impl.SinesOf(x)
		checkList(t, "SinesOf", sines, code, []int64{1, 1, 1}, impl.ErrNone)
		shapes, code := impl.TrianglesOfArea(3)
		checkList(t, "TrianglesOfArea", shapes, code, []impl.Shape{{Length: 1, Height: 3}, {Length: 1, Place: 2, Height: 3}}, impl.ErrNone)
		parts, code := impl.SplitTriangle(x, 0)
		checkList(t, "SplitTriangle", parts, code, []impl.Triangle{{{0, 0}, {2, 2}, {0, 4}}, {{0, 0}, {4, 0}, {2, 2}}}, impl.ErrNone)
		points[0], sines[1], shapes[0], parts[0][1] = impl.Point{}, 9, impl.Shape{}, impl.Point{}
	}
}
