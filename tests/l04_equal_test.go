package tests

import (
	"slices"
	"testing"

	"loop.example/g01297/impl"
)

func TestAreEqualTriangles(t *testing.T) {
	x := impl.Triangle{{0, 0}, {4, 0}, {0, 3}}
	cases := []struct {
		x, y impl.Triangle
		want bool
	}{
		{x, x, true},
		{x, impl.Triangle{{-7, 9}, {-3, 9}, {-7, 12}}, true},
		{x, impl.Triangle{{0, 0}, {0, 4}, {3, 0}}, true},
		{x, impl.Triangle{{0, 3}, {0, 0}, {4, 0}}, true},
		{x, impl.Triangle{{0, 3}, {4, 0}, {0, 0}}, true},
		{x, impl.Triangle{{0, 0}, {4, 4}, {0, 3}}, true},
		{x, impl.Triangle{{0, 0}, {4, 0}, {1, 3}}, true},
		{x, impl.Triangle{{0, 0}, {4, 0}, {2, 3}}, false},
		{x, impl.Triangle{{0, 0}, {12, 0}, {0, 1}}, false},
		{x, impl.Triangle{{0, 0}, {4, 0}, {0, 4}}, false},
		{x, impl.Triangle{{0, 0}, {3, 0}, {0, 3}}, false},
		{impl.Triangle{{side, side}, {-side, side}, {side, -side}}, impl.Triangle{{-side, -side}, {side, -side}, {-side, side}}, true},
		// The areas and the boundary points are the same, and yet they are not equal.
		{triangleByHand(shape(1, 2, 7)), triangleByHand(shape(1, 3, 7)), false},
		{triangleByHand(shape(1, 2, 7)), triangleByHand(shape(1, 4, 7)), true},
		{triangleByHand(shape(1, 3, 7)), triangleByHand(shape(1, 5, 7)), true},
	}
	for _, c := range cases {
		if want := areEqualByMatrix(c.x, c.y); want != c.want {
			t.Errorf("the matrices tell %v of %v and %v", want, c.x, c.y)
		}
		got, code := impl.AreEqualTriangles(c.x, c.y)
		check(t, "AreEqualTriangles", got, code, c.want, impl.ErrNone)
		got, code = impl.AreEqualTriangles(c.y, c.x)
		check(t, "AreEqualTriangles", got, code, c.want, impl.ErrNone)
	}
}

func TestTrianglesAreEqualByMatrices(t *testing.T) {
	left := gridTriangles(1)
	for _, x := range left[:len(left)/2] {
		for _, y := range left {
			got, code := impl.AreEqualTriangles(x, y)
			check(t, "AreEqualTriangles", got, code, areEqualByMatrix(x, y), impl.ErrNone)
		}
	}
	for n := int64(20); n <= 30; n++ {
		var all []impl.Triangle
		for length := int64(1); length <= n; length++ {
			for place := int64(0); n%length == 0 && place < n/length; place++ {
				all = append(all, triangleByHand(shape(length, place, n/length)))
			}
		}
		for _, x := range all {
			for _, y := range all {
				got, code := impl.AreEqualTriangles(x, y)
				check(t, "AreEqualTriangles", got, code, areEqualByMatrix(x, y), impl.ErrNone)
			}
		}
	}
}

// checkAlike asks for what equal triangles share.
func checkAlike(t *testing.T, x impl.Triangle, y impl.Triangle) {
	t.Helper()
	same, code := impl.AreEqualTriangles(x, y)
	check(t, "AreEqualTriangles", same, code, true, impl.ErrNone)
	for name, f := range map[string]func(impl.Triangle) (int64, int64){
		"AreaOfTriangle": impl.AreaOfTriangle, "BoundaryOf": impl.BoundaryOf, "CountInner": impl.CountInner,
	} {
		want, _ := f(x)
		got, code := f(y)
		check(t, name, got, code, want, impl.ErrNone)
	}
	want, wantCode := impl.InnerPoints(x)
	got, code := impl.InnerPoints(y)
	check(t, "InnerPoints", len(got), code, len(want), wantCode)
	first, _ := impl.SinesOf(x)
	second, code := impl.SinesOf(y)
	slices.Sort(first)
	slices.Sort(second)
	checkList(t, "SinesOf", second, code, first, impl.ErrNone)
	shape, _ := impl.NormalShape(x)
	other, code := impl.NormalShape(y)
	check(t, "NormalShape", other, code, shape, impl.ErrNone)
}

func TestMovedTrianglesAreEqual(t *testing.T) {
	matrices := append(unimodularMatrices(2), impl.Matrix{{21, 13}, {13, 8}}, impl.Matrix{{1, 0}, {-40, -1}})
	triangles := []impl.Triangle{
		{{0, 0}, {4, 0}, {0, 3}}, {{-1, -1}, {1, 0}, {0, 1}}, {{0, 0}, {1, 0}, {0, 1}}, {{5, 9}, {-20, 3}, {11, -17}},
		{{0, 0}, {6, 2}, {-2, 8}}, {{3, -3}, {3, 9}, {-9, 0}}, {{1, 2}, {15, 9}, {7, 23}},
	}
	for _, m := range matrices {
		for k, x := range triangles {
			by := impl.Point{int64(100 - 37*k), int64(-50 + 21*k)}
			checkMovedTriangle(t, m, x, by)
		}
	}
}

// checkMovedTriangle holds the triangle to which a matrix and a move lead x, in all orders of its
// points, against x.
func checkMovedTriangle(t *testing.T, m impl.Matrix, x impl.Triangle, by impl.Point) {
	t.Helper()
	points, _ := impl.InnerPoints(x)
	for i, a := range points {
		points[i] = movePoint(m, a, by)
	}
	sortPoints(points)
	for _, order := range orders {
		y := inOrder(moveTriangle(m, x, by), order)
		if !impl.IsTriangle(y) {
			t.Errorf("%v leads %v to %v, which is none", m, x, y)
			continue
		}
		checkAlike(t, x, y)
		inner, code := impl.InnerPoints(y)
		checkList(t, "InnerPoints of a moved triangle", inner, code, points, impl.ErrNone)
		want, _ := impl.ShapeOf(x, int64(order[0]), int64(order[1]))
		got, code := impl.ShapeOf(y, 0, 1)
		check(t, "ShapeOf a moved triangle", got, code, want, impl.ErrNone)
	}
}

func TestEqualTrianglesHaveTheSameAreasAndBoundaryPoints(t *testing.T) {
	byShape := map[impl.Shape]impl.Triangle{}
	for _, x := range slices.Concat(gridTriangles(2), greatTriangles(), wideTriangles()) {
		normal := normalByCounting(x)
		if y, ok := byShape[normal]; ok {
			checkAlike(t, y, x)
		}
		byShape[normal] = x
	}
}
