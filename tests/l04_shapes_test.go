package tests

import (
	"math"
	"slices"
	"testing"

	"loop.example/g01297/impl"
)

func shape(length, place, height int64) impl.Shape {
	return impl.Shape{Length: length, Place: place, Height: height}
}

func TestShapeOf(t *testing.T) {
	cases := []struct {
		x    impl.Triangle
		i, j int64
		want impl.Shape
	}{
		{impl.Triangle{{0, 0}, {4, 0}, {0, 3}}, 0, 1, shape(4, 0, 3)},
		{impl.Triangle{{0, 0}, {4, 0}, {0, 3}}, 1, 0, shape(4, 1, 3)},
		{impl.Triangle{{0, 0}, {4, 0}, {0, 3}}, 0, 2, shape(3, 0, 4)},
		{impl.Triangle{{0, 0}, {4, 0}, {0, 3}}, 2, 0, shape(3, 3, 4)},
		{impl.Triangle{{0, 0}, {4, 0}, {0, 3}}, 1, 2, shape(1, 4, 12)},
		{impl.Triangle{{0, 0}, {4, 0}, {0, 3}}, 2, 1, shape(1, 9, 12)},
		// A shape leads back to itself; a point, or a direction, that is turned over keeps it.
		{impl.Triangle{{0, 0}, {2, 0}, {3, 7}}, 0, 1, shape(2, 3, 7)},
		{impl.Triangle{{0, 0}, {2, 0}, {3, -7}}, 0, 1, shape(2, 3, 7)},
		{impl.Triangle{{0, 0}, {-2, 0}, {-3, 7}}, 0, 1, shape(2, 3, 7)},
		{impl.Triangle{{0, 0}, {0, 2}, {7, 3}}, 0, 1, shape(2, 3, 7)},
		{impl.Triangle{{0, 0}, {0, -2}, {7, -3}}, 0, 1, shape(2, 3, 7)},
		{impl.Triangle{{0, 0}, {2, 0}, {-4, 7}}, 0, 1, shape(2, 3, 7)},
		{impl.Triangle{{0, 0}, {2, 0}, {10, 7}}, 0, 1, shape(2, 3, 7)},
		{impl.Triangle{{1, 4}, {3, 4}, {4, 11}}, 0, 1, shape(2, 3, 7)},
		{impl.Triangle{{0, 0}, {1, 0}, {side, 1}}, 0, 1, shape(1, 0, 1)},
		// The greatest height.
		{impl.Triangle{{-side, -side}, {side, 1 - side}, {1 - side, side}}, 0, 1, shape(1, 2000, 3999999)},
	}
	for _, c := range cases {
		got, code := impl.ShapeOf(c.x, c.i, c.j)
		check(t, "ShapeOf", got, code, c.want, impl.ErrNone)
	}
	for _, x := range slices.Concat(gridTriangles(2), greatTriangles(), wideTriangles()) {
		for _, order := range orders {
			got, code := impl.ShapeOf(x, int64(order[0]), int64(order[1]))
			check(t, "ShapeOf", got, code, shapeByCounting(inOrder(x, order)), impl.ErrNone)
		}
	}
}

func TestShapesAreThoseOfSomeMatrix(t *testing.T) {
	matrices := unimodularMatrices(2)
	for _, x := range gridTriangles(1) {
		for _, order := range orders {
			got, code := impl.ShapeOf(x, int64(order[0]), int64(order[1]))
			check(t, "ShapeOf", got, code, shapeByMatrix(inOrder(x, order), matrices), impl.ErrNone)
		}
	}
}

// shapeByMatrix looks for a matrix that leads a triangle as the definition of its shape has it.
func shapeByMatrix(x impl.Triangle, matrices []impl.Matrix) impl.Shape {
	first, second := exactStep(x[0], x[1]), exactStep(x[0], x[2])
	for _, m := range matrices {
		a, b := movePoint(m, first, impl.Point{}), movePoint(m, second, impl.Point{})
		if a[0] > 0 && a[1] == 0 && b[1] > 0 {
			return shape(a[0], (b[0]%b[1]+b[1])%b[1], b[1])
		}
	}
	return impl.Shape{}
}

func TestPlacesOfOrders(t *testing.T) {
	x := impl.Triangle{{0, 0}, {2, 0}, {3, 7}}
	all := slices.Concat([]int64{0, 1, 2}, badPlaces)
	for _, i := range all {
		for _, j := range all {
			got, code := impl.ShapeOf(x, i, j)
			if i == j || i < 0 || i > 2 || j < 0 || j > 2 {
				check(t, "ShapeOf", got, code, impl.Shape{}, impl.ErrRange)
			} else {
				check(t, "ShapeOf", got.Length*got.Height, code, 14, impl.ErrNone)
			}
		}
	}
}

func TestNormalShape(t *testing.T) {
	cases := []struct {
		x    impl.Triangle
		want impl.Shape
	}{
		{impl.Triangle{{0, 0}, {1, 0}, {0, 1}}, shape(1, 0, 1)},
		{impl.Triangle{{0, 0}, {4, 0}, {0, 3}}, shape(1, 4, 12)},
		{impl.Triangle{{-1, -1}, {1, 0}, {0, 1}}, shape(1, 2, 3)},
		{impl.Triangle{{0, 0}, {2, 0}, {0, 2}}, shape(2, 0, 2)},
		{impl.Triangle{{0, 0}, {6, 0}, {0, 4}}, shape(2, 6, 12)},
		{impl.Triangle{{5, 5}, {side, 5}, {5, side}}, shape(995, 0, 995)},
	}
	for _, c := range cases {
		got, code := impl.NormalShape(c.x)
		check(t, "NormalShape", got, code, c.want, impl.ErrNone)
	}
	for _, x := range slices.Concat(gridTriangles(2), greatTriangles(), wideTriangles()) {
		got, code := impl.NormalShape(x)
		check(t, "NormalShape", got, code, normalByCounting(x), impl.ErrNone)
	}
}

func TestTriangleOf(t *testing.T) {
	good := []impl.Shape{
		shape(1, 0, 1), shape(side, 0, 1), shape(1, 0, side), shape(1, side-1, side), shape(side, 0, side),
		shape(side, side-1, side), shape(4, 2, 3), shape(3, 1, 2), shape(7, 6, 7),
	}
	for _, x := range good {
		got, code := impl.TriangleOf(x)
		check(t, "TriangleOf", got, code, triangleByHand(x), impl.ErrNone)
		back, code := impl.ShapeOf(got, 0, 1)
		check(t, "ShapeOf a triangle of a shape", back, code, x, impl.ErrNone)
	}
	bad := []impl.Shape{
		{}, shape(0, 0, 1), shape(side+1, 0, 1), shape(-1, 0, 1), shape(1, 0, 0), shape(1, 0, side+1), shape(1, 0, -1),
		shape(1, -1, 1), shape(1, 1, 1), shape(1, side, side), shape(4, 3, 3), shape(4, -1, 3), shape(1, -1, 0),
		shape(1, side, side+1), shape(-4, 2, -3), shape(1, math.MinInt64, math.MinInt64+1),
	}
	for _, n := range tooGreat {
		bad = append(bad, shape(n, 0, 1), shape(1, n, 1), shape(1, n, side), shape(1, 0, n), shape(1, n, n), shape(n, n, n))
	}
	for _, x := range bad {
		got, code := impl.TriangleOf(x)
		check(t, "TriangleOf", got, code, impl.Triangle{}, impl.ErrRange)
	}
}

func TestTrianglesOfNormalShapesHaveTheirPoints(t *testing.T) {
	for _, x := range slices.Concat(gridTriangles(2), greatTriangles(), wideTriangles()) {
		normal, _ := impl.NormalShape(x)
		y, code := impl.TriangleOf(normal)
		if normal.Length > side || normal.Height > side {
			check(t, "TriangleOf", y, code, impl.Triangle{}, impl.ErrRange)
			continue
		}
		check(t, "TriangleOf", y, code, triangleByHand(normal), impl.ErrNone)
		checkAlike(t, x, y)
		again, code := impl.NormalShape(y)
		check(t, "NormalShape of the triangle of one", again, code, normal, impl.ErrNone)
	}
}

func TestTrianglesOfSomeAreas(t *testing.T) {
	cases := []struct {
		n    int64
		want []impl.Shape
	}{
		{1, []impl.Shape{shape(1, 0, 1)}},
		{2, []impl.Shape{shape(1, 0, 2)}},
		{3, []impl.Shape{shape(1, 0, 3), shape(1, 2, 3)}},
		{4, []impl.Shape{shape(1, 0, 4), shape(1, 2, 4), shape(2, 0, 2)}},
		{5, []impl.Shape{shape(1, 0, 5), shape(1, 2, 5)}},
	}
	for _, c := range cases {
		got, code := impl.TrianglesOfArea(c.n)
		checkList(t, "TrianglesOfArea", got, code, c.want, impl.ErrNone)
	}
	for _, n := range append([]int64{0, -1, -impl.MaxArea, impl.MaxArea + 1}, tooGreat...) {
		got, code := impl.TrianglesOfArea(n)
		checkList(t, "TrianglesOfArea", got, code, nil, impl.ErrRange)
	}
}

func TestTrianglesOfArea(t *testing.T) {
	for n := int64(1); n <= impl.MaxArea; n++ {
		var want []impl.Shape
		for length := int64(1); length <= n; length++ {
			for place := int64(0); n%length == 0 && place < n/length; place++ {
				x := shape(length, place, n/length)
				if normalByCounting(triangleByHand(x)) == x {
					want = append(want, x)
				}
			}
		}
		got, code := impl.TrianglesOfArea(n)
		checkList(t, "TrianglesOfArea", got, code, want, impl.ErrNone)
		if !slices.IsSortedFunc(got, compareByFields) || int64(len(got)) != classesByAverage(n) {
			t.Errorf("TrianglesOfArea(%d) has %d shapes: %v; want %d", n, len(got), got, classesByAverage(n))
		}
	}
}

// classesByAverage counts the triangles of an area up to equality as the average, for all orders of
// the points, of how many shapes of the area an order keeps (Burnside's lemma).
func classesByAverage(n int64) int64 {
	var sum int64
	for length := int64(1); length <= n; length++ {
		for place := int64(0); n%length == 0 && place < n/length; place++ {
			x := triangleByHand(shape(length, place, n/length))
			for _, order := range orders {
				if shapeByCounting(inOrder(x, order)) == shape(length, place, n/length) {
					sum++
				}
			}
		}
	}
	return sum / int64(len(orders))
}

func TestEachTriangleIsEqualToOneOfItsArea(t *testing.T) {
	for n := int64(1); n <= 24; n++ {
		shapes, _ := impl.TrianglesOfArea(n)
		for length := int64(1); length <= n; length++ {
			for place := int64(0); n%length == 0 && place < n/length; place++ {
				equal := 0
				for _, x := range shapes {
					if areEqualByMatrix(triangleByHand(x), triangleByHand(shape(length, place, n/length))) {
						equal++
					}
				}
				if equal != 1 {
					t.Errorf("%d triangles of the area %d are equal to that of %d, %d", equal, n, length, place)
				}
			}
		}
	}
}
