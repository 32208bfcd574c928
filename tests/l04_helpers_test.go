package tests

import (
	"cmp"
	"math"
	"slices"

	"loop.example/g01297/impl"
)

// side is the greatest number that a triangle may have.
const side = 1000

// orders are all orders of the points of a triangle.
var orders = [][3]int{{0, 1, 2}, {0, 2, 1}, {1, 0, 2}, {1, 2, 0}, {2, 0, 1}, {2, 1, 0}}

// badPlaces are numbers that no point of a triangle has.
var badPlaces = []int64{-1, 3, -2, 4, 1 << 32, 1<<32 + 1, math.MaxInt64, math.MinInt64, math.MinInt64 + 1}

// gridTriangles are all triangles with numbers in -n..n, in both directions, found without the
// program.
func gridTriangles(n int64) []impl.Triangle {
	var list []impl.Triangle
	for _, a := range gridPoints(n) {
		for _, b := range gridPoints(n) {
			for _, c := range gridPoints(n) {
				if t := (impl.Triangle{a, b, c}); exactTurn(t) != 0 {
					list = append(list, t)
				}
			}
		}
	}
	return list
}

// greatTriangles are triangles with great numbers and at most MaxInner inner points: none, long
// thin ones, sides that are parallel to an axis and sides that are not, and just MaxInner of them
// among these, in both directions.
func greatTriangles() []impl.Triangle {
	return bothDirections([]impl.Triangle{
		{{-side, -side}, {side, side - 1}, {side, side}}, {{-side, side}, {side, side}, {-side, side - 1}},
		{{side, -side}, {side - 1, 0}, {side, side}}, {{-side, -side}, {0, 2}, {side, side}},
		{{0, 0}, {1, 0}, {0, side}}, {{-side, 0}, {side, 0}, {7, 1}}, {{-side, 1}, {side, 1}, {-7, 2}},
		{{0, -1}, {2, -1}, {1, side}}, {{-1, 0}, {-1, -2}, {side, -1}}, {{-side, -side}, {side, side}, {-5, -7}},
		{{-side, -side}, {side, side}, {1, 3}}, {{15, -8}, {128, -67}, {48, -43}}, {{43, -1}, {-12, 36}, {54, -45}},
		{{-7, -19}, {30, 14}, {29, -41}}, {{-181, 9}, {-136, -106}, {-133, -69}}, {{145, -184}, {-115, -155}, {49, -181}},
		{{5, 9}, {-20, 3}, {11, -17}}, {{-31, 7}, {-31, -7}, {-3, 18}}, {{0, 0}, {20, 30}, {-10, 40}},
	})
}

// fullTriangles are triangles with just MaxInner inner points.
func fullTriangles() []impl.Triangle {
	return bothDirections([]impl.Triangle{
		{{0, -1}, {2, -1}, {1, side}}, {{-1, 0}, {-1, -2}, {side, -1}}, {{-side, -side}, {side, side}, {-5, -7}},
		{{15, -8}, {128, -67}, {48, -43}}, {{43, -1}, {-12, 36}, {54, -45}}, {{-181, 9}, {-136, -106}, {-133, -69}},
	})
}

// wideTriangles are triangles with more than MaxInner inner points, the first ones by one.
func wideTriangles() []impl.Triangle {
	return bothDirections([]impl.Triangle{
		{{0, -2}, {2, -2}, {1, side}}, {{40, -46}, {-6, -12}, {-11, -52}}, {{-53, -10}, {-32, 33}, {-3, -3}},
		{{-86, -26}, {-87, 109}, {-100, -145}}, {{197, -184}, {36, -45}, {10, -35}}, {{-53, 29}, {-3, 3}, {55, 13}},
		{{-side, -side}, {side, -side}, {-side, side}}, {{-side, -side}, {side, 1 - side}, {1 - side, side}},
		{{-side, -side}, {side, side - 1}, {side - 1, side}}, {{0, 0}, {side, 0}, {0, side}},
	})
}

// badTriangles are no triangles: a number of one of them is too great, or the area is 0.
func badTriangles() []impl.Triangle {
	list := []impl.Triangle{
		{}, {{0, 0}, {2, 1}, {4, 2}}, {{0, 0}, {4, 2}, {2, 1}}, {{-side, -side}, {0, 0}, {side, side}},
		{{3, 4}, {3, 4}, {0, 1}}, {{3, 4}, {0, 1}, {3, 4}}, {{0, 1}, {3, 4}, {3, 4}}, {{3, 4}, {3, 4}, {3, 4}},
		{{5, 1}, {5, 7}, {5, -2}}, {{1, 5}, {7, 5}, {-2, 5}}, {{-6, 4}, {3, -2}, {0, 0}}, {{0, side}, {0, side}, {1, 1}},
		{{0, 0}, {top, 0}, {0, top}}, {{side + 1, 0}, {0, 0}, {side + 1, 1}},
	}
	for _, n := range append([]int64{side + 1, -side - 1, top, -top}, tooGreat...) {
		for i := range 6 {
			t := impl.Triangle{{0, 0}, {4, 0}, {0, 3}}
			t[i/2][i%2] = n
			list = append(list, t)
		}
	}
	return list
}

func bothDirections(list []impl.Triangle) []impl.Triangle {
	for _, t := range slices.Clone(list) {
		list = append(list, inOrder(t, orders[2]))
	}
	return list
}

func inOrder(t impl.Triangle, order [3]int) impl.Triangle {
	return impl.Triangle{t[order[0]], t[order[1]], t[order[2]]}
}

// exactStep is b - a.
func exactStep(a impl.Point, b impl.Point) impl.Point { return impl.Point{b[0] - a[0], b[1] - a[1]} }

// exactTurn is the area, and less than 0 if the points go around clockwise.
func exactTurn(t impl.Triangle) int64 {
	return exactDeterminant(exactStep(t[0], t[1]), exactStep(t[0], t[2]))
}

func exactArea(t impl.Triangle) int64 { return max(exactTurn(t), -exactTurn(t)) }

// sideLength is the length from a to b.
func sideLength(a impl.Point, b impl.Point) int64 {
	step := exactStep(a, b)
	return divisorByCounting(step[0], step[1])
}

// pointsByCounting looks at all points around a triangle: it returns its inner points, and how many
// points are on its sides.
func pointsByCounting(t impl.Triangle) ([]impl.Point, int64) {
	var inner []impl.Point
	var boundary int64
	way := exactTurn(t) / exactArea(t)
	for x := min(t[0][0], t[1][0], t[2][0]); x <= max(t[0][0], t[1][0], t[2][0]); x++ {
		for y := min(t[0][1], t[1][1], t[2][1]); y <= max(t[0][1], t[1][1], t[2][1]); y++ {
			c := impl.Point{x, y}
			least := way * exactTurn(impl.Triangle{t[0], t[1], c})
			least = min(least, way*exactTurn(impl.Triangle{t[1], t[2], c}))
			least = min(least, way*exactTurn(impl.Triangle{t[2], t[0], c}))
			if least > 0 {
				inner = append(inner, c)
			} else if least == 0 {
				boundary++
			}
		}
	}
	return inner, boundary
}

// cornerByHand is the corner at i.
func cornerByHand(t impl.Triangle, i int) impl.Corner {
	a, b, c := t[i], t[(i+1)%3], t[(i+2)%3]
	first, second := exactStep(a, b), exactStep(a, c)
	n, m := sideLength(a, b), sideLength(a, c)
	return corner(first[0]/n, first[1]/n, second[0]/m, second[1]/m)
}

// shapeByCounting tries all places for the order 0, 1, 2. A matrix leads the step to the point 2 to
// y, Height, and x times the primitive point of the step to the point 1 to x, 0: y - x is a multiple
// of Height just if what they differ by is Height times a point.
func shapeByCounting(t impl.Triangle) impl.Shape {
	first, second := cornerByHand(t, 0).First, exactStep(t[0], t[2])
	length := sideLength(t[0], t[1])
	height := exactArea(t) / length
	x := int64(0)
	for (second[0]-x*first[0])%height != 0 || (second[1]-x*first[1])%height != 0 {
		x++
	}
	return impl.Shape{Length: length, Place: x, Height: height}
}

func compareByFields(x impl.Shape, y impl.Shape) int {
	return slices.Compare([]int64{x.Length, x.Place, x.Height}, []int64{y.Length, y.Place, y.Height})
}

// normalByCounting is the least shape for all orders.
func normalByCounting(t impl.Triangle) impl.Shape {
	var shapes []impl.Shape
	for _, order := range orders {
		shapes = append(shapes, shapeByCounting(inOrder(t, order)))
	}
	return slices.MinFunc(shapes, compareByFields)
}

// triangleByHand is the triangle of a shape.
func triangleByHand(x impl.Shape) impl.Triangle {
	return impl.Triangle{{0, 0}, {x.Length, 0}, {x.Place, x.Height}}
}

// areEqualByMatrix tells whether the matrix that leads the steps of t to those of u is whole and
// unimodular, for some order of the points of u.
func areEqualByMatrix(t impl.Triangle, u impl.Triangle) bool {
	if exactArea(t) != exactArea(u) {
		return false
	}
	x := impl.Corner{First: exactStep(t[0], t[1]), Second: exactStep(t[0], t[2])}
	for _, order := range orders {
		v := inOrder(u, order)
		if equalByMatrix(x, impl.Corner{First: exactStep(v[0], v[1]), Second: exactStep(v[0], v[2])}) {
			return true
		}
	}
	return false
}

// moveTriangle leads a triangle by a matrix, and then moves it by a point.
func moveTriangle(m impl.Matrix, t impl.Triangle, by impl.Point) impl.Triangle {
	for i, a := range t {
		t[i] = movePoint(m, a, by)
	}
	return t
}

func movePoint(m impl.Matrix, a impl.Point, by impl.Point) impl.Point {
	return impl.Point{m[0][0]*a[0] + m[0][1]*a[1] + by[0], m[1][0]*a[0] + m[1][1]*a[1] + by[1]}
}

func sortPoints(list []impl.Point) {
	slices.SortFunc(list, func(a, b impl.Point) int {
		return cmp.Or(cmp.Compare(a[0], b[0]), cmp.Compare(a[1], b[1]))
	})
}
