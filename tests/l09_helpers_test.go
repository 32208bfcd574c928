package tests

import (
	"math"
	"slices"

	"loop.example/g01297/impl"
)

// The polygons that many tests use.
var (
	halfSquare = []impl.Point{{0, 0}, {1, 0}, {0, 1}}
	twoSquare  = []impl.Point{{0, 0}, {2, 0}, {2, 2}, {0, 2}}
	threeArms  = []impl.Point{{1, 0}, {0, 1}, {-1, -1}}
	allOfIt    = []impl.Point{{-side, -side}, {side, -side}, {side, side}, {-side, side}}
)

// badCornerNumbers are numbers that no corner of a polygon may have; the first ones are those of points.
func badCornerNumbers() []int64 {
	return append([]int64{side + 1, -side - 1, side + 2, -side - 2, 1 << 16, top, -top}, tooGreat...)
}

// sixteen has 16 corners with numbers in -4..5, around gridPoints(1), and its sides all directions with
// numbers in -2..2. Some of its corners, in their order, are a polygon as well.
func sixteen() []impl.Point {
	steps := []impl.Point{{1, 0}, {2, 1}, {1, 1}, {1, 2}, {0, 1}, {-1, 2}, {-1, 1}, {-2, 1}}
	for _, step := range steps {
		steps = append(steps, opposite(step))
	}
	list := []impl.Point{{0, -4}}
	for i, step := range steps[:15] {
		list = append(list, combine(1, list[i], 1, step))
	}
	return list
}

// times has k times all points.
func times(k int64, list []impl.Point) []impl.Point { return movedBy(scale(k), list, impl.Point{}) }

func scale(k int64) impl.Matrix { return impl.Matrix{{k, 0}, {0, k}} }

// movedBy leads all points by a matrix, and then moves them.
func movedBy(m impl.Matrix, list []impl.Point, by impl.Point) []impl.Point {
	var moved []impl.Point
	for _, a := range list {
		moved = append(moved, movePoint(m, a, by))
	}
	return moved
}

// from has the corners from the corner i on.
func from(list []impl.Point, i int) []impl.Point { return slices.Concat(list[i:], list[:i]) }

// backwards has the corners in the other direction, with the same first one.
func backwards(list []impl.Point) []impl.Point {
	back := from(list, 1)
	slices.Reverse(back)
	return back
}

// jumps has every few of the corners, as often as there are corners.
func jumps(list []impl.Point, few int) []impl.Point {
	var jumped []impl.Point
	for i := range list {
		jumped = append(jumped, list[i*few%len(list)])
	}
	return jumped
}

// somePoints are n points with numbers up to limit in absolute value.
func somePoints(next func(int64) int64, n int, limit int64) []impl.Point {
	var list []impl.Point
	for range n {
		list = append(list, impl.Point{next(2*limit+1) - limit, next(2*limit+1) - limit})
	}
	return list
}

// manyPolygons are n polygons with numbers up to limit, from any of their corners on.
func manyPolygons(n int, limit int64, seed uint64) [][]impl.Point {
	next := numbersFrom(seed)
	var list [][]impl.Point
	for len(list) < n {
		hull := hullByHand(somePoints(next, 3+int(next(14)), limit))
		if len(hull) >= 3 && len(hull) <= 12 {
			list = append(list, from(hull, int(next(int64(len(hull))))))
		}
	}
	return list
}

// somePolygons have small numbers, and greatPolygons great ones; the greatest, and 3 to 12 corners, are
// among them.
func somePolygons() [][]impl.Point {
	list := [][]impl.Point{
		halfSquare, twoSquare, threeArms, from(twoSquare, 3), {{0, 0}, {1, 0}, {1, 1}, {0, 1}}, {{0, 0}, {3, 0}, {0, 3}}, {{2, -1}, {-1, 2}, {-1, -1}},
		{{-5, 0}, {5, 0}, {5, 1}}, {{-5, 0}, {5, 0}, {1, 1}, {-1, 1}}, {{-1, 5}, {-1, -5}, {0, -1}, {0, 1}}, {{-4, -4}, {4, 3}, {4, 4}, {3, 4}},
	}
	for n := 3; n <= 12; n++ {
		list = append(list, sixteen()[:n], from(sixteen()[16-n:], n/2))
	}
	return slices.Concat(list, manyPolygons(150, 2, 1), manyPolygons(100, 4, 2), manyPolygons(40, 12, 3))
}

func greatPolygons() [][]impl.Point {
	list := [][]impl.Point{
		allOfIt, from(allOfIt, 2), {{side, side}, {-side, side}, {side, -side}}, {{-side, -side}, {side, side - 1}, {side, side}}, {{side, -side}, {side, 1 - side}, {-side, side}},
		{{-side, -side}, {side, 1 - side}, {1 - side, side}}, {{-side, 0}, {0, -side}, {side, 0}, {0, side}}, {{0, -side}, {1, side}, {0, side}},
	}
	for n := 3; n <= 12; n++ {
		list = append(list, times(200, sixteen()[:n]))
	}
	return slices.Concat(list, manyPolygons(60, 100, 4), manyPolygons(60, side, 5))
}

func allPolygons() [][]impl.Point { return slices.Concat(somePolygons(), greatPolygons()) }

// badPolygons are no polygons: too few corners or too many, one number that is too great, corners on one
// line, equal ones, the inside to the right, and more than one time around.
func badPolygons() [][]impl.Point {
	list := [][]impl.Point{
		nil, {}, {{0, 0}}, {{0, 0}, {1, 0}}, {{3, 4}, {3, 4}, {3, 4}}, {{0, 0}, {0, 0}, {1, 0}}, {{0, 0}, {1, 0}, {1, 0}}, {{0, 0}, {1, 0}, {0, 0}},
		{{0, 0}, {1, 0}, {2, 0}}, {{0, 0}, {2, 0}, {1, 0}}, {{0, 0}, {2, 2}, {-1, -1}}, {{0, 0}, {1, 0}, {2, 0}, {0, 2}}, {{1, 0}, {2, 0}, {0, 2}, {0, 0}},
		{{0, 0}, {2, 0}, {0, 2}, {0, 1}}, {{0, 0}, {2, 0}, {1, 1}, {0, 2}}, {{0, 0}, {4, 0}, {1, 1}, {0, 4}}, {{0, 0}, {1, 0}, {1, 0}, {0, 1}},
		{{0, 0}, {1, 0}, {0, 1}, {0, 0}}, {{0, 0}, {2, 2}, {2, 0}, {0, 2}}, {{0, 0}, {1, 0}, {0, 1}, {0, 0}, {1, 0}, {0, 1}}, {{0, 0}, {2, 0}, {2, 2}, {0, 2}, {0, 0}, {2, 0}, {2, 2}, {0, 2}},
		{{4, 0}, {-3, 2}, {2, -4}, {2, 4}, {-3, -2}}, sixteen(), sixteen()[:13], from(sixteen()[2:15], 6), slices.Concat(halfSquare, halfSquare, halfSquare, halfSquare),
		slices.Repeat([]impl.Point{{0, 0}}, 12), slices.Repeat(halfSquare, 5), slices.Repeat(halfSquare, 1000),
	}
	for _, good := range [][]impl.Point{halfSquare, twoSquare, threeArms, allOfIt, sixteen()[:12], times(200, sixteen()[:12])} {
		list = append(list, backwards(good), slices.Concat(good, good[:1]))
		for few := 2; few < len(good)-1; few++ {
			list = append(list, jumps(good, few))
		}
	}
	return append(list, tooGreatPolygons()...)
}

// tooGreatPolygons go around as polygons do, or would do, but one number of a corner is too great.
func tooGreatPolygons() [][]impl.Point {
	list := [][]impl.Point{times(201, sixteen()[:12]), times(1001, halfSquare), {{0, 0}, {top, 0}, {0, top}}, {{0, 0}, {far, 0}, {0, far}}}
	for _, n := range badCornerNumbers() {
		for i := range 8 {
			x := slices.Clone(twoSquare)
			x[i/2][i%2] = n
			list = append(list, x)
		}
	}
	return list
}

// isPolygonByHand turns once around the corners, by angles.
func isPolygonByHand(list []impl.Point) bool {
	turned := 0.0
	for i, a := range list {
		b, c := list[(i+1)%len(list)], list[(i+2)%len(list)]
		first, second := exactStep(a, b), exactStep(b, c)
		d := exactDeterminant(first, second)
		if d <= 0 {
			return false
		}
		turned += math.Atan2(float64(d), float64(first[0]*second[0]+first[1]*second[1]))
	}
	return len(list) >= 3 && len(list) <= 12 && math.Round(turned/(2*math.Pi)) == 1
}

// hullByHand goes from the least point to the greatest one, and back: it drops a corner where it does not
// turn to the left. Points on one line have at most two corners.
func hullByHand(points []impl.Point) []impl.Point {
	all := slices.Clone(points)
	sortPoints(all)
	all = slices.Compact(all)
	if len(all) < 3 {
		return all
	}
	below := chain(all)
	slices.Reverse(all)
	above := chain(all)
	return slices.Concat(below[:len(below)-1], above[:len(above)-1])
}

func chain(points []impl.Point) []impl.Point {
	var list []impl.Point
	for _, a := range points {
		for n := len(list); n >= 2 && exactTurn(impl.Triangle{list[n-2], list[n-1], a}) <= 0; n = len(list) {
			list = list[:n-1]
		}
		list = append(list, a)
	}
	return list
}

// areaByHand is the sum of the areas of the triangles of the first corner and all sides.
func areaByHand(list []impl.Point) int64 {
	area := int64(0)
	for i := 2; i < len(list); i++ {
		area += exactArea(impl.Triangle{list[0], list[i-1], list[i]})
	}
	return area
}

func borderByHand(list []impl.Point) int64 {
	border := int64(0)
	for i, a := range list {
		border += sideLength(a, list[(i+1)%len(list)])
	}
	return border
}

// whereByHand adds the areas of the triangles of a and all sides: only for points of the polygon they are
// its area in sum, and none of them is 0 for those inside.
func whereByHand(list []impl.Point, a impl.Point) int64 {
	sum, least := int64(0), int64(math.MaxInt64)
	for i, b := range list {
		area := exactArea(impl.Triangle{a, b, list[(i+1)%len(list)]})
		sum, least = sum+area, min(least, area)
	}
	if sum > areaByHand(list) {
		return -1
	}
	return min(least, 1)
}

// boxAround has all points up to n away from the least box with all corners.
func boxAround(list []impl.Point, n int64) []impl.Point {
	low, high := list[0], list[0]
	for _, a := range list {
		low = impl.Point{min(low[0], a[0]), min(low[1], a[1])}
		high = impl.Point{max(high[0], a[0]), max(high[1], a[1])}
	}
	var all []impl.Point
	for x := low[0] - n; x <= high[0]+n; x++ {
		for y := low[1] - n; y <= high[1]+n; y++ {
			all = append(all, impl.Point{x, y})
		}
	}
	return all
}

// countOneByOne counts the points inside of a polygon, and those on its border.
func countOneByOne(list []impl.Point) (int64, int64) {
	var counts [3]int64
	for _, a := range boxAround(list, 0) {
		counts[1+whereByHand(list, a)]++
	}
	return counts[2], counts[1]
}

// numbersOf has the numbers of all points, one behind the other.
func numbersOf(list []impl.Point) []int64 {
	var numbers []int64
	for _, a := range list {
		numbers = append(numbers, a[:]...)
	}
	return numbers
}

func comparePoints(a []impl.Point, b []impl.Point) int {
	return slices.Compare(numbersOf(a), numbersOf(b))
}

// waysAround are the corners from each one on, in both directions.
func waysAround(list []impl.Point) [][]impl.Point {
	var ways [][]impl.Point
	for i := range list {
		ways = append(ways, from(list, i), backwards(from(list, i)))
	}
	return ways
}

// matrixLeading is the only matrix that leads a to c, and b to d, and whether it is whole.
func matrixLeading(a, b, c, d impl.Point) (impl.Matrix, bool) {
	n := exactDeterminant(a, b)
	m := impl.Matrix{
		{c[0]*b[1] - d[0]*a[1], d[0]*a[0] - c[0]*b[0]},
		{c[1]*b[1] - d[1]*a[1], d[1]*a[0] - c[1]*b[0]},
	}
	for i := range 4 {
		if m[i/2][i%2]%n != 0 {
			return m, false
		}
		m[i/2][i%2] /= n
	}
	return m, true
}

// levelByTrying tries all numbers x for a way around: just one of them belongs to a whole matrix.
func levelByTrying(way []impl.Point) []impl.Point {
	first, second := exactStep(way[0], way[1]), exactStep(way[1], way[2])
	length := exactDivisor(first[0], first[1])
	y := exactArea(impl.Triangle{way[0], way[1], way[2]}) / length
	for x := range y {
		if m, whole := matrixLeading(first, second, impl.Point{length, 0}, impl.Point{x, y}); whole {
			return movedBy(m, movedBy(unit, way, opposite(way[0])), impl.Point{})
		}
	}
	return nil
}

func normalByTrying(list []impl.Point) []impl.Point {
	var forms [][]impl.Point
	for _, way := range waysAround(list) {
		forms = append(forms, levelByTrying(way))
	}
	return slices.MinFunc(forms, comparePoints)
}

// areLikeByMatrix looks for a way around b, and a unimodular matrix that leads all steps of a to those
// of this way.
func areLikeByMatrix(a []impl.Point, b []impl.Point) bool {
	if len(a) != len(b) || areaByHand(a) != areaByHand(b) {
		return false
	}
	for _, way := range waysAround(b) {
		m, whole := matrixLeading(exactStep(a[0], a[1]), exactStep(a[0], a[2]), exactStep(way[0], way[1]), exactStep(way[0], way[2]))
		if d := exactDeterminant(m[0], m[1]); !whole || d*d != 1 {
			continue
		}
		if slices.Equal(movedBy(m, movedBy(unit, a, opposite(a[0])), way[0]), way) {
			return true
		}
	}
	return false
}
