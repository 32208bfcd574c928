package tests

import (
	"slices"
	"testing"

	"loop.example/g01297/impl"
)

// angle has the points a and b.
type angle [2]impl.Point

// gridAngles are all angles with numbers in -n..n, found without the program.
func gridAngles(n int64) []angle {
	var list []angle
	for _, x := range gridCorners(n) {
		if exactDeterminant(x.First, x.Second) > 0 {
			list = append(list, angle{x.First, x.Second})
		}
	}
	return list
}

// greatAngles are angles with great numbers whose sails are short enough: upright first points,
// obtuse ones, great determinants, many parts, great sines, and sails of MaxSail points among them.
func greatAngles() []angle {
	return []angle{
		{{1, 0}, {514229, 832040}}, {{1, 0}, {317811, 832040}}, {{832040, 514229}, {-514229, 832040}},
		{{514229, 514228}, {-317811, 832040}}, {{999983, 314159}, {-271828, 999979}}, {{-top, 618033}, {-618034, -999999}},
		{{618033, -top}, {top, 618039}}, {{-618033, top}, {-top, -618039}}, {{-999, top}, {-top, -997}},
		{{0, 1}, {-top, -999}}, {{0, -1}, {top, 7}}, {{0, 1}, {-999983, -618033}}, {{0, -1}, {999983, -618033}},
		{{0, 1}, {-top, 618033}}, {{-1, 0}, {123456, -999983}}, {{3, -1}, {999999, -223607}},
		{{-123457, -271828}, {999983, -141421}}, {{top - 1, top - 2}, {top, top - 1}}, {{2 - top, top - 1}, {1 - top, top}},
		{{1, 0}, {-top, 1}}, {{0, -1}, {1, top}}, {{1, -top}, {0, 1}}, {{1, 2}, {-1, top - 3}},
		{{top, -1}, {top, 1}}, {{-top, 1}, {-top, -1}}, {{top - 1, -top}, {top - 1, top}},
		{{1, 0}, {1, impl.MaxSail - 1}}, {{0, 1}, {1 - impl.MaxSail, 1}}, {{1, 0}, {800, 960799}},
		{{-1, 0}, {-800, -960799}}, {{960799, 800}, {0, 1}},
	}
}

// longAngles are angles whose sails have more than MaxSail points, the first ones by one.
func longAngles() []angle {
	return []angle{
		{{1, 0}, {1, impl.MaxSail}}, {{0, 1}, {-impl.MaxSail, 1}}, {{1, 0}, {801, 962000}}, {{-1, 0}, {-801, -962000}},
		{{962000, 801}, {0, 1}}, {{1, 0}, {1, top}}, {{-1, 0}, {-1, -top}}, {{0, 1}, {-top, 1}}, {{0, -1}, {top, -7}},
		{{top, 1}, {-top, 1}}, {{1, -top}, {1, top}}, {{-1, top}, {-1, -top}}, {{top, -1}, {1, top}},
		{{top, top - 1}, {1 - top, top}}, {{-top, 1 - top}, {top - 1, -top}}, {{top, 1 - top}, {top, top - 1}},
	}
}

// badAngles are pairs of points that are no angle: no points, not primitive, or with a determinant
// of less than 1.
func badAngles() []angle {
	list := []angle{{{2, 5}, {1, 0}}, {{1, 0}, {2, -5}}, {{0, 1}, {1, 0}}, {{top, top - 1}, {top - 1, -top}}}
	for _, x := range badCorners() {
		list = append(list, angle{x.First, x.Second})
	}
	return list
}

// exactSplit tells the numbers p and q for which c is p a and q b together, times the determinant.
func exactSplit(x angle, c impl.Point) (int64, int64) {
	return exactDeterminant(c, x[1]), exactDeterminant(x[0], c)
}

func isInside(x angle, c impl.Point) bool {
	p, q := exactSplit(x, c)
	return p >= 0 && q >= 0
}

// sailByHull finds the points of a sail by its definition: those that are not behind a line
// between two whole points of the angle, and not behind a point. It looks at the points in the
// square of -n..n for angles with numbers in -n..n: nothing of the sail is outside of it.
func sailByHull(x angle, n int64) []impl.Point {
	var all, points []impl.Point
	for _, c := range gridPoints(n) {
		if c != (impl.Point{}) && isInside(x, c) {
			all = append(all, c)
		}
	}
	for _, c := range all {
		if divisorByCounting(c[0], c[1]) == 1 && !isBehindAny(c, all) {
			points = append(points, c)
		}
	}
	slices.SortFunc(points, func(c, d impl.Point) int { return -int(exactDeterminant(c, d)) })
	return points
}

func isBehindAny(c impl.Point, all []impl.Point) bool {
	for _, a := range all {
		for _, b := range all {
			d := exactDeterminant(a, b)
			p, q := exactSplit(angle{a, b}, c)
			if d > 0 && p >= 0 && q >= 0 && p+q > d {
				return true
			}
		}
	}
	return false
}

// checkSail asks for what only the sail of an angle has: it goes from a to b, neighbours have the
// determinant 1, and all turns c, which it returns by their places, are at least 2.
func checkSail(t *testing.T, x angle, points []impl.Point) []int64 {
	t.Helper()
	n := len(points) - 1
	if n < 1 || points[0] != x[0] || points[n] != x[1] {
		t.Fatalf("the sail of %v is %v", x, points)
	}
	turns := make([]int64, len(points))
	for i := range n {
		if exactDeterminant(points[i], points[i+1]) != 1 {
			t.Fatalf("the sail of %v has the neighbours %v and %v", x, points[i], points[i+1])
		}
		if i == 0 {
			continue
		}
		c := exactDeterminant(points[i-1], points[i+1])
		for j := range 2 {
			if c < 2 || points[i+1][j] != c*points[i][j]-points[i-1][j] {
				t.Fatalf("the sail of %v has the points %v one after the other", x, points[i-1:i+2])
			}
		}
		turns[i] = c
	}
	return turns
}

// sequenceByHand counts the steps between the places at which a sail turns.
func sequenceByHand(turns []int64) []int64 {
	list := []int64{1}
	for _, c := range turns[1 : len(turns)-1] {
		if c > 2 {
			list = append(list, c-2, 0)
		}
		list[len(list)-1]++
	}
	return list
}

// sequences are lists that have angles: all those of up to five numbers of at most n, and some with
// great numbers, with many, or with sails of MaxSail points.
func sequences(n int64) [][]int64 {
	var last [][]int64
	for x := int64(1); x <= n; x++ {
		last = append(last, []int64{x})
	}
	all := slices.Clone(last)
	for range 2 {
		var longer [][]int64
		for _, list := range last {
			for i := range n * n {
				longer = append(longer, slices.Concat(list, []int64{i/n + 1, i%n + 1}))
			}
		}
		all, last = append(all, longer...), longer
	}
	return append(all,
		[]int64{impl.MaxSail - 1}, []int64{1200, 1, 799}, []int64{1, 999998, 1}, []int64{1, 499999, 1},
		[]int64{1998, 499, 1}, []int64{1, 499, 1998}, []int64{999, 1000, 1}, []int64{1, 998, 1000},
		slices.Repeat([]int64{1}, 29), []int64{9, 9, 9, 9, 9}, []int64{1, 9, 1, 99, 1, 9, 1},
		append(slices.Repeat([]int64{1}, 24), 3), append([]int64{5}, slices.Repeat([]int64{1}, 24)...))
}
