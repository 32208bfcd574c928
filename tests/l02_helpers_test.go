package tests

import (
	"slices"

	"loop.example/g01297/impl"
)

// corner is the corner of the points a, b and c, d.
func corner(a, b, c, d int64) impl.Corner {
	return impl.Corner{First: impl.Point{a, b}, Second: impl.Point{c, d}}
}

// gridCorners are all corners with numbers in -n..n, found without the program.
func gridCorners(n int64) []impl.Corner {
	var list []impl.Corner
	for _, a := range gridPoints(n) {
		for _, b := range gridPoints(n) {
			primitive := divisorByCounting(a[0], a[1]) == 1 && divisorByCounting(b[0], b[1]) == 1
			if primitive && exactDeterminant(a, b) != 0 {
				list = append(list, impl.Corner{First: a, Second: b})
			}
		}
	}
	return list
}

// greatCorners are corners with great numbers whose sines are at most MaxCoord, the greatest
// sines, both signs of the determinant, and both ways to be upright or level among them.
func greatCorners() []impl.Corner {
	return []impl.Corner{
		corner(1, 0, 514229, 832040), corner(832040, 514229, 1, 0), corner(1, 0, 1, top), corner(1, 0, -1, -top),
		corner(0, 1, top, 1), corner(0, -1, -top, 7), corner(1, 1, -1, top-1), corner(-1, top-1, 1, 1),
		corner(top, top-1, top-1, top-2), corner(top-1, top, top-2, top-1), corner(999999, -1, -top, 1),
		corner(top, 1, 0, 1), corner(1, top, 0, -1), corner(-top, 999, 1, 0), corner(1, 3, 1000, 3001),
	}
}

// wideCorners are corners whose sines are greater than MaxCoord, the first two of them by one.
func wideCorners() []impl.Corner {
	return []impl.Corner{
		corner(1, 1, -1, top), corner(-1, top, 1, 1), corner(1, 2, -2, top-3), corner(top, 1, 1, 2),
		corner(top, top-1, 1-top, top), corner(1-top, top, top, top-1), corner(top, -1, 1, top), corner(1, -top, top-1, top),
	}
}

// badCorners are pairs of points that are no corner: no points, not primitive, or on one line with 0.
func badCorners() []impl.Corner {
	list := []impl.Corner{
		{}, corner(1, 0, 0, 0), corner(0, 0, 1, 0), corner(2, 0, 0, 1), corner(0, 1, 2, 0), corner(2, 4, 1, 0),
		corner(1, 0, 2, 4), corner(1, 1, -3, 6), corner(0, top, 1, 0), corner(1, 0, top, top), corner(3, 2, 3, 2),
		corner(3, 2, -3, -2), corner(1, 0, -1, 0), corner(0, 1, 0, 1), corner(top, top-1, -top, 1-top),
	}
	for _, a := range badPoints() {
		list = append(list, impl.Corner{First: a, Second: impl.Point{1, 2}}, impl.Corner{First: impl.Point{1, 2}, Second: a})
		list = append(list, impl.Corner{First: a, Second: a})
	}
	return list
}

func exactDeterminant(a impl.Point, b impl.Point) int64 { return a[0]*b[1] - a[1]*b[0] }

// exactMove moves without the limit that MoveCorner has.
func exactMove(m impl.Matrix, x impl.Corner) impl.Corner {
	moved := exactProduct(m, impl.Matrix{{x.First[0], x.Second[0]}, {x.First[1], x.Second[1]}})
	return corner(moved[0][0], moved[1][0], moved[0][1], moved[1][1])
}

func exactSine(x impl.Corner) int64 {
	d := exactDeterminant(x.First, x.Second)
	return max(d, -d)
}

// cosineByCounting is the cosine by its definition, for sines that are not too great.
func cosineByCounting(x impl.Corner) int64 {
	s := exactSine(x)
	for c := int64(1); c <= s; c++ {
		if (x.Second[0]-c*x.First[0])%s == 0 && (x.Second[1]-c*x.First[1])%s == 0 {
			return c
		}
	}
	return 0
}

// equalByMatrix tells whether the only matrix that leads x to y is whole and unimodular.
func equalByMatrix(x impl.Corner, y impl.Corner) bool {
	d := exactDeterminant(x.First, x.Second)
	if exactSine(x) != exactSine(y) {
		return false
	}
	for i := range 2 {
		if (y.First[i]*x.Second[1]-y.Second[i]*x.First[1])%d != 0 || (y.Second[i]*x.First[0]-y.First[i]*x.Second[0])%d != 0 {
			return false
		}
	}
	return true
}

// longByHand is the long expansion of s / c.
func longByHand(s int64, c int64) []int64 {
	var list []int64
	for c != 0 {
		list = append(list, s/c)
		s, c = c, s%c
	}
	if len(list)%2 == 0 {
		list[len(list)-1]--
		list = append(list, 1)
	}
	return list
}

// exactFold finds P and Q of a list of small numbers from its first number on, by products of
// matrices, without a limit on the way.
func exactFold(list []int64) (int64, int64) {
	m := unit
	for _, k := range list {
		m = exactProduct(m, impl.Matrix{{k, 1}, {1, 0}})
	}
	return m[0][0], m[1][0]
}

// zerosBehind is a list of n numbers: those given, and zeros.
func zerosBehind(n int, given ...int64) []int64 {
	return append(slices.Clone(given), make([]int64, n-len(given))...)
}
