package tests

import (
	"cmp"
	"slices"

	"loop.example/g01297/impl"
)

// infinity is 1 / 0, the greatest fraction.
var infinity = impl.Point{1, 0}

// ancestor is a fraction with its level and its parents: none, if the level is less than 2.
type ancestor struct {
	at          impl.Point
	level       int64
	left, right *ancestor
}

// gridFractions are all fractions with numbers in -n..n, found without the program.
func gridFractions(n int64) []impl.Point {
	list := []impl.Point{infinity}
	for _, a := range gridPoints(n) {
		if a[1] > 0 && divisorByCounting(a[0], a[1]) == 1 {
			list = append(list, a)
		}
	}
	return list
}

// greatFractions are fractions with great numbers, the greatest ones among them.
func greatFractions() []impl.Point {
	return []impl.Point{
		infinity, {0, 1}, {1, 1}, {-1, 1}, {top, 1}, {-top, 1}, {top - 1, 1}, {1 - top, 1}, {1, top}, {-1, top},
		{top, top - 1}, {-top, top - 1}, {top - 1, top}, {1 - top, top}, {832040, 514229}, {514229, 832040},
		{-514229, 832040}, {-832040, 514229}, {top, 999983}, {-999983, top}, {2, 999999}, {-2, 999999},
		{999999, 2}, {-999999, 2}, {333333, top}, {-333333, top}, {499999, 999999}, {-499999, 999999},
		{355, 113}, {-355, 113}, {12345, 67891}, {-67891, 12345}, {271828, 99999}, {-141421, 100000},
	}
}

// noFractions are points that are no fractions: not primitive, or with the wrong signs.
func noFractions() []impl.Point {
	return []impl.Point{
		{0, 0}, {-1, 0}, {2, 0}, {-2, 0}, {0, 2}, {0, -1}, {0, -2}, {2, 4}, {-2, 4}, {3, 3}, {1, -2}, {-3, -7}, {-1, -1},
		{4, -6}, {top, 0}, {-top, 0}, {0, top}, {0, -top}, {top, top}, {-top, top}, {top, -1}, {1, -top}, {-1, -top}, {top, 2},
	}
}

// manyFractions are n fractions with numbers up to limit in absolute value, of all sizes.
func manyFractions(n int, limit int64) []impl.Point {
	var list []impl.Point
	next := numbersFrom(5)
	for len(list) < n {
		p, q := next(1+next(limit+1)), 1+next(1+next(limit))
		if next(2) == 0 {
			p = -p
		}
		d := exactDivisor(p, q)
		list = append(list, impl.Point{p / d, q / d})
	}
	return list
}

// exactDivisor is the greatest common divisor, for numbers too great to be counted through.
func exactDivisor(a int64, b int64) int64 {
	if b == 0 {
		return max(a, -a)
	}
	return exactDivisor(b, a%b)
}

func opposite(a impl.Point) impl.Point { return impl.Point{-a[0], -a[1]} }

// fractionByHand is that one of a and -a which has q greater than 0, or p, if q is 0.
func fractionByHand(a impl.Point) impl.Point {
	if slices.Compare([]int64{a[1], a[0]}, []int64{0, 0}) < 0 {
		return opposite(a)
	}
	return a
}

func combine(k int64, a impl.Point, l int64, b impl.Point) impl.Point {
	return impl.Point{k*a[0] + l*b[0], k*a[1] + l*b[1]}
}

func areExactNeighbours(a impl.Point, b impl.Point) bool {
	d := exactDeterminant(a, b)
	return d == 1 || d == -1
}

// compareFractions compares p / q as numbers, 1 / 0 being greater than all others.
func compareFractions(a impl.Point, b impl.Point) int { return cmp.Compare(a[0]*b[1], b[0]*a[1]) }

// wholePart is p / q, rounded down.
func wholePart(a impl.Point) int64 {
	whole := a[0] / a[1]
	if whole*a[1] > a[0] {
		whole--
	}
	return whole
}

// ancestorsOf goes down from whole numbers to a fraction by sums, one by one, and finds levels as the
// document defines them.
func ancestorsOf(c impl.Point) *ancestor {
	if c[1] == 0 {
		return &ancestor{at: c}
	}
	whole := wholePart(c)
	left := &ancestor{at: impl.Point{whole, 1}, level: 1}
	right := &ancestor{at: impl.Point{whole + 1, 1}, level: 1}
	for left.at != c {
		sum := &ancestor{combine(1, left.at, 1, right.at), min(left.level, right.level) + 1, left, right}
		switch compareFractions(c, sum.at) {
		case 0:
			return sum
		case -1:
			right = sum
		default:
			left = sum
		}
	}
	return left
}

// pathByHand goes the same way from 1 / 1 on, for p and q of at least 1; it is given up behind
// MaxPath letters and one more.
func pathByHand(c impl.Point) string {
	path, left, right := "", impl.Point{0, 1}, infinity
	for {
		sum := combine(1, left, 1, right)
		order := compareFractions(c, sum)
		if order == 0 || len(path) > impl.MaxPath {
			return path
		}
		if order < 0 {
			path, right = path+"L", sum
		} else {
			path, left = path+"R", sum
		}
	}
}

// lettersByExpansion is how many letters the path of a fraction with p and q of at least 1 has.
func lettersByExpansion(a impl.Point) int64 {
	list, _ := impl.ExpandFraction(a[0], a[1])
	letters := int64(-1)
	for _, k := range list {
		letters += k
	}
	return letters
}

// mateByCounting tries all first numbers of the mate.
func mateByCounting(a impl.Point) impl.Point {
	if a[0] == 0 {
		return impl.Point{-a[1], 0}
	}
	x := int64(0)
	for (1+a[1]*x)%a[0] != 0 {
		x++
	}
	return impl.Point{x, (1 + a[1]*x) / a[0]}
}

// seenFrom is P / Q for a and b, and false if one of the numbers is too great.
func seenFrom(a impl.Point, b impl.Point) (impl.Point, bool) {
	mate := mateByCounting(a)
	c := fractionByHand(impl.Point{mate[1]*b[0] - mate[0]*b[1], a[0]*b[1] - a[1]*b[0]})
	return c, max(c[0], -c[0], c[1]) <= top
}

// geodesicByHand follows the parents of what is seen from a, and leads them back.
func geodesicByHand(a impl.Point, b impl.Point) []impl.Point {
	seen, _ := seenFrom(a, b)
	mate := mateByCounting(a)
	var list []impl.Point
	for at := ancestorsOf(seen); at != nil; {
		list = append(list, fractionByHand(combine(at.at[0], a, at.at[1], mate)))
		switch {
		case at.level == 0:
			at = nil
		case at.level == 1:
			at = &ancestor{at: infinity}
		case at.left.level <= at.right.level:
			at = at.left
		default:
			at = at.right
		}
	}
	slices.Reverse(list)
	return list
}

// stepsByLayers are the numbers of steps from the first fraction to all others: layer by layer, all
// neighbours of those that were reached before.
func stepsByLayers(from impl.Point, all []impl.Point) map[impl.Point]int64 {
	steps := map[impl.Point]int64{from: 0}
	layer := []impl.Point{from}
	for n := int64(1); len(layer) > 0; n++ {
		var next []impl.Point
		for _, a := range layer {
			for _, b := range all {
				if _, reached := steps[b]; !reached && areExactNeighbours(a, b) {
					steps[b] = n
					next = append(next, b)
				}
			}
		}
		layer = next
	}
	return steps
}
