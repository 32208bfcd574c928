package impl

import (
	"slices"
	"strconv"
	"strings"
)

// Point is a point of the plane if both numbers are at most MaxCoord in absolute value.
type Point [2]int64

// Matrix has two rows; m leads a to the point with m[i][0]*a[0] + m[i][1]*a[1] at i.
type Matrix [2][2]int64

// The error codes of all chapters.
const (
	ErrNone = iota
	ErrInvalid
	ErrRange
	ErrLimit
	ErrNotFound
	ErrState
	ErrSyntax
)

// The limits of chapter 1.
const (
	MaxCoord  = 1000000
	MaxPoints = 100
	MaxTerms  = 60
)

// IsPoint reports whether a is a point.
func IsPoint(a Point) bool { return isCoord(a[0]) && isCoord(a[1]) }

// AddPoints returns a and k times b together, k of an absolute value of at most MaxCoord, and
// ErrNone.
func AddPoints(a Point, b Point, k int64) (Point, int64) {
	if !arePoints(a, b) {
		return Point{}, ErrInvalid
	}
	if !isCoord(k) {
		return Point{}, ErrRange
	}
	return limitedPoint(plusTimes(a, b, k))
}

// DeterminantOf returns the determinant of a and b, and ErrNone.
func DeterminantOf(a Point, b Point) (int64, int64) {
	if !arePoints(a, b) {
		return 0, ErrInvalid
	}
	return determinant(a, b), ErrNone
}

// LengthOf returns the length from a to b, and ErrNone.
func LengthOf(a Point, b Point) (int64, int64) {
	if !arePoints(a, b) {
		return 0, ErrInvalid
	}
	return lengthBetween(a, b), ErrNone
}

// PrimitiveOf returns the primitive point of a, and ErrNone. Errors: ErrState if a is 0.
func PrimitiveOf(a Point) (Point, int64) {
	if !IsPoint(a) {
		return Point{}, ErrInvalid
	}
	if a == (Point{}) {
		return Point{}, ErrState
	}
	d := greatestDivisor(a[0], a[1])
	return Point{a[0] / d, a[1] / d}, ErrNone
}

// AreaOf returns the area of a, b and c, and ErrNone.
func AreaOf(a Point, b Point, c Point) (int64, int64) {
	if !arePoints(a, b, c) {
		return 0, ErrInvalid
	}
	return areaBetween(a, b, c), ErrNone
}

// DistanceOf returns the distance of c from the line through a and b, and ErrNone. Errors:
// ErrState if a is b.
func DistanceOf(a Point, b Point, c Point) (int64, int64) {
	if !arePoints(a, b, c) {
		return 0, ErrInvalid
	}
	if a == b {
		return 0, ErrState
	}
	return areaBetween(a, b, c) / lengthBetween(a, b), ErrNone
}

// MateOf returns the mate of a, and ErrNone. Errors: ErrState if a is not primitive.
func MateOf(a Point) (Point, int64) {
	if !IsPoint(a) {
		return Point{}, ErrInvalid
	}
	if greatestDivisor(a[0], a[1]) != 1 {
		return Point{}, ErrState
	}
	if b, ok := uprightMates()[a]; ok {
		return b, ErrNone
	}
	_, first := divideDown(-inverseModulo(a[1], absolute(a[0])), absolute(a[0]))
	return Point{first, (1 + a[1]*first) / a[0]}, ErrNone
}

// IsMatrix reports whether m is a matrix.
func IsMatrix(m Matrix) bool { return arePoints(m[0], m[1]) }

// DeterminantOfMatrix returns the determinant of m, and ErrNone.
func DeterminantOfMatrix(m Matrix) (int64, int64) {
	if !IsMatrix(m) {
		return 0, ErrInvalid
	}
	return determinant(m[0], m[1]), ErrNone
}

// ApplyMatrix returns the point to which m leads a, and ErrNone.
func ApplyMatrix(m Matrix, a Point) (Point, int64) {
	if !IsMatrix(m) || !IsPoint(a) {
		return Point{}, ErrInvalid
	}
	return limitedPoint(imageOf(m, a))
}

// MultiplyMatrices returns the product of m and n, and ErrNone.
func MultiplyMatrices(m Matrix, n Matrix) (Matrix, int64) {
	if !IsMatrix(m) || !IsMatrix(n) {
		return Matrix{}, ErrInvalid
	}
	left := imageOf(m, Point{n[0][0], n[1][0]})
	right := imageOf(m, Point{n[0][1], n[1][1]})
	product := Matrix{{left[0], right[0]}, {left[1], right[1]}}
	if !IsMatrix(product) {
		return Matrix{}, ErrLimit
	}
	return product, ErrNone
}

// InverseMatrix returns the matrix whose product with m is the unit matrix, and ErrNone. Errors:
// ErrState if m is not unimodular.
func InverseMatrix(m Matrix) (Matrix, int64) {
	if !IsMatrix(m) {
		return Matrix{}, ErrInvalid
	}
	d := determinant(m[0], m[1])
	if absolute(d) != 1 {
		return Matrix{}, ErrState
	}
	return Matrix{{d * m[1][1], -d * m[0][1]}, {-d * m[1][0], d * m[0][0]}}, ErrNone
}

// ExpandFraction returns the expansion of p, of an absolute value of at most MaxCoord, and q in
// 1..MaxCoord, and ErrNone. (ErrInvalid is not returned.)
func ExpandFraction(p int64, q int64) ([]int64, int64) {
	if !isRatio(p, q) {
		return nil, ErrRange
	}
	return expansionOf(p, q), ErrNone
}

// FractionOf returns P and Q of the fraction of a list of numbers of absolute values of at most
// MaxCoord, and ErrNone. (ErrInvalid is not returned.)
func FractionOf(list []int64) (int64, int64, int64) {
	if !isExpansion(list) {
		return 0, 0, ErrRange
	}
	// Ahead of the first number, each step makes P greater, and Q is at least that: what is too
	// great on the way is so in the end.
	f, code := foldList(list)
	return f[0], f[1], code
}

// ConvergentsOf returns the points P, Q of the fractions of all beginnings of the expansion of p
// and q, as for ExpandFraction, and ErrNone. (ErrInvalid and ErrLimit are not returned.)
func ConvergentsOf(p int64, q int64) ([]Point, int64) {
	if !isRatio(p, q) {
		return nil, ErrRange
	}
	var list []Point
	before, last := Point{0, 1}, Point{1, 0}
	for _, k := range expansionOf(p, q) {
		before, last = last, plusTimes(before, last, k)
		list = append(list, last)
	}
	return list, ErrNone
}

// PointText returns the text of a, and ErrNone.
func PointText(a Point) (string, int64) {
	if !IsPoint(a) {
		return "", ErrInvalid
	}
	return strconv.FormatInt(a[0], 10) + "," + strconv.FormatInt(a[1], 10), ErrNone
}

// ParsePoint returns the point with a text, and ErrNone. Errors: ErrSyntax if there is none. (No
// other errors are returned.)
func ParsePoint(text string) (Point, int64) {
	numbers, ok := parseNumbers(text)
	if !ok || len(numbers) != 2 {
		return Point{}, ErrSyntax
	}
	return Point(numbers), ErrNone
}

// PointsText returns the text of at most MaxPoints points, and ErrNone.
func PointsText(list []Point) (string, int64) {
	if !arePoints(list...) {
		return "", ErrInvalid
	}
	if len(list) > MaxPoints {
		return "", ErrRange
	}
	texts := make([]string, len(list))
	for i, a := range list {
		texts[i], _ = PointText(a)
	}
	return strings.Join(texts, ";"), ErrNone
}

// ParsePoints returns the list of at most MaxPoints points with a text, and ErrNone. Errors:
// ErrSyntax if there is none. (No other errors are returned.)
func ParsePoints(text string) ([]Point, int64) {
	if text == "" {
		return nil, ErrNone
	}
	parts := strings.Split(text, ";")
	if len(parts) > MaxPoints {
		return nil, ErrSyntax
	}
	list := make([]Point, len(parts))
	for i, part := range parts {
		a, code := ParsePoint(part)
		if code != ErrNone {
			return nil, code
		}
		list[i] = a
	}
	return list, ErrNone
}

// isCoord takes no absolute value, as the least int64 has none.
func isCoord(n int64) bool { return -MaxCoord <= n && n <= MaxCoord }

func isRatio(p int64, q int64) bool { return isCoord(p) && isCoord(q) && q >= 1 }

func arePoints(list ...Point) bool {
	for _, a := range list {
		if !IsPoint(a) {
			return false
		}
	}
	return true
}

func isExpansion(list []int64) bool {
	if len(list) < 1 || len(list) > MaxTerms {
		return false
	}
	for i, k := range list {
		if !isCoord(k) || i > 0 && k < 1 {
			return false
		}
	}
	return true
}

func limitedPoint(a Point) (Point, int64) {
	if !IsPoint(a) {
		return Point{}, ErrLimit
	}
	return a, ErrNone
}

func absolute(n int64) int64 {
	if n < 0 {
		return -n
	}
	return n
}

func greatestDivisor(a int64, b int64) int64 {
	for b != 0 {
		a, b = b, a%b
	}
	return absolute(a)
}

// divideDown returns p / q, rounded down, and the rest in 0..q - 1, for q of at least 1.
func divideDown(p int64, q int64) (int64, int64) {
	whole, rest := p/q, p%q
	if rest < 0 {
		return whole - 1, rest + q
	}
	return whole, rest
}

// inverseModulo returns a number for which a times it, less 1, is a multiple of m, for a without a
// common divisor with m.
func inverseModulo(a int64, m int64) int64 {
	_, rest := divideDown(a, m)
	last, next := m, rest
	x, y := int64(0), int64(1)
	for next > 1 {
		k := last / next
		last, next = next, last-k*next
		x, y = y, x-k*y
	}
	return y
}

func plusTimes(a Point, b Point, k int64) Point { return Point{a[0] + k*b[0], a[1] + k*b[1]} }

func determinant(a Point, b Point) int64 { return a[0]*b[1] - a[1]*b[0] }

func lengthBetween(a Point, b Point) int64 { return greatestDivisor(b[0]-a[0], b[1]-a[1]) }

func areaBetween(a Point, b Point, c Point) int64 {
	return absolute(determinant(plusTimes(b, a, -1), plusTimes(c, a, -1)))
}

func imageOf(m Matrix, a Point) Point {
	return Point{m[0][0]*a[0] + m[0][1]*a[1], m[1][0]*a[0] + m[1][1]*a[1]}
}

// uprightMates has the mates of the primitive points with 0 as the first number, by which nothing
// can be divided to find them.
func uprightMates() map[Point]Point {
	return map[Point]Point{{0, 1}: {-1, 0}, {0, -1}: {1, 0}}
}

func expansionOf(p int64, q int64) []int64 {
	var list []int64
	for q != 0 {
		whole, rest := divideDown(p, q)
		list = append(list, whole)
		p, q = q, rest
	}
	return list
}

// foldList finds P and Q of a list from its last number on. It stops at the first P that is too
// great, as the numbers behind it could make it exceed an int64.
func foldList(list []int64) (Point, int64) {
	f := Point{1, 0}
	for _, k := range slices.Backward(list) {
		f = Point{k*f[0] + f[1], f[0]}
		if !IsPoint(f) {
			return Point{}, ErrLimit
		}
	}
	return f, ErrNone
}

// parseNumbers reads numbers of points with commas between them.
func parseNumbers(text string) ([]int64, bool) {
	parts := strings.Split(text, ",")
	numbers := make([]int64, len(parts))
	for i, part := range parts {
		n, ok := parseNumber(part)
		if !ok || !isCoord(n) {
			return nil, false
		}
		numbers[i] = n
	}
	return numbers, true
}

// parseNumber reads a number. What is not the text of the number that strconv finds (+1, 01, -0) is
// none.
func parseNumber(text string) (int64, bool) {
	n, err := strconv.ParseInt(text, 10, 64)
	return n, err == nil && strconv.FormatInt(n, 10) == text
}
