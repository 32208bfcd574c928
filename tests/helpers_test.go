package tests

import (
	"math"
	"slices"
	"testing"

	"loop.example/g01297/impl"
)

// tooGreat are numbers that no point, matrix or list may have.
var tooGreat = []int64{
	impl.MaxCoord + 1, -impl.MaxCoord - 1, 1 << 31, 1 << 32, 1 << 62,
	math.MaxInt64, math.MinInt64, math.MinInt64 + 1,
}

// check reports a result and its code that differ from those wanted.
func check[T comparable](t *testing.T, call string, got T, code int64, want T, wantCode int64) {
	t.Helper()
	if got != want || code != wantCode {
		t.Errorf("%s = %v, %d; want %v, %d", call, got, code, want, wantCode)
	}
}

// checkList does the same for lists.
func checkList[T comparable](t *testing.T, call string, got []T, code int64, want []T, wantCode int64) {
	t.Helper()
	if !slices.Equal(got, want) || code != wantCode {
		t.Errorf("%s = %v, %d; want %v, %d", call, got, code, want, wantCode)
	}
}

// checkNew clears a list, with the room behind it, and makes it again: nothing of the first one may
// be kept.
func checkNew[T comparable](t *testing.T, call func() ([]T, int64)) {
	t.Helper()
	first, code := call()
	want := slices.Clone(first)
	clear(first[:cap(first)])
	again, _ := call()
	checkList(t, "a list made again", again, code, want, impl.ErrNone)
}

// badPoints are arrays that are no points, by their first number, and by their second one.
func badPoints() []impl.Point {
	var list []impl.Point
	for _, n := range tooGreat {
		list = append(list, impl.Point{n, 1}, impl.Point{1, n}, impl.Point{n, n})
	}
	return list
}

// badMatrices are arrays that are no matrices, by one number each.
func badMatrices() []impl.Matrix {
	var list []impl.Matrix
	for _, n := range tooGreat {
		for i := range 4 {
			m := impl.Matrix{{1, 0}, {0, 1}}
			m[i/2][i%2] = n
			list = append(list, m)
		}
	}
	return list
}

// gridPoints are all points with numbers in -n..n.
func gridPoints(n int64) []impl.Point {
	var list []impl.Point
	for x := -n; x <= n; x++ {
		for y := -n; y <= n; y++ {
			list = append(list, impl.Point{x, y})
		}
	}
	return list
}

// gridMatrices are all matrices with numbers in -n..n.
func gridMatrices(n int64) []impl.Matrix {
	var list []impl.Matrix
	for _, a := range gridPoints(n) {
		for _, b := range gridPoints(n) {
			list = append(list, impl.Matrix{a, b})
		}
	}
	return list
}

// unimodularMatrices are those of the grid matrices with the determinant 1 or -1.
func unimodularMatrices(n int64) []impl.Matrix {
	var list []impl.Matrix
	for _, m := range gridMatrices(n) {
		if d := m[0][0]*m[1][1] - m[0][1]*m[1][0]; d == 1 || d == -1 {
			list = append(list, m)
		}
	}
	return list
}

// divisorByCounting is the greatest common divisor of two small numbers, 0 for none but zeros.
func divisorByCounting(a int64, b int64) int64 {
	greatest := int64(0)
	for d := int64(1); d <= max(a, -a, b, -b); d++ {
		if a%d == 0 && b%d == 0 {
			greatest = d
		}
	}
	return greatest
}

// numbersFrom makes numbers in 0..m - 1 that look like any, and are the same each time.
func numbersFrom(seed uint64) func(m int64) int64 {
	return func(m int64) int64 {
		seed = seed*6364136223846793005 + 1442695040888963407
		return int64(seed>>33) % m
	}
}
