package tests

import (
	"math/big"

	"loop.example/g01297/impl"
)

const (
	steps = 500
	near  = 100000
)

// Ratios are points P, Q here. badSeconds are numbers that no Q may be.
func badSeconds() []int64 { return append([]int64{0, -1, -2, -top, top + 2}, tooGreat...) }

// badNumbersTo are numbers that are not in 1..most.
func badNumbersTo(most int64) []int64 {
	return append([]int64{0, -1, -2, -most, most + 1, most + 2, 1<<32 + 1, 1<<40 + 1}, tooGreat...)
}

// noRatios are no ratios, by their P, by their Q, and by both.
func noRatios() []impl.Point {
	var list []impl.Point
	for _, n := range tooGreat {
		list = append(list, impl.Point{n, 1}, impl.Point{n, 2}, impl.Point{n, top}, impl.Point{n, n}, impl.Point{n, 0})
	}
	for _, n := range badSeconds() {
		list = append(list, impl.Point{0, n}, impl.Point{1, n}, impl.Point{-7, n}, impl.Point{top, n}, impl.Point{-top, n})
	}
	return list
}

// gridRatios have P in -p..p, and Q in 1..q.
func gridRatios(p int64, q int64) []impl.Point {
	var list []impl.Point
	for x := -p; x <= p; x++ {
		for y := int64(1); y <= q; y++ {
			list = append(list, impl.Point{x, y})
		}
	}
	return list
}

// greatRatios have the greatest numbers, ones with long expansions, and, behind the first 70, any.
func greatRatios() []impl.Point {
	list := []impl.Point{
		{1, 1}, {0, 1}, {top, 1}, {top - 1, 1}, {0, 2}, {1, 2}, {top, 2}, {top - 1, 2}, {top, 3}, {1, top}, {0, top}, {2, top}, {top - 1, top}, {top, top},
		{top, top - 1}, {top - 2, top - 1}, {top / 2, top}, {top/2 + 1, top}, {top/2 - 1, top}, {top / 2, top - 1}, {1, near}, {1, near + 1}, {1, near - 1}, {2, 2*near - 1}, {3, 2*near - 1},
		{832040, 514229}, {514229, 832040}, {665857, 470832}, {355, 113}, {355000, 113000}, {333333, 999999}, {3141, 1000}, {31415, 10000}, {314159, 100000}, {271828, 100000}, {999, 1000}, {499, 1000},
	}
	next := numbersFrom(101)
	for range 60 {
		list = append(list, impl.Point{next(top + 1), 1 + next(top)}, impl.Point{next(2000), 1 + next(top)}, impl.Point{next(top + 1), 1 + next(500)})
	}
	var both []impl.Point
	for _, x := range list {
		both = append(both, x, impl.Point{-x[0], x[1]})
	}
	return both
}

func exactRatio(x impl.Point) *big.Rat { return big.NewRat(x[0], x[1]) }

// remainder is the rest of x by q, from 0 on.
func remainder(x *big.Int, q int64) int64 { return new(big.Int).Mod(x, big.NewInt(q)).Int64() }

func exactTimes(k int64, l int64) *big.Int { return new(big.Int).Mul(big.NewInt(k), big.NewInt(l)) }

// placeByHand is the rest of k P by Q.
func placeByHand(x impl.Point, k int64) int64 { return remainder(exactTimes(k, x[0]), x[1]) }

// convergentsByHand folds all beginnings of the expansion.
func convergentsByHand(x impl.Point) []impl.Point {
	var whole []int64
	var list []impl.Point
	for left := x; left[1] != 0; {
		rest := remainder(big.NewInt(left[0]), left[1])
		whole = append(whole, (left[0]-rest)/left[1])
		left = impl.Point{left[1], rest}
		p, q := exactFold(whole)
		list = append(list, impl.Point{p, q})
	}
	return list
}

func exactNorm(a impl.Point) int64 { return a[0]*a[0] + a[1]*a[1] }

func exactScalar(a impl.Point, b impl.Point) int64 { return a[0]*b[0] + a[1]*b[1] }
