package tests

import (
	"fmt"
	"math/big"
	"slices"
	"testing"

	"loop.example/g01297/impl"
)

func checkBest(t *testing.T, x impl.Point, n int64, first []impl.Point, second []impl.Point, wantCode int64) {
	t.Helper()
	got, code := impl.BestOfFirst(x[0], x[1], n)
	checkList(t, fmt.Sprintf("BestOfFirst(%d, %d, %d)", x[0], x[1], n), got, code, first, wantCode)
	got, code = impl.BestOfSecond(x[0], x[1], n)
	checkList(t, fmt.Sprintf("BestOfSecond(%d, %d, %d)", x[0], x[1], n), got, code, second, wantCode)
	nearest := impl.Point{}
	if len(first) > 0 {
		nearest = first[len(first)-1]
	}
	one, code := impl.NearestFraction(x[0], x[1], n)
	check(t, fmt.Sprintf("NearestFraction(%d, %d, %d)", x[0], x[1], n), one, code, nearest, wantCode)
}

func TestBestApproximations(t *testing.T) {
	cases := []struct {
		x             impl.Point
		n             int64
		first, second []impl.Point
	}{
		{impl.Point{7, 5}, 5, []impl.Point{{1, 1}, {3, 2}, {4, 3}, {7, 5}}, []impl.Point{{1, 1}, {3, 2}, {7, 5}}},
		{impl.Point{7, 5}, 1, []impl.Point{{1, 1}}, []impl.Point{{1, 1}}},
		{impl.Point{7, 5}, 2, []impl.Point{{1, 1}, {3, 2}}, []impl.Point{{1, 1}, {3, 2}}},
		{impl.Point{7, 5}, 4, []impl.Point{{1, 1}, {3, 2}, {4, 3}}, []impl.Point{{1, 1}, {3, 2}}},
		{impl.Point{7, 5}, 6, []impl.Point{{1, 1}, {3, 2}, {4, 3}, {7, 5}}, []impl.Point{{1, 1}, {3, 2}, {7, 5}}},
		{impl.Point{7, 5}, near, []impl.Point{{1, 1}, {3, 2}, {4, 3}, {7, 5}}, []impl.Point{{1, 1}, {3, 2}, {7, 5}}},
		{impl.Point{14, 10}, 10, []impl.Point{{1, 1}, {3, 2}, {4, 3}, {7, 5}}, []impl.Point{{1, 1}, {3, 2}, {7, 5}}},
		{impl.Point{-7, 5}, 5, []impl.Point{{-1, 1}, {-3, 2}, {-4, 3}, {-7, 5}}, []impl.Point{{-1, 1}, {-3, 2}, {-7, 5}}},
		// Whole numbers.
		{impl.Point{0, 1}, near, []impl.Point{{0, 1}}, []impl.Point{{0, 1}}},
		{impl.Point{0, top}, near, []impl.Point{{0, 1}}, []impl.Point{{0, 1}}},
		{impl.Point{top, 1}, near, []impl.Point{{top, 1}}, []impl.Point{{top, 1}}},
		{impl.Point{-top, 1}, 1, []impl.Point{{-top, 1}}, []impl.Point{{-top, 1}}},
		{impl.Point{top, top}, near, []impl.Point{{1, 1}}, []impl.Point{{1, 1}}},
		{impl.Point{-12, 4}, 4, []impl.Point{{-3, 1}}, []impl.Point{{-3, 1}}},
		// In the middle between two whole numbers, the lesser one is taken.
		{impl.Point{1, 2}, 1, []impl.Point{{0, 1}}, []impl.Point{{0, 1}}},
		{impl.Point{1, 2}, 2, []impl.Point{{0, 1}, {1, 2}}, []impl.Point{{0, 1}, {1, 2}}},
		{impl.Point{-1, 2}, 2, []impl.Point{{-1, 1}, {-1, 2}}, []impl.Point{{-1, 1}, {-1, 2}}},
		{impl.Point{3, 2}, 1, []impl.Point{{1, 1}}, []impl.Point{{1, 1}}},
		{impl.Point{-3, 2}, 3, []impl.Point{{-2, 1}, {-3, 2}}, []impl.Point{{-2, 1}, {-3, 2}}},
		{impl.Point{top / 2, top}, near, []impl.Point{{0, 1}, {1, 2}}, []impl.Point{{0, 1}, {1, 2}}},
		{impl.Point{top - 1, 2}, near, []impl.Point{{top/2 - 1, 1}, {top - 1, 2}}, []impl.Point{{top/2 - 1, 1}, {top - 1, 2}}},
		{impl.Point{1 - top, 2}, near, []impl.Point{{-top / 2, 1}, {1 - top, 2}}, []impl.Point{{-top / 2, 1}, {1 - top, 2}}},
		// With 2 as q, two p are as near, but not nearer than with 1.
		{impl.Point{1, 4}, 4, []impl.Point{{0, 1}, {1, 3}, {1, 4}}, []impl.Point{{0, 1}, {1, 4}}},
		{impl.Point{3, 4}, 4, []impl.Point{{1, 1}, {2, 3}, {3, 4}}, []impl.Point{{1, 1}, {3, 4}}},
		// Little, and nearly whole.
		{impl.Point{1, top}, near, []impl.Point{{0, 1}}, []impl.Point{{0, 1}}},
		{impl.Point{top - 1, top}, near, []impl.Point{{1, 1}}, []impl.Point{{1, 1}}},
		{impl.Point{1 - top, top}, near, []impl.Point{{-1, 1}}, []impl.Point{{-1, 1}}},
		{impl.Point{top, 3}, near, []impl.Point{{333333, 1}, {666667, 2}, {top, 3}}, []impl.Point{{333333, 1}, {top, 3}}},
		{impl.Point{314159, 100000}, 500, []impl.Point{{3, 1}, {13, 4}, {16, 5}, {19, 6}, {22, 7}, {179, 57}, {201, 64}, {223, 71}, {245, 78}, {267, 85}, {289, 92}, {311, 99}, {333, 106}, {355, 113}}, []impl.Point{{3, 1}, {22, 7}, {333, 106}, {355, 113}}},
	}
	for _, c := range cases {
		checkBest(t, c.x, c.n, c.first, c.second, impl.ErrNone)
	}
}

// bestByTrying tries all numbers p for each q: missed tells how much a point misses.
func bestByTrying(x impl.Point, n int64, missed func(p int64, q int64) *big.Rat) []impl.Point {
	var list []impl.Point
	var least *big.Rat
	for q := int64(1); q <= n; q++ {
		low := q*(x[0]/x[1]) - 2*q
		best, here := impl.Point{low, q}, missed(low, q)
		for p := low + 1; p <= low+4*q; p++ {
			if m := missed(p, q); m.Cmp(here) < 0 {
				best, here = impl.Point{p, q}, m
			}
		}
		if least == nil || here.Cmp(least) < 0 {
			list, least = append(list, best), here
		}
	}
	return list
}

func TestBestApproximationsByTrying(t *testing.T) {
	for _, x := range append(gridRatios(13, 8), everyFew(gridRatios(40, 15), 17)...) {
		second := func(p int64, q int64) *big.Rat { return new(big.Rat).Abs(big.NewRat(q*x[0]-p*x[1], 1)) }
		first := func(p int64, q int64) *big.Rat { return new(big.Rat).Abs(big.NewRat(q*x[0]-p*x[1], q)) }
		firsts, seconds := bestByTrying(x, 17, first), bestByTrying(x, 17, second)
		for n := int64(1); n <= 17; n++ {
			checkBest(t, x, n, upToSecond(firsts, n), upToSecond(seconds, n), impl.ErrNone)
		}
	}
}

// upToSecond are the points with second numbers of at most n, of ones in ascending order.
func upToSecond(list []impl.Point, n int64) []impl.Point {
	i := slices.IndexFunc(list, func(a impl.Point) bool { return a[1] > n })
	if i < 0 {
		return list
	}
	return list[:i]
}

// secondByExpansion has the convergents: of two with the same q, which is 1, the later one is nearer.
func secondByExpansion(x impl.Point, n int64) []impl.Point {
	all := convergentsByHand(x)
	if len(all) > 1 && all[1][1] == 1 {
		all = all[1:]
	}
	return upToSecond(all, n)
}

// firstByExpansion looks through the convergents, and the points between them, which one reaches by adding
// a convergent again and again: there are no other ones of the first kind.
func firstByExpansion(x impl.Point, n int64) []impl.Point {
	all := convergentsByHand(x)
	before := impl.Point{1, 0}
	candidates := []impl.Point{all[0]}
	for i := range len(all) - 1 {
		for a := combine(1, before, 1, all[i]); a[1] <= min(n, all[i+1][1]); a = combine(1, a, 1, all[i]) {
			candidates = append(candidates, a)
		}
		before = all[i]
	}
	slices.SortStableFunc(candidates, func(a, b impl.Point) int { return int(a[1] - b[1]) })
	var list []impl.Point
	for _, a := range candidates {
		switch {
		case len(list) == 0 || isCloser(x, a, list[len(list)-1]) && a[1] > list[len(list)-1][1]:
			list = append(list, a)
		case isCloser(x, a, list[len(list)-1]):
			list[len(list)-1] = a
		}
	}
	return list
}

func isCloser(x impl.Point, a impl.Point, b impl.Point) bool {
	d, e := exactDeterminant(a, x), exactDeterminant(b, x)
	return max(d, -d)*b[1] < max(e, -e)*a[1]
}

func TestBestApproximationsOfGreatRatios(t *testing.T) {
	for i, x := range greatRatios() {
		numbers := []int64{1, 2, 3, 100, 1000 + int64(i)}
		if i < 70 || i%20 < 2 {
			numbers = append(numbers, max(1, min(x[1]-1, near-1)), min(x[1], near-1), min(x[1]+1, near), near)
		}
		for _, n := range slices.Compact(numbers) {
			checkBest(t, x, n, firstByExpansion(x, n), secondByExpansion(x, n), impl.ErrNone)
		}
	}
}

// Of 1 / Q, all q from the middle of Q on are better than those before, in the first kind.
func TestManyBestApproximations(t *testing.T) {
	want := []impl.Point{{0, 1}}
	for q := int64(near/2 + 1); q <= near; q++ {
		want = append(want, impl.Point{1, q})
	}
	checkBest(t, impl.Point{1, near}, near, want, []impl.Point{{0, 1}, {1, near}}, impl.ErrNone)
	checkBest(t, impl.Point{1, near}, near-1, want[:len(want)-1], want[:1], impl.ErrNone)
	checkBest(t, impl.Point{1, near + 1}, near, want, want[:1], impl.ErrNone)
	checkBest(t, impl.Point{1, near}, near/2, want[:1], want[:1], impl.ErrNone)
	checkBest(t, impl.Point{1, near}, near/2+1, want[:2], want[:1], impl.ErrNone)
}

func TestSecondKindIsOfTheFirstKind(t *testing.T) {
	for _, x := range append(gridRatios(20, 20), greatRatios()...) {
		for _, n := range []int64{1, 7, 20, 1234} {
			first, code := impl.BestOfFirst(x[0], x[1], n)
			second, secondCode := impl.BestOfSecond(x[0], x[1], n)
			if code != impl.ErrNone || secondCode != impl.ErrNone || len(second) == 0 {
				t.Fatalf("of %v up to %d: %d and %d, with %v", x, n, code, secondCode, second)
			}
			for _, a := range second {
				if !slices.Contains(first, a) {
					t.Errorf("of %v up to %d, %v is of the second kind, but not of the first one: %v", x, n, a, first)
				}
			}
		}
	}
}

// Of ratios that are told with multiples of their numbers, all is the same.
func TestBestApproximationsOfMultiples(t *testing.T) {
	for _, x := range gridRatios(9, 9) {
		for _, k := range []int64{2, 3, 100000} {
			first, _ := impl.BestOfFirst(x[0], x[1], 12)
			second, _ := impl.BestOfSecond(x[0], x[1], 12)
			checkBest(t, impl.Point{k * x[0], k * x[1]}, 12, first, second, impl.ErrNone)
		}
	}
}

func TestErrorsOfBestApproximations(t *testing.T) {
	for _, bad := range noRatios() {
		for _, n := range []int64{1, 7, near, 0, near + 1} {
			checkBest(t, bad, n, nil, nil, impl.ErrRange)
		}
	}
	for _, n := range badNumbersTo(near) {
		for _, x := range []impl.Point{{7, 5}, {0, 1}, {-top, top}, {7, 0}} {
			checkBest(t, x, n, nil, nil, impl.ErrRange)
		}
	}
}

func TestBestApproximationsAreNew(t *testing.T) {
	checkNew(t, func() ([]impl.Point, int64) { return impl.BestOfFirst(314159, 100000, 500) })
	checkNew(t, func() ([]impl.Point, int64) { return impl.BestOfSecond(314159, 100000, 500) })
}
