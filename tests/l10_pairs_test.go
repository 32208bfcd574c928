package tests

import (
	"fmt"
	"math/big"
	"slices"
	"testing"

	"loop.example/g01297/impl"
)

func checkIsReduced(t *testing.T, a impl.Point, b impl.Point, want bool, wantCode int64) {
	t.Helper()
	got, code := impl.IsReducedPair(a, b)
	check(t, fmt.Sprintf("IsReducedPair(%v, %v)", a, b), got, code, want, wantCode)
}

// checkReduction looks at the reduced pair, and at its first point.
func checkReduction(t *testing.T, a impl.Point, b impl.Point, want []impl.Point, wantCode int64) {
	t.Helper()
	got, code := impl.ReducePair(a, b)
	checkList(t, fmt.Sprintf("ReducePair(%v, %v)", a, b), got, code, want, wantCode)
	norm := int64(0)
	if len(want) > 0 {
		norm = exactNorm(want[0])
	}
	shortest, code := impl.ShortestNorm(a, b)
	check(t, fmt.Sprintf("ShortestNorm(%v, %v)", a, b), shortest, code, norm, wantCode)
}

// pairsOf are all pairs of points with a determinant other than 0.
func pairsOf(points []impl.Point) [][2]impl.Point {
	var list [][2]impl.Point
	for _, a := range points {
		for _, b := range points {
			if exactDeterminant(a, b) != 0 {
				list = append(list, [2]impl.Point{a, b})
			}
		}
	}
	return list
}

// greatPairs have the greatest points, points next to them, and any; columns of unimodular matrices have
// the determinants 1 and -1.
func greatPairs() [][2]impl.Point {
	points := []impl.Point{
		{top, top}, {top, -top}, {-top, top}, {-top, -top}, {top, 0}, {0, -top}, {top, top - 1}, {1 - top, -top}, {1, 0}, {0, -1}, {1, 1}, {2, -1}, {999, 1000}, {top / 2, top}, {top, top / 2}, {-top / 2, top - 1}, {top / 2, 1}, {top, 1},
	}
	next := numbersFrom(102)
	list := pairsOf(append(points, somePoints(next, 40, top)...))
	for _, x := range greatRatios() {
		all := convergentsByHand(x)
		for i := range len(all) - 1 {
			list = append(list, [2]impl.Point{all[i], all[i+1]})
		}
	}
	return list
}

func TestNormOf(t *testing.T) {
	cases := []struct {
		a    impl.Point
		want int64
	}{
		{impl.Point{3, 4}, 25}, {impl.Point{0, 0}, 0}, {impl.Point{1, 0}, 1}, {impl.Point{0, -1}, 1}, {impl.Point{-3, 4}, 25}, {impl.Point{-2, -7}, 53},
		{impl.Point{top, top}, 2000000000000}, {impl.Point{-top, top}, 2000000000000}, {impl.Point{top, 0}, 1000000000000}, {impl.Point{-top, -1}, 1000000000001},
	}
	for _, c := range cases {
		got, code := impl.NormOf(c.a)
		check(t, fmt.Sprintf("NormOf(%v)", c.a), got, code, c.want, impl.ErrNone)
	}
	for _, a := range gridPoints(9) {
		got, code := impl.NormOf(a)
		check(t, fmt.Sprintf("NormOf(%v)", a), got, code, exactNorm(a), impl.ErrNone)
	}
	for _, a := range badPoints() {
		got, code := impl.NormOf(a)
		check(t, fmt.Sprintf("NormOf(%v)", a), got, code, 0, impl.ErrInvalid)
	}
}

func TestIsReducedPair(t *testing.T) {
	cases := []struct {
		a, b impl.Point
		want bool
	}{
		{impl.Point{1, 0}, impl.Point{0, 1}, true},
		{impl.Point{1, 0}, impl.Point{5, 1}, false},
		{impl.Point{1, 0}, impl.Point{-5, 1}, false},
		// Just half of the norm, and one more.
		{impl.Point{2, 0}, impl.Point{1, 5}, true},
		{impl.Point{2, 0}, impl.Point{-1, 5}, true},
		{impl.Point{-2, 0}, impl.Point{1, 5}, true},
		{impl.Point{1, 1}, impl.Point{1, 0}, false},
		{impl.Point{4, 0}, impl.Point{2, 5}, true},
		{impl.Point{4, 0}, impl.Point{3, 5}, false},
		{impl.Point{4, 0}, impl.Point{-3, 5}, false},
		// Equal norms, and a less one of b.
		{impl.Point{1, 1}, impl.Point{1, -1}, true},
		{impl.Point{1, 2}, impl.Point{2, 1}, false},
		{impl.Point{4, 3}, impl.Point{0, 5}, false},
		{impl.Point{4, 3}, impl.Point{-3, 4}, true},
		{impl.Point{4, 3}, impl.Point{-3, 3}, false},
		{impl.Point{2, 0}, impl.Point{0, 1}, false},
		{impl.Point{5, 1}, impl.Point{1, 0}, false},
		{impl.Point{top, top}, impl.Point{-top, top}, true},
		{impl.Point{top, top}, impl.Point{1 - top, top}, false},
		{impl.Point{top, 0}, impl.Point{top / 2, top}, true},
		{impl.Point{top, 0}, impl.Point{-top / 2, -top}, true},
		{impl.Point{top, 0}, impl.Point{top/2 + 1, top}, false},
		{impl.Point{top, 0}, impl.Point{-top/2 - 1, top}, false},
		{impl.Point{top, 0}, impl.Point{0, top - 1}, false},
		{impl.Point{top, top}, impl.Point{top, top - 1}, false},
	}
	for _, c := range cases {
		checkIsReduced(t, c.a, c.b, c.want, impl.ErrNone)
	}
}

func isReducedPairByHand(a impl.Point, b impl.Point) bool {
	twice := 2 * exactScalar(a, b)
	return exactNorm(a) <= exactNorm(b) && twice <= exactNorm(a) && -twice <= exactNorm(a)
}

func TestWhichPairsAreReduced(t *testing.T) {
	for _, x := range slices.Concat(pairsOf(gridPoints(4)), greatPairs()) {
		checkIsReduced(t, x[0], x[1], isReducedPairByHand(x[0], x[1]), impl.ErrNone)
	}
}

func TestReducePair(t *testing.T) {
	cases := []struct {
		a, b impl.Point
		want []impl.Point
	}{
		{impl.Point{1, 0}, impl.Point{5, 1}, []impl.Point{{1, 0}, {0, 1}}},
		{impl.Point{1, 0}, impl.Point{-5, 1}, []impl.Point{{1, 0}, {0, 1}}},
		{impl.Point{5, 0}, impl.Point{2, 1}, []impl.Point{{2, 1}, {1, -2}}},
		// Reduced ones stay.
		{impl.Point{0, 1}, impl.Point{1, 0}, []impl.Point{{0, 1}, {1, 0}}},
		{impl.Point{-2, 0}, impl.Point{1, 5}, []impl.Point{{-2, 0}, {1, 5}}},
		{impl.Point{4, 3}, impl.Point{-3, 4}, []impl.Point{{4, 3}, {-3, 4}}},
		// An exchange alone, and one ahead of a step.
		{impl.Point{0, 2}, impl.Point{1, 0}, []impl.Point{{1, 0}, {0, 2}}},
		{impl.Point{5, 1}, impl.Point{1, 0}, []impl.Point{{1, 0}, {0, 1}}},
		// Halves go up, with products of both signs.
		{impl.Point{2, 0}, impl.Point{3, 5}, []impl.Point{{2, 0}, {-1, 5}}},
		{impl.Point{2, 0}, impl.Point{-3, 5}, []impl.Point{{2, 0}, {-1, 5}}},
		{impl.Point{2, 0}, impl.Point{5, 5}, []impl.Point{{2, 0}, {-1, 5}}},
		{impl.Point{2, 0}, impl.Point{-5, 5}, []impl.Point{{2, 0}, {-1, 5}}},
		{impl.Point{-2, 0}, impl.Point{3, 5}, []impl.Point{{-2, 0}, {1, 5}}},
		{impl.Point{4, 0}, impl.Point{5, 7}, []impl.Point{{4, 0}, {1, 7}}},
		{impl.Point{4, 0}, impl.Point{7, 7}, []impl.Point{{4, 0}, {-1, 7}}},
		{impl.Point{4, 0}, impl.Point{-7, 7}, []impl.Point{{4, 0}, {1, 7}}},
		{impl.Point{4, 0}, impl.Point{-5, 7}, []impl.Point{{4, 0}, {-1, 7}}},
		// Equal norms are not exchanged.
		{impl.Point{1, 2}, impl.Point{2, 1}, []impl.Point{{1, -1}, {1, 2}}},
		{impl.Point{2, 1}, impl.Point{1, 2}, []impl.Point{{-1, 1}, {2, 1}}},
		{impl.Point{0, 5}, impl.Point{4, 3}, []impl.Point{{4, -2}, {0, 5}}},
		// The greatest points.
		{impl.Point{top, top}, impl.Point{-top, top}, []impl.Point{{top, top}, {-top, top}}},
		{impl.Point{top, top}, impl.Point{top, top - 1}, []impl.Point{{0, 1}, {top, 0}}},
		{impl.Point{top, top - 1}, impl.Point{top - 1, top - 2}, []impl.Point{{0, -1}, {1, 0}}},
		{impl.Point{1, 0}, impl.Point{top, top}, []impl.Point{{1, 0}, {0, top}}},
		{impl.Point{1, 0}, impl.Point{-top, -top}, []impl.Point{{1, 0}, {0, -top}}},
		{impl.Point{top, top}, impl.Point{0, -1}, []impl.Point{{0, -1}, {top, 0}}},
	}
	for _, c := range cases {
		checkReduction(t, c.a, c.b, c.want, impl.ErrNone)
	}
}

// The chapter tells of no limit of reduced pairs: no norm grows, but a single number may, to more than that
// of a point.
func TestReducedPairsBeyondPoints(t *testing.T) {
	cases := []struct {
		a, b impl.Point
		want []impl.Point
	}{
		{impl.Point{-100000, 500000}, impl.Point{top, top}, []impl.Point{{-100000, 500000}, {1200000, 0}}},
		{impl.Point{top, top}, impl.Point{-100000, 500000}, []impl.Point{{-100000, 500000}, {1200000, 0}}},
		{impl.Point{-500000, 950000}, impl.Point{550000, top}, []impl.Point{{1050000, 50000}, {-500000, 950000}}},
	}
	for _, c := range cases {
		checkReduction(t, c.a, c.b, c.want, impl.ErrNone)
	}
}

// reduceByHand rounds by fractions.
func reduceByHand(a impl.Point, b impl.Point) []impl.Point {
	for !isReducedPairByHand(a, b) {
		if exactNorm(a) > exactNorm(b) {
			a, b = b, a
			continue
		}
		k := new(big.Rat).Add(big.NewRat(exactScalar(a, b), exactNorm(a)), big.NewRat(1, 2))
		b = combine(1, b, -new(big.Int).Div(k.Num(), k.Denom()).Int64(), a)
	}
	return []impl.Point{a, b}
}

func TestReductionsOfManyPairs(t *testing.T) {
	for _, x := range slices.Concat(pairsOf(gridPoints(5)), greatPairs()) {
		checkReduction(t, x[0], x[1], reduceByHand(x[0], x[1]), impl.ErrNone)
	}
}

// isSumOf tells whether c is a sum of whole multiples of a and b.
func isSumOf(a impl.Point, b impl.Point, c impl.Point) bool {
	d := exactDeterminant(a, b)
	return exactDeterminant(c, b)%d == 0 && exactDeterminant(a, c)%d == 0
}

func TestReducedPairsAreReduced(t *testing.T) {
	beyond := 0
	for _, x := range slices.Concat(pairsOf(gridPoints(4)), greatPairs()) {
		got, code := impl.ReducePair(x[0], x[1])
		if code != impl.ErrNone || len(got) != 2 || !isReducedPairByHand(got[0], got[1]) {
			t.Fatalf("ReducePair(%v, %v) = %v, %d", x[0], x[1], got, code)
		}
		if d, e := exactDeterminant(got[0], got[1]), exactDeterminant(x[0], x[1]); d != e && d != -e {
			t.Errorf("ReducePair(%v, %v) has the determinant %d, not %d", x[0], x[1], d, e)
		}
		if !isSumOf(x[0], x[1], got[0]) || !isSumOf(x[0], x[1], got[1]) {
			t.Errorf("ReducePair(%v, %v) = %v are no sums of both points", x[0], x[1], got)
		}
		if !impl.IsPoint(got[0]) || !impl.IsPoint(got[1]) {
			beyond++
			continue
		}
		checkIsReduced(t, got[0], got[1], true, impl.ErrNone)
		checkReduction(t, got[0], got[1], got, impl.ErrNone)
	}
	if beyond == 0 {
		t.Error("no reduced pair has a number greater than that of a point")
	}
}

func TestShortestNormsAreAtMostBothNorms(t *testing.T) {
	for _, x := range slices.Concat(pairsOf(gridPoints(5)), greatPairs()) {
		got, code := impl.ShortestNorm(x[0], x[1])
		first, firstCode := impl.NormOf(x[0])
		second, secondCode := impl.NormOf(x[1])
		if code != impl.ErrNone || firstCode != impl.ErrNone || secondCode != impl.ErrNone || got < 1 || got > min(first, second) {
			t.Errorf("ShortestNorm(%v, %v) = %d, %d; the norms are %d and %d", x[0], x[1], got, code, first, second)
		}
	}
}

// No sum of whole multiples is nearer to 0 than the first point of the reduced pair.
func TestShortestNormsByTrying(t *testing.T) {
	points := gridPoints(7)
	for _, x := range pairsOf(gridPoints(5)) {
		want := min(exactNorm(x[0]), exactNorm(x[1]))
		for _, c := range points {
			if n := exactNorm(c); n > 0 && n < want && isSumOf(x[0], x[1], c) {
				want = n
			}
		}
		got, code := impl.ShortestNorm(x[0], x[1])
		check(t, fmt.Sprintf("ShortestNorm(%v, %v)", x[0], x[1]), got, code, want, impl.ErrNone)
	}
}

// Pairs with the determinants 1 and -1 have all points as sums.
func TestShortestNormsOfUnimodularPairs(t *testing.T) {
	seen := 0
	for _, x := range greatPairs() {
		if d := exactDeterminant(x[0], x[1]); d == 1 || d == -1 {
			got, code := impl.ShortestNorm(x[0], x[1])
			check(t, fmt.Sprintf("ShortestNorm(%v, %v)", x[0], x[1]), got, code, 1, impl.ErrNone)
			seen++
		}
	}
	if seen < 100 {
		t.Errorf("%d pairs have the determinants 1 and -1", seen)
	}
}

func TestErrorsOfPairs(t *testing.T) {
	for _, a := range []impl.Point{{0, 0}, {1, 0}, {3, -4}, {top, top}, {-top, 1}} {
		for _, bad := range badPoints() {
			checkNoPair(t, a, bad, impl.ErrInvalid)
			checkNoPair(t, bad, a, impl.ErrInvalid)
			checkNoPair(t, bad, bad, impl.ErrInvalid)
		}
		for _, k := range []int64{0, 1, -1} {
			checkNoPair(t, a, combine(k, a, 0, a), impl.ErrState)
			checkNoPair(t, combine(k, a, 0, a), a, impl.ErrState)
		}
	}
	checkNoPair(t, impl.Point{2, -4}, impl.Point{-3, 6}, impl.ErrState)
	checkNoPair(t, impl.Point{top / 2, top / 2}, impl.Point{top, top}, impl.ErrState)
	checkNoPair(t, impl.Point{0, top}, impl.Point{0, -1}, impl.ErrState)
}

func checkNoPair(t *testing.T, a impl.Point, b impl.Point, wantCode int64) {
	t.Helper()
	checkIsReduced(t, a, b, false, wantCode)
	checkReduction(t, a, b, nil, wantCode)
}

func TestReducedPairsAreNew(t *testing.T) {
	checkNew(t, func() ([]impl.Point, int64) { return impl.ReducePair(impl.Point{5, 0}, impl.Point{2, 1}) })
}
