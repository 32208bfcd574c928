package tests

import (
	"slices"
	"testing"

	"loop.example/g01297/impl"
)

func TestGeodesicOf(t *testing.T) {
	zero := impl.Point{0, 1}
	cases := []struct{ list []impl.Point }{
		// Equal fractions, and neighbours.
		{[]impl.Point{infinity}},
		{[]impl.Point{zero}},
		{[]impl.Point{{-3, 7}}},
		{[]impl.Point{{top, top - 1}}},
		{[]impl.Point{{-1, top}}},
		{[]impl.Point{infinity, {5, 1}}},
		{[]impl.Point{{-5, 1}, infinity}},
		{[]impl.Point{{1, 2}, {1, 3}}},
		{[]impl.Point{zero, {1, top}}},
		// From and to 1 / 0; the parents of halves have the same level.
		{[]impl.Point{infinity, zero, {1, 2}}},
		{[]impl.Point{infinity, {-1, 1}, {-1, 2}}},
		{[]impl.Point{infinity, {7, 1}, {15, 2}}},
		{[]impl.Point{infinity, zero, {1, 3}}},
		{[]impl.Point{infinity, {1, 1}, {2, 3}}},
		{[]impl.Point{infinity, zero, {1, 3}, {2, 5}}},
		{[]impl.Point{infinity, zero, {1, 2}, {3, 7}}},
		{[]impl.Point{infinity, zero, {1, 3}, {2, 5}, {5, 12}}},
		{[]impl.Point{{1, 2}, {1, 1}, infinity}},
		{[]impl.Point{zero, {1, 3}, {2, 5}}},
		// P or Q is exactly MaxCoord.
		{[]impl.Point{infinity, {top, 1}}},
		{[]impl.Point{infinity, {-top, 1}}},
		{[]impl.Point{infinity, zero, {1, top}}},
		{[]impl.Point{infinity, zero, {-1, top}}},
		{[]impl.Point{{1, top}, zero, infinity}},
		{[]impl.Point{infinity, {1, 1}, {top, top - 1}}},
		{[]impl.Point{infinity, {-1, 1}, {1 - top, top}}},
		{[]impl.Point{zero, {-1, 1}, {-top, top - 1}}},
	}
	for _, c := range cases {
		a, b := c.list[0], c.list[len(c.list)-1]
		got, code := impl.GeodesicOf(a, b)
		checkList(t, "GeodesicOf", got, code, c.list, impl.ErrNone)
		n, code := impl.FareyDistance(a, b)
		check(t, "FareyDistance", n, code, int64(len(c.list)-1), impl.ErrNone)
	}
}

func TestGreatPOrQIsErrLimit(t *testing.T) {
	pairs := [][2]impl.Point{
		// Q is greater by one in the first ones, P in none without Q.
		{{1, top}, {-1, 1}}, {{-1, 1}, {1, top}}, {{top, 1}, {-1, 1}}, {{-1, top}, {1, 1}}, {{-top, 1}, {1, 1}},
		{{top, 1}, {-top, 1}}, {{1, top}, {-1, top}}, {{top, top - 1}, {-1, 1}}, {{top - 1, top}, {-1, 1}},
		{{top, top - 1}, {top - 1, top}}, {{top, 999983}, {-999983, top}}, {{832040, 514229}, {-514229, 832040}},
	}
	for _, x := range pairs {
		if _, small := seenFrom(x[0], x[1]); small {
			t.Errorf("P and Q of %v are small", x)
		}
		checkTwoLimits(t, x[0], x[1])
	}
}

// checkTwoLimits asks for ErrLimit of distances and geodesics.
func checkTwoLimits(t *testing.T, a impl.Point, b impl.Point) {
	t.Helper()
	n, code := impl.FareyDistance(a, b)
	check(t, "FareyDistance", n, code, 0, impl.ErrLimit)
	list, code := impl.GeodesicOf(a, b)
	checkList(t, "GeodesicOf", list, code, nil, impl.ErrLimit)
}

// checkGeodesic asks for the geodesic that is told: from a to b by neighbours, with as many steps as
// the distance.
func checkGeodesic(t *testing.T, a impl.Point, b impl.Point) {
	t.Helper()
	if _, small := seenFrom(a, b); !small {
		checkTwoLimits(t, a, b)
		return
	}
	list, code := impl.GeodesicOf(a, b)
	checkList(t, "GeodesicOf", list, code, geodesicByHand(a, b), impl.ErrNone)
	n, code := impl.FareyDistance(a, b)
	check(t, "FareyDistance", n, code, int64(len(list)-1), impl.ErrNone)
	if len(list) == 0 || list[0] != a || list[len(list)-1] != b {
		t.Fatalf("GeodesicOf(%v, %v) = %v", a, b, list)
	}
	for i, c := range list {
		if !impl.IsFraction(c) || i > 0 && !areExactNeighbours(list[i-1], c) {
			t.Errorf("GeodesicOf(%v, %v) = %v", a, b, list)
		}
	}
}

// TestDistancesAreShortest counts steps among all small fractions: shortest ways need no greater ones.
func TestDistancesAreShortest(t *testing.T) {
	all := gridFractions(9)
	for _, a := range all {
		steps := stepsByLayers(a, all)
		for _, b := range all {
			n, code := impl.FareyDistance(a, b)
			check(t, "FareyDistance", n, code, steps[b], impl.ErrNone)
			checkGeodesic(t, a, b)
		}
	}
}

func TestGeodesicsOfGreatFractions(t *testing.T) {
	for _, a := range greatFractions() {
		for _, b := range greatFractions() {
			checkGeodesic(t, a, b)
		}
	}
	small := gridFractions(4)
	for i, a := range manyFractions(1500, top) {
		checkGeodesic(t, infinity, a)
		checkGeodesic(t, a, small[i%len(small)])
		checkGeodesic(t, small[i%len(small)], a)
	}
	list := manyFractions(120, 700)
	for _, a := range list {
		for _, b := range list {
			checkGeodesic(t, a, b)
		}
	}
}

// TestLongGeodesics goes to fractions whose expansions have only numbers from 1 to 3 behind the first
// one: ties and the lesser level on either side are met at many places.
func TestLongGeodesics(t *testing.T) {
	longest := int64(0)
	for k := range 6561 {
		list := []int64{int64(k%3) - 1}
		for rest := k; len(list) < 9; rest /= 3 {
			list = append(list, 1+int64(rest%3))
		}
		p, q, _ := impl.FractionOf(list)
		checkGeodesic(t, infinity, impl.Point{p, q})
		n, _ := impl.FareyDistance(infinity, impl.Point{p, q})
		longest = max(longest, n)
	}
	if longest != 9 {
		t.Errorf("the longest geodesic has %d steps", longest)
	}
}

func TestApplyToFraction(t *testing.T) {
	turn := impl.Matrix{{0, -1}, {1, 0}}
	cases := []struct {
		m    impl.Matrix
		a    impl.Point
		want impl.Point
		code int64
	}{
		{impl.Matrix{{1, 0}, {0, 1}}, impl.Point{-3, 7}, impl.Point{-3, 7}, impl.ErrNone},
		{turn, impl.Point{2, 5}, impl.Point{-5, 2}, impl.ErrNone},
		{turn, infinity, impl.Point{0, 1}, impl.ErrNone},
		{turn, impl.Point{0, 1}, infinity, impl.ErrNone},
		{impl.Matrix{{-1, 0}, {0, -1}}, impl.Point{-3, 7}, impl.Point{-3, 7}, impl.ErrNone},
		{impl.Matrix{{-1, 0}, {0, -1}}, infinity, infinity, impl.ErrNone},
		// The determinant -1.
		{impl.Matrix{{0, 1}, {1, 0}}, impl.Point{-3, 7}, impl.Point{-7, 3}, impl.ErrNone},
		{impl.Matrix{{-1, 0}, {0, 1}}, impl.Point{3, 7}, impl.Point{-3, 7}, impl.ErrNone},
		{impl.Matrix{{-1, 0}, {0, 1}}, infinity, infinity, impl.ErrNone},
		// The determinants 0, 2 and -2, where the point would be too great also.
		{impl.Matrix{}, impl.Point{3, 7}, impl.Point{}, impl.ErrState},
		{impl.Matrix{{1, 1}, {1, 1}}, impl.Point{3, 7}, impl.Point{}, impl.ErrState},
		{impl.Matrix{{2, 0}, {0, 1}}, impl.Point{3, 7}, impl.Point{}, impl.ErrState},
		{impl.Matrix{{0, 1}, {2, 0}}, impl.Point{3, 7}, impl.Point{}, impl.ErrState},
		{impl.Matrix{{2, 0}, {0, 1}}, impl.Point{top, 1}, impl.Point{}, impl.ErrState},
		{impl.Matrix{{top, top}, {top, top}}, impl.Point{top, 1}, impl.Point{}, impl.ErrState},
		// Just a point, and one more, by either number and sign.
		{impl.Matrix{{1, 1}, {0, 1}}, impl.Point{top - 1, 1}, impl.Point{top, 1}, impl.ErrNone},
		{impl.Matrix{{1, 1}, {0, 1}}, impl.Point{top, 1}, impl.Point{}, impl.ErrLimit},
		{impl.Matrix{{1, -1}, {0, 1}}, impl.Point{-top, 1}, impl.Point{}, impl.ErrLimit},
		{impl.Matrix{{1, 0}, {1, 1}}, impl.Point{1, top - 1}, impl.Point{1, top}, impl.ErrNone},
		{impl.Matrix{{1, 0}, {1, 1}}, impl.Point{1, top}, impl.Point{}, impl.ErrLimit},
		{impl.Matrix{{-1, 0}, {-1, -1}}, impl.Point{1, top - 1}, impl.Point{1, top}, impl.ErrNone},
		{impl.Matrix{{-1, 0}, {-1, -1}}, impl.Point{1, top}, impl.Point{}, impl.ErrLimit},
		{impl.Matrix{{top, top - 1}, {1, 1}}, impl.Point{0, 1}, impl.Point{top - 1, 1}, impl.ErrNone},
		{impl.Matrix{{top, top - 1}, {1, 1}}, impl.Point{top, 1}, impl.Point{}, impl.ErrLimit},
		{impl.Matrix{{top, top - 1}, {top - 1, top - 2}}, impl.Point{top, top - 1}, impl.Point{}, impl.ErrLimit},
		{impl.Matrix{{top - 2, 1 - top}, {1 - top, top}}, impl.Point{top, top - 1}, infinity, impl.ErrNone},
	}
	for _, c := range cases {
		got, code := impl.ApplyToFraction(c.m, c.a)
		check(t, "ApplyToFraction", got, code, c.want, c.code)
	}
	for _, m := range badMatrices() {
		for _, a := range slices.Concat([]impl.Point{infinity, {3, 7}}, noFractions(), badPoints()[:6]) {
			got, code := impl.ApplyToFraction(m, a)
			check(t, "ApplyToFraction", got, code, impl.Point{}, impl.ErrInvalid)
		}
	}
}

func TestMatricesLeadFractions(t *testing.T) {
	for _, m := range gridMatrices(2) {
		d := exactDeterminant(impl.Point(m[0]), impl.Point(m[1]))
		for _, a := range slices.Concat(gridFractions(4), []impl.Point{{top / 4, 1}, {-1, top / 4}}) {
			got, code := impl.ApplyToFraction(m, a)
			if d != 1 && d != -1 {
				check(t, "ApplyToFraction", got, code, impl.Point{}, impl.ErrState)
				continue
			}
			check(t, "ApplyToFraction", got, code, fractionByHand(movePoint(m, a, impl.Point{})), impl.ErrNone)
		}
	}
}

func TestUnimodularMatricesKeepDistances(t *testing.T) {
	list := gridFractions(5)
	for _, m := range unimodularMatrices(3) {
		for i, a := range list {
			b := list[(i*7+3)%len(list)]
			want, code := impl.FareyDistance(a, b)
			c, _ := impl.ApplyToFraction(m, a)
			d, _ := impl.ApplyToFraction(m, b)
			got, _ := impl.FareyDistance(c, d)
			check(t, "FareyDistance of images", got, code, want, impl.ErrNone)
		}
	}
}
