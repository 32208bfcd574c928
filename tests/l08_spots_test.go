package tests

import (
	"fmt"
	"slices"
	"testing"

	"loop.example/g01297/impl"
)

func TestLimitsOfSpots(t *testing.T) {
	if impl.MaxSpot != 20 || impl.MaxBox != 400 {
		t.Errorf("MaxSpot, MaxBox = %d, %d; want 20, 400", impl.MaxSpot, impl.MaxBox)
	}
}

func TestIsSpot(t *testing.T) {
	for _, a := range slices.Concat(gridSpots(3), wideSpots(), manySpots(1000, 20, 1)) {
		if !impl.IsSpot(a) {
			t.Errorf("%v is a spot", a)
		}
	}
	for _, a := range badSpots() {
		if impl.IsSpot(a) {
			t.Errorf("%v is no spot", a)
		}
	}
}

// Spots at the limit, and beyond it, by one number alone.
func TestEachNumberOfASpotHasTheLimit(t *testing.T) {
	for i := range 3 {
		for n := int64(-25); n <= 25; n++ {
			a := impl.Spot{20, -20, 0}
			a[i] = n
			if got, want := impl.IsSpot(a), n >= -20 && n <= 20; got != want {
				t.Errorf("IsSpot(%v) = %v", a, got)
			}
		}
	}
}

func TestCrossOf(t *testing.T) {
	cases := []struct {
		a, b impl.Spot
		want []int64
	}{
		{impl.Spot{1, 0, 0}, impl.Spot{0, 1, 0}, []int64{0, 0, 1}},
		{impl.Spot{0, 1, 0}, impl.Spot{1, 0, 0}, []int64{0, 0, -1}},
		{impl.Spot{0, 1, 0}, impl.Spot{0, 0, 1}, []int64{1, 0, 0}},
		{impl.Spot{0, 0, 1}, impl.Spot{1, 0, 0}, []int64{0, 1, 0}},
		{impl.Spot{1, 2, 3}, impl.Spot{4, 5, 6}, []int64{-3, 6, -3}},
		{impl.Spot{1, 2, 3}, impl.Spot{-2, -4, -6}, []int64{0, 0, 0}},
		{impl.Spot{0, 0, 0}, impl.Spot{4, 5, 6}, []int64{0, 0, 0}},
		{impl.Spot{20, 20, 20}, impl.Spot{-20, 20, -20}, []int64{-800, 0, 800}},
		{impl.Spot{20, -20, 20}, impl.Spot{20, 20, -20}, []int64{0, 800, 800}},
	}
	for _, c := range cases {
		got, code := impl.CrossOf(c.a, c.b)
		checkList(t, fmt.Sprintf("CrossOf(%v, %v)", c.a, c.b), got, code, c.want, impl.ErrNone)
	}
	for pair := range slices.Chunk(slices.Concat(manySpots(4000, 20, 2), wideSpots(), gridSpots(2)), 2) {
		a, b := pair[0], pair[len(pair)-1]
		want := []int64{a[1]*b[2] - a[2]*b[1], a[2]*b[0] - a[0]*b[2], a[0]*b[1] - a[1]*b[0]}
		got, code := impl.CrossOf(a, b)
		checkList(t, fmt.Sprintf("CrossOf(%v, %v)", a, b), got, code, want, impl.ErrNone)
	}
}

func TestDeterminantOfSpots(t *testing.T) {
	cases := []struct {
		a, b, c impl.Spot
		want    int64
	}{
		{impl.Spot{1, 0, 0}, impl.Spot{0, 1, 0}, impl.Spot{1, 1, 2}, 2},
		{impl.Spot{0, 1, 0}, impl.Spot{1, 0, 0}, impl.Spot{1, 1, 2}, -2},
		{impl.Spot{2, 3, 5}, impl.Spot{7, 11, 13}, impl.Spot{17, 19, 20}, -81},
		{impl.Spot{1, 2, 3}, impl.Spot{4, 5, 6}, impl.Spot{7, 8, 9}, 0},
		{impl.Spot{20, 20, 20}, impl.Spot{20, -20, 20}, impl.Spot{20, 20, -20}, 32000},
		{impl.Spot{20, 20, -20}, impl.Spot{20, -20, 20}, impl.Spot{20, 20, 20}, -32000},
		{impl.Spot{0, 0, 0}, impl.Spot{1, 2, 3}, impl.Spot{4, 5, 7}, 0},
	}
	for _, c := range cases {
		got, code := impl.DeterminantOfSpots(c.a, c.b, c.c)
		check(t, fmt.Sprintf("DeterminantOfSpots(%v, %v, %v)", c.a, c.b, c.c), got, code, c.want, impl.ErrNone)
	}
	for rays := range slices.Chunk(slices.Concat(manySpots(6000, 20, 3), wideSpots(), gridSpots(1)), 3) {
		want := determinantByHand(rays[0], rays[1], rays[2])
		got, code := impl.DeterminantOfSpots(rays[0], rays[1], rays[2])
		check(t, fmt.Sprintf("DeterminantOfSpots(%v)", rays), got, code, want, impl.ErrNone)
	}
}

func TestLengthOfSpot(t *testing.T) {
	cases := map[impl.Spot]int64{
		{0, 0, 0}: 0, {1, 0, 0}: 1, {0, -7, 0}: 7, {0, 0, 20}: 20, {-20, -20, -20}: 20, {4, 6, -2}: 2,
		{6, 10, 15}: 1, {-6, -10, -15}: 1, {12, 18, 0}: 6, {0, 12, 18}: 6, {12, 0, 18}: 6, {20, 0, -16}: 4, {20, 15, 19}: 1,
	}
	for a, want := range cases {
		got, code := impl.LengthOfSpot(a)
		check(t, fmt.Sprintf("LengthOfSpot(%v)", a), got, code, want, impl.ErrNone)
	}
	for _, a := range slices.Concat(gridSpots(6), wideSpots(), manySpots(2000, 20, 4)) {
		want := divisorByCounting(divisorByCounting(a[0], a[1]), a[2])
		got, code := impl.LengthOfSpot(a)
		check(t, fmt.Sprintf("LengthOfSpot(%v)", a), got, code, want, impl.ErrNone)
	}
}

func TestErrorsOfSpots(t *testing.T) {
	good := []impl.Spot{{1, 0, 0}, {0, 1, 0}, {20, -20, 7}}
	for _, bad := range badSpots() {
		length, code := impl.LengthOfSpot(bad)
		check(t, fmt.Sprintf("LengthOfSpot(%v)", bad), length, code, 0, impl.ErrInvalid)
		for i := range 3 {
			spots := slices.Clone(good)
			spots[i] = bad
			d, code := impl.DeterminantOfSpots(spots[0], spots[1], spots[2])
			check(t, fmt.Sprintf("DeterminantOfSpots(%v)", spots), d, code, 0, impl.ErrInvalid)
		}
		for _, pair := range [][2]impl.Spot{{bad, good[2]}, {good[2], bad}, {bad, bad}, {bad, {}}, {{}, bad}} {
			cross, code := impl.CrossOf(pair[0], pair[1])
			checkList(t, fmt.Sprintf("CrossOf(%v)", pair), cross, code, nil, impl.ErrInvalid)
		}
	}
}

func TestCrossProductsAreNew(t *testing.T) {
	checkNew(t, func() ([]int64, int64) { return impl.CrossOf(impl.Spot{1, 2, 3}, impl.Spot{3, 2, 2}) })
}
