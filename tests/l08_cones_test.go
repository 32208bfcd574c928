package tests

import (
	"fmt"
	"slices"
	"testing"

	"loop.example/g01297/impl"
)

// someCones have determinants of both signs: regular ones, those at the limit of boxes and behind it,
// those with the greatest numbers, and many others.
func someCones() []impl.Cone {
	list := []impl.Cone{
		{{1, 0, 0}, {0, 1, 0}, {1, 1, 2}}, {{0, 1, 0}, {1, 0, 0}, {1, 1, 2}}, {{20, 20, 20}, {20, -20, 20}, {20, 20, -20}},
		{{20, 20, 20}, {20, 20, -20}, {20, -20, 20}}, {{-20, 0, 0}, {0, -20, 0}, {0, 0, -20}}, {{2, 4, 6}, {0, 3, 3}, {0, 0, 20}},
	}
	return slices.Concat(list, regularCones(), fullCones(), tooGreatCones(), manyCones(300, 3), manyCones(300, 20))
}

// regularCones have the determinants 1 and -1.
func regularCones() []impl.Cone {
	return []impl.Cone{
		{{1, 0, 0}, {0, 1, 0}, {0, 0, 1}}, {{0, 1, 0}, {1, 0, 0}, {0, 0, 1}}, {{-1, 0, 0}, {0, 1, 0}, {0, 0, 1}}, {{1, 20, 20}, {0, 1, 20}, {0, 0, 1}},
		{{9, -8, 20}, {-1, 9, 13}, {8, -7, 18}}, {{-15, -4, -2}, {-20, -8, -5}, {19, 17, 13}}, {{-3, -13, 5}, {-11, -20, -1}, {5, 4, 4}},
		{{16, 1, -14}, {12, -17, -17}, {-13, 20, 19}}, {{19, -11, 19}, {-12, -19, 14}, {12, 20, -15}}, {{-18, 18, -7}, {-7, 16, -14}, {13, 7, -20}},
	}
}

// fullCones have the determinants 400 and -400, and tooGreatCones 401 and -401, or greater ones.
func fullCones() []impl.Cone {
	return []impl.Cone{
		{{20, 0, 0}, {0, 20, 0}, {0, 0, 1}}, {{20, 0, 0}, {0, 0, 1}, {0, 20, 0}}, {{1, 0, 0}, {7, 20, 0}, {3, 11, 20}}, {{1, 0, 0}, {3, 11, 20}, {7, 20, 0}},
		{{18, 6, -10}, {5, -4, -7}, {-20, -19, -2}}, {{-3, 4, -4}, {6, -20, 0}, {4, -3, 18}}, {{7, 3, -5}, {-2, 20, 16}, {3, -1, -1}},
		{{-17, 20, -4}, {6, -7, -14}, {-14, 18, -4}}, {{14, 16, -20}, {-9, -1, 4}, {-15, 0, 2}}, {{2, 20, -6}, {12, -18, -8}, {11, -11, -7}},
		{{20, 20, 15}, {12, 16, 12}, {20, 16, 17}}, {{16, 12, 14}, {20, 12, 14}, {13, 20, 15}}, {{20, 16, 18}, {14, 15, 20}, {18, 17, 16}},
	}
}

func tooGreatCones() []impl.Cone {
	return []impl.Cone{
		{{20, 1, 0}, {-1, 20, 0}, {0, 0, 1}}, {{-1, 20, 0}, {20, 1, 0}, {0, 0, 1}}, {{-3, -20, -18}, {7, 1, 1}, {9, -19, -14}}, {{-10, -3, 5}, {-5, 1, -1}, {-3, 3, -20}},
		{{20, -18, -9}, {-18, -11, 1}, {-19, 16, 9}}, {{-11, 20, -20}, {4, 20, -13}, {0, -13, 11}},
		// The primitive rays of these have a determinant of 1, or -1.
		{{20, 0, 0}, {0, 20, 0}, {0, 0, 2}}, {{20, 0, 0}, {0, 0, 2}, {0, 20, 0}}, {{20, 0, 0}, {0, 20, 0}, {0, 0, 20}}, {{0, 0, 20}, {0, 20, 0}, {20, 0, 0}},
		{{20, 20, 20}, {20, -20, 20}, {20, 20, -20}},
	}
}

func TestIsCone(t *testing.T) {
	for _, c := range someCones() {
		if !impl.IsCone(c) {
			t.Errorf("%v is a cone", c)
		}
	}
	for _, c := range badCones() {
		if impl.IsCone(c) {
			t.Errorf("%v is no cone", c)
		}
	}
	rays := gridSpots(1)
	for _, a := range rays {
		for _, b := range rays {
			for _, c := range rays {
				if got, want := impl.IsCone(impl.Cone{a, b, c}), determinantByHand(a, b, c) != 0; got != want {
					t.Errorf("IsCone(%v, %v, %v) = %v", a, b, c, got)
				}
			}
		}
	}
}

func TestCoordinatesIn(t *testing.T) {
	cases := []struct {
		of   impl.Cone
		a    impl.Spot
		want []int64
	}{
		{impl.Cone{{1, 0, 0}, {0, 1, 0}, {1, 1, 2}}, impl.Spot{1, 1, 1}, []int64{1, 1, 1}},
		{impl.Cone{{0, 1, 0}, {1, 0, 0}, {1, 1, 2}}, impl.Spot{1, 2, 1}, []int64{3, 1, 1}},
		{impl.Cone{{1, 0, 0}, {0, 1, 0}, {1, 1, 2}}, impl.Spot{1, 2, 1}, []int64{1, 3, 1}},
		{impl.Cone{{1, 0, 0}, {0, 1, 0}, {1, 1, 2}}, impl.Spot{0, 0, 1}, []int64{-1, -1, 1}},
		{impl.Cone{{1, 0, 0}, {0, 1, 0}, {1, 1, 2}}, impl.Spot{0, 0, 0}, []int64{0, 0, 0}},
		{impl.Cone{{1, 0, 0}, {0, 0, 1}, {0, 1, 0}}, impl.Spot{20, -19, 18}, []int64{20, 18, -19}},
		{impl.Cone{{2, 0, 0}, {0, 3, 0}, {0, 0, -5}}, impl.Spot{1, 1, 1}, []int64{15, 10, -6}},
	}
	for _, c := range cases {
		got, code := impl.CoordinatesIn(c.of, c.a)
		checkList(t, fmt.Sprintf("CoordinatesIn(%v, %v)", c.of, c.a), got, code, c.want, impl.ErrNone)
	}
}

// Only the coordinates make |D| times the spot of the rays.
func TestCoordinatesTellSpots(t *testing.T) {
	for _, c := range someCones() {
		for _, a := range slices.Concat(wideSpots(), manySpots(40, 20, 5), c[:]) {
			k, code := impl.CoordinatesIn(c, a)
			if len(k) != 3 || code != impl.ErrNone {
				t.Fatalf("CoordinatesIn(%v, %v) = %v, %d", c, a, k, code)
			}
			for i, n := range a {
				if sum := k[0]*c[0][i] + k[1]*c[1][i] + k[2]*c[2][i]; sum != sizeByHand(c)*n {
					t.Errorf("CoordinatesIn(%v, %v) = %v, which is %d at %d", c, a, k, sum, i)
				}
			}
		}
	}
}

func TestIsInCone(t *testing.T) {
	c := impl.Cone{{1, 0, 0}, {1, 3, 0}, {1, 1, 4}}
	cases := map[impl.Spot]bool{
		// Inside, on the border, on the rays, 0.
		{1, 1, 1}: true, {20, 7, 5}: true, {2, 1, 0}: true, {2, 3, 0}: true, {2, 1, 4}: true, {2, 4, 4}: true, {1, 0, 0}: true, {20, 0, 0}: true,
		{1, 3, 0}: true, {2, 6, 0}: true, {1, 1, 4}: true, {5, 5, 20}: true, {0, 0, 0}: true,
		// Outside: behind each of the planes, and opposite to all.
		{2, 1, -1}: false, {1, 4, 0}: false, {1, -1, 0}: false, {1, 0, 1}: false, {0, 1, 1}: false, {-1, 0, 0}: false, {-1, -1, -1}: false, {1, 1, 5}: false,
	}
	for _, order := range ordersOf(3) {
		turned := impl.Cone{c[order[0]], c[order[1]], c[order[2]]}
		for a, want := range cases {
			got, code := impl.IsInCone(turned, a)
			check(t, fmt.Sprintf("IsInCone(%v, %v)", turned, a), got, code, want, impl.ErrNone)
		}
	}
}

func TestSpotsOfManyCones(t *testing.T) {
	for _, c := range someCones() {
		for _, a := range slices.Concat(gridSpots(1), manySpots(40, 20, 6), c[:]) {
			want := coordinatesByHand(c, a)
			got, code := impl.CoordinatesIn(c, a)
			checkList(t, fmt.Sprintf("CoordinatesIn(%v, %v)", c, a), got, code, want, impl.ErrNone)
			in, code := impl.IsInCone(c, a)
			check(t, fmt.Sprintf("IsInCone(%v, %v)", c, a), in, code, slices.Min(want) >= 0, impl.ErrNone)
		}
	}
}

func TestIsRegularCone(t *testing.T) {
	for _, c := range slices.Concat(someCones(), manyCones(3000, 1)) {
		got, code := impl.IsRegularCone(c)
		check(t, fmt.Sprintf("IsRegularCone(%v)", c), got, code, sizeByHand(c) == 1, impl.ErrNone)
	}
	for _, c := range regularCones() {
		got, code := impl.IsRegularCone(c)
		check(t, fmt.Sprintf("IsRegularCone(%v)", c), got, code, true, impl.ErrNone)
	}
}

func TestErrorsOfCones(t *testing.T) {
	for _, c := range badCones() {
		checkSpotErrors(t, c, impl.Spot{1, 1, 1})
		checkSpotErrors(t, c, impl.Spot{21, 0, 0})
		regular, code := impl.IsRegularCone(c)
		check(t, fmt.Sprintf("IsRegularCone(%v)", c), regular, code, false, impl.ErrInvalid)
		box, code := impl.BoxOf(c)
		checkList(t, fmt.Sprintf("BoxOf(%v)", c), box, code, nil, impl.ErrInvalid)
		basis, code := impl.HilbertBasis(c)
		checkList(t, fmt.Sprintf("HilbertBasis(%v)", c), basis, code, nil, impl.ErrInvalid)
	}
	for _, a := range badSpots() {
		checkSpotErrors(t, impl.Cone{{1, 0, 0}, {0, 1, 0}, {1, 1, 2}}, a)
		checkSpotErrors(t, impl.Cone{{20, 0, 0}, {0, 0, 20}, {0, 20, 0}}, a)
	}
}

func checkSpotErrors(t *testing.T, c impl.Cone, a impl.Spot) {
	t.Helper()
	k, code := impl.CoordinatesIn(c, a)
	checkList(t, fmt.Sprintf("CoordinatesIn(%v, %v)", c, a), k, code, nil, impl.ErrInvalid)
	in, code := impl.IsInCone(c, a)
	check(t, fmt.Sprintf("IsInCone(%v, %v)", c, a), in, code, false, impl.ErrInvalid)
}

func TestCoordinatesAreNew(t *testing.T) {
	checkNew(t, func() ([]int64, int64) {
		return impl.CoordinatesIn(impl.Cone{{1, 0, 0}, {0, 1, 0}, {1, 1, 2}}, impl.Spot{3, 2, 1})
	})
}
