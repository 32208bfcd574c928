package tests

import (
	"fmt"
	"slices"
	"testing"

	"loop.example/g01297/impl"
)

func checkDistance(t *testing.T, x impl.Tetra, want int64, wantCode int64) {
	t.Helper()
	got, code := impl.DistanceOfSpot(x[0], x[1], x[2], x[3])
	check(t, fmt.Sprintf("DistanceOfSpot(%v)", x), got, code, want, wantCode)
}

func TestDistanceOfSpot(t *testing.T) {
	cases := []struct {
		of   impl.Tetra
		want int64
	}{
		{impl.Tetra{{0, 0, 0}, {1, 0, 0}, {0, 1, 0}, {1, 1, 2}}, 2},
		{impl.Tetra{{0, 0, 0}, {1, 0, 0}, {0, 1, 0}, {1, 1, -2}}, 2},
		// In the plane: at one of the three spots, and elsewhere.
		{impl.Tetra{{0, 0, 0}, {1, 0, 0}, {0, 1, 0}, {0, 1, 0}}, 0},
		{impl.Tetra{{1, 0, 0}, {0, 1, 0}, {0, 0, 1}, {-19, 0, 20}}, 0},
		// Cross products with a length greater than 1.
		{impl.Tetra{{0, 0, 0}, {6, 0, 0}, {0, 10, 0}, {7, 7, 7}}, 7},
		{impl.Tetra{{20, 20, -20}, {-20, 20, -20}, {20, -20, -20}, {3, -4, 20}}, 40},
		{impl.Tetra{{2, 0, 0}, {0, 2, 0}, {0, 0, 2}, {0, 0, 0}}, 2},
		{impl.Tetra{{2, 0, 0}, {0, 2, 0}, {0, 0, 2}, {2, 2, 2}}, 4},
		{impl.Tetra{{0, 0, 0}, {1, 2, 0}, {0, 0, 3}, {5, 3, 17}}, 7},
		{impl.Tetra{{20, 20, 20}, {20, -20, -20}, {-20, 20, -20}, {-20, -20, 20}}, 80},
	}
	for _, c := range cases {
		for _, order := range ordersOf(3) {
			checkDistance(t, impl.Tetra{c.of[order[0]], c.of[order[1]], c.of[order[2]], c.of[3]}, c.want, impl.ErrNone)
		}
	}
}

// crossByHand is the cross product of the differences of the first three spots.
func crossByHand(x impl.Tetra) impl.Spot {
	a, b := minusSpot(x[1], x[0]), minusSpot(x[2], x[0])
	var cross impl.Spot
	for i, unit := range []impl.Spot{{1, 0, 0}, {0, 1, 0}, {0, 0, 1}} {
		cross[i] = determinantByHand(unit, a, b)
	}
	return cross
}

func TestDistancesAreAsDefined(t *testing.T) {
	inPlane, onLine := 0, 0
	for spots := range slices.Chunk(slices.Concat(manySpots(8000, 1, 10), manySpots(8000, 3, 11), manySpots(4000, 20, 12)), 4) {
		x := impl.Tetra(spots)
		cross := crossByHand(x)
		if cross == (impl.Spot{}) {
			checkDistance(t, x, 0, impl.ErrState)
			onLine++
			continue
		}
		want := volumeByHand(x) / divisorByCounting(divisorByCounting(cross[0], cross[1]), cross[2])
		checkDistance(t, x, want, impl.ErrNone)
		if want == 0 {
			inPlane++
		}
	}
	if inPlane == 0 || onLine == 0 {
		t.Errorf("%d spots are in the plane, and %d times three are on a line", inPlane, onLine)
	}
}

// Above a plane that lies flat, the distance is the height.
func TestMatricesKeepDistancesOfSpots(t *testing.T) {
	for spots := range slices.Chunk(manySpots(120, 6, 13), 4) {
		x := impl.Tetra(spots)
		x[0][2], x[1][2], x[2][2] = 0, 0, 0
		if crossByHand(x) == (impl.Spot{}) {
			continue
		}
		for _, m := range spaceMatrices() {
			moved := x
			for i, a := range x {
				moved[i] = movedSpot(m, a)
			}
			checkDistance(t, moved, max(x[3][2], -x[3][2]), impl.ErrNone)
		}
	}
}

func TestThreeSpotsOnALine(t *testing.T) {
	lines := [][3]impl.Spot{
		{}, {{1, 2, 3}, {1, 2, 3}, {1, 2, 3}}, {{1, 2, 3}, {1, 2, 3}, {4, 5, 7}}, {{1, 2, 3}, {4, 5, 7}, {1, 2, 3}}, {{4, 5, 7}, {1, 2, 3}, {1, 2, 3}},
		{{0, 0, 0}, {1, 2, 3}, {2, 4, 6}}, {{1, 1, 1}, {2, 3, 4}, {-1, -3, -5}}, {{20, 20, 20}, {-20, -20, -20}, {0, 0, 0}}, {{20, 0, 0}, {20, 1, 0}, {20, 20, 0}},
	}
	for _, l := range lines {
		for _, d := range []impl.Spot{{0, 0, 0}, {1, 2, 3}, {5, -6, 7}, {20, 20, -20}} {
			checkDistance(t, impl.Tetra{l[0], l[1], l[2], d}, 0, impl.ErrState)
		}
		// That all are spots is asked first.
		for _, d := range badSpots() {
			checkDistance(t, impl.Tetra{l[0], l[1], l[2], d}, 0, impl.ErrInvalid)
		}
	}
}

func TestErrorsOfDistances(t *testing.T) {
	for _, bad := range badSpots() {
		for i := range 4 {
			x := impl.Tetra{{0, 0, 0}, {1, 0, 0}, {0, 1, 0}, {1, 1, 2}}
			x[i] = bad
			checkDistance(t, x, 0, impl.ErrInvalid)
		}
		checkDistance(t, impl.Tetra{bad, bad, bad, bad}, 0, impl.ErrInvalid)
		checkDistance(t, impl.Tetra{bad, bad, bad, {0, 0, 0}}, 0, impl.ErrInvalid)
	}
}
