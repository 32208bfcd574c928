package tests

import (
	"fmt"
	"slices"
	"testing"

	"loop.example/g01297/impl"
)

func checkComparison(t *testing.T, x impl.Point, y impl.Point, want int64, wantCode int64) {
	t.Helper()
	got, code := impl.CompareRatios(x[0], x[1], y[0], y[1])
	check(t, fmt.Sprintf("CompareRatios(%d, %d, %d, %d)", x[0], x[1], y[0], y[1]), got, code, want, wantCode)
}

func TestCompareRatios(t *testing.T) {
	cases := []struct {
		x, y impl.Point
		want int64
	}{
		{impl.Point{1, 2}, impl.Point{2, 3}, -1},
		{impl.Point{-1, 2}, impl.Point{-2, 3}, 1},
		{impl.Point{0, 1}, impl.Point{0, top}, 0},
		{impl.Point{0, 7}, impl.Point{1, top}, -1},
		{impl.Point{0, 7}, impl.Point{-1, top}, 1},
		// Equal ones with different numbers.
		{impl.Point{1, 2}, impl.Point{2, 4}, 0},
		{impl.Point{-6, 4}, impl.Point{-9, 6}, 0},
		{impl.Point{1, 1}, impl.Point{top, top}, 0},
		{impl.Point{-1, 1}, impl.Point{-top, top}, 0},
		{impl.Point{top, 2}, impl.Point{top / 2, 1}, 0},
		{impl.Point{333333, 999999}, impl.Point{1, 3}, 0},
		// Different by little.
		{impl.Point{top - 1, top}, impl.Point{top - 2, top - 1}, 1},
		{impl.Point{1 - top, top}, impl.Point{2 - top, top - 1}, -1},
		{impl.Point{1, top}, impl.Point{1, top - 1}, -1},
		{impl.Point{-1, top}, impl.Point{-1, top - 1}, 1},
		{impl.Point{top, top - 1}, impl.Point{top - 1, top - 2}, -1},
		{impl.Point{333333, top}, impl.Point{1, 3}, -1},
		{impl.Point{333334, top}, impl.Point{1, 3}, 1},
		// Different by much.
		{impl.Point{top, 1}, impl.Point{-top, 1}, 1},
		{impl.Point{top, 1}, impl.Point{1, top}, 1},
		{impl.Point{-top, 1}, impl.Point{-1, top}, -1},
		{impl.Point{top, top}, impl.Point{top, 1}, -1},
		{impl.Point{top, 1}, impl.Point{top, 1}, 0},
	}
	for _, c := range cases {
		checkComparison(t, c.x, c.y, c.want, impl.ErrNone)
		checkComparison(t, c.y, c.x, -c.want, impl.ErrNone)
	}
}

func TestComparisonsOfManyRatios(t *testing.T) {
	for _, list := range [][]impl.Point{gridRatios(6, 6), everyFew(greatRatios(), 3)} {
		for _, x := range list {
			for _, y := range list {
				checkComparison(t, x, y, int64(exactRatio(x).Cmp(exactRatio(y))), impl.ErrNone)
			}
		}
	}
}

// Fractions with the determinant 1 differ by as little as fractions with these numbers can.
func TestComparisonsOfNeighbours(t *testing.T) {
	for _, x := range greatRatios() {
		all := convergentsByHand(x)
		for i, y := range all[1:] {
			want := int64(i%2*2 - 1)
			checkComparison(t, all[i], y, want, impl.ErrNone)
			checkComparison(t, y, all[i], -want, impl.ErrNone)
		}
		checkComparison(t, x, all[len(all)-1], 0, impl.ErrNone)
	}
}

func TestErrorsOfComparisons(t *testing.T) {
	for _, bad := range noRatios() {
		for _, good := range []impl.Point{{0, 1}, {1, 1}, {-top, top}} {
			checkComparison(t, bad, good, 0, impl.ErrRange)
			checkComparison(t, good, bad, 0, impl.ErrRange)
		}
		checkComparison(t, bad, bad, 0, impl.ErrRange)
	}
}

func checkConvergent(t *testing.T, x impl.Point, y impl.Point, want bool, wantCode int64) {
	t.Helper()
	got, code := impl.IsConvergent(x[0], x[1], y[0], y[1])
	check(t, fmt.Sprintf("IsConvergent(%d, %d, %d, %d)", x[0], x[1], y[0], y[1]), got, code, want, wantCode)
}

func TestIsConvergent(t *testing.T) {
	cases := []struct {
		x, y impl.Point
		want bool
	}{
		{impl.Point{7, 5}, impl.Point{1, 1}, true},
		{impl.Point{7, 5}, impl.Point{3, 2}, true},
		{impl.Point{7, 5}, impl.Point{7, 5}, true},
		{impl.Point{7, 5}, impl.Point{4, 3}, false},
		{impl.Point{7, 5}, impl.Point{2, 1}, false},
		{impl.Point{7, 5}, impl.Point{-3, 2}, false},
		// Multiples of the numbers are not those of convergents.
		{impl.Point{7, 5}, impl.Point{6, 4}, false},
		{impl.Point{7, 5}, impl.Point{14, 10}, false},
		{impl.Point{7, 5}, impl.Point{2, 2}, false},
		{impl.Point{14, 10}, impl.Point{7, 5}, true},
		{impl.Point{14, 10}, impl.Point{14, 10}, false},
		{impl.Point{top, top}, impl.Point{1, 1}, true},
		{impl.Point{top, top}, impl.Point{top, top}, false},
		// Whole parts, rounded down, and ratios themselves.
		{impl.Point{-7, 3}, impl.Point{-3, 1}, true},
		{impl.Point{-7, 3}, impl.Point{-2, 1}, true},
		{impl.Point{-7, 3}, impl.Point{-7, 3}, true},
		{impl.Point{-7, 3}, impl.Point{7, 3}, false},
		{impl.Point{-1, 2}, impl.Point{-1, 1}, true},
		{impl.Point{-1, 2}, impl.Point{0, 1}, false},
		{impl.Point{0, top}, impl.Point{0, 1}, true},
		{impl.Point{0, top}, impl.Point{0, top}, false},
		{impl.Point{top, 1}, impl.Point{top, 1}, true},
		{impl.Point{-top, 1}, impl.Point{-top, 1}, true},
		{impl.Point{1, top}, impl.Point{1, top}, true},
		{impl.Point{1, top}, impl.Point{0, 1}, true},
		{impl.Point{1, top}, impl.Point{1, top - 1}, false},
		{impl.Point{top - 1, top}, impl.Point{1, 1}, true},
		{impl.Point{top - 1, top}, impl.Point{0, 1}, true},
		{impl.Point{top - 1, top}, impl.Point{top - 2, top - 1}, false},
	}
	for _, c := range cases {
		checkConvergent(t, c.x, c.y, c.want, impl.ErrNone)
	}
}

func TestConvergentsOfManyRatios(t *testing.T) {
	for _, x := range gridRatios(10, 9) {
		all := convergentsByHand(x)
		for _, y := range gridRatios(11, 10) {
			checkConvergent(t, x, y, slices.Contains(all, y), impl.ErrNone)
		}
	}
	for _, x := range greatRatios() {
		all := convergentsByHand(x)
		for _, y := range all {
			checkConvergent(t, x, y, true, impl.ErrNone)
			for _, z := range []impl.Point{{y[0], y[1] + 1}, {y[0] + 1, y[1]}, {y[0] - 1, y[1]}, {2 * y[0], 2 * y[1]}} {
				if impl.IsPoint(z) {
					checkConvergent(t, x, z, slices.Contains(all, z), impl.ErrNone)
				}
			}
		}
	}
}

func TestErrorsOfIsConvergent(t *testing.T) {
	for _, bad := range noRatios() {
		for _, good := range []impl.Point{{0, 1}, {7, 5}, {-top, top}} {
			checkConvergent(t, bad, good, false, impl.ErrRange)
			checkConvergent(t, good, bad, false, impl.ErrRange)
		}
		checkConvergent(t, bad, bad, false, impl.ErrRange)
	}
}
