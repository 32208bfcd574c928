package tests

import (
	"slices"
	"testing"

	"loop.example/g01297/impl"
)

func TestCornerAt(t *testing.T) {
	cases := []struct {
		x    impl.Triangle
		i    int64
		want impl.Corner
	}{
		{impl.Triangle{{0, 0}, {4, 0}, {0, 3}}, 0, corner(1, 0, 0, 1)},
		{impl.Triangle{{0, 0}, {4, 0}, {0, 3}}, 1, corner(-4, 3, -1, 0)},
		{impl.Triangle{{0, 0}, {4, 0}, {0, 3}}, 2, corner(0, -1, 4, -3)},
		// The direction is kept.
		{impl.Triangle{{0, 0}, {0, 3}, {4, 0}}, 0, corner(0, 1, 1, 0)},
		{impl.Triangle{{0, 0}, {0, 3}, {4, 0}}, 1, corner(4, -3, 0, -1)},
		{impl.Triangle{{0, 0}, {0, 3}, {4, 0}}, 2, corner(-1, 0, -4, 3)},
		{impl.Triangle{{-5, 7}, {1, -2}, {9, 3}}, 0, corner(2, -3, 7, -2)},
		{impl.Triangle{{-5, 7}, {1, -2}, {9, 3}}, 1, corner(8, 5, -2, 3)},
		{impl.Triangle{{-5, 7}, {1, -2}, {9, 3}}, 2, corner(-7, 2, -8, -5)},
		// The differences are greater than the numbers of triangles.
		{impl.Triangle{{-side, -side}, {side, 1 - side}, {1 - side, side}}, 0, corner(2000, 1, 1, 2000)},
		{impl.Triangle{{-side, -side}, {side, 1 - side}, {1 - side, side}}, 1, corner(-1, 1, -2000, -1)},
	}
	for _, c := range cases {
		got, code := impl.CornerAt(c.x, c.i)
		check(t, "CornerAt", got, code, c.want, impl.ErrNone)
	}
	for _, x := range slices.Concat(gridTriangles(2), greatTriangles(), wideTriangles()) {
		for i := range 3 {
			got, code := impl.CornerAt(x, int64(i))
			check(t, "CornerAt", got, code, cornerByHand(x, i), impl.ErrNone)
			if !impl.IsCorner(got) {
				t.Errorf("CornerAt(%v, %d) = %v, which is none", x, i, got)
			}
		}
		for _, i := range badPlaces {
			got, code := impl.CornerAt(x, i)
			check(t, "CornerAt", got, code, impl.Corner{}, impl.ErrRange)
		}
	}
}

func TestSinesOf(t *testing.T) {
	cases := []struct {
		x    impl.Triangle
		want []int64
	}{
		{impl.Triangle{{0, 0}, {1, 0}, {0, 1}}, []int64{1, 1, 1}},
		{impl.Triangle{{0, 0}, {4, 0}, {0, 3}}, []int64{1, 3, 4}},
		{impl.Triangle{{4, 0}, {0, 3}, {0, 0}}, []int64{3, 4, 1}},
		{impl.Triangle{{0, 0}, {0, 3}, {4, 0}}, []int64{1, 4, 3}},
		{impl.Triangle{{-1, -1}, {1, 0}, {0, 1}}, []int64{3, 3, 3}},
		// SineOf has no sine as great as these.
		{impl.Triangle{{-side, -side}, {side, 1 - side}, {1 - side, side}}, []int64{3999999, 2001, 2001}},
	}
	for _, c := range cases {
		got, code := impl.SinesOf(c.x)
		checkList(t, "SinesOf", got, code, c.want, impl.ErrNone)
	}
	for _, x := range slices.Concat(gridTriangles(2), greatTriangles(), wideTriangles()) {
		got, code := impl.SinesOf(x)
		var want []int64
		for i := range 3 {
			want = append(want, exactSine(cornerByHand(x, i)))
		}
		checkList(t, "SinesOf", got, code, want, impl.ErrNone)
		checkSines(t, x, got)
	}
}

// checkSines asks for what sines are: with the lengths of both sides at a point, they make the area.
func checkSines(t *testing.T, x impl.Triangle, sines []int64) {
	t.Helper()
	area, _ := impl.AreaOfTriangle(x)
	for i, sine := range sines {
		before, code := impl.LengthOf(x[i], x[(i+2)%3])
		next, other := impl.LengthOf(x[i], x[(i+1)%3])
		check(t, "AreaOfTriangle by a sine", sine*before*next, code+other, area, impl.ErrNone)
		y, _ := impl.CornerAt(x, int64(i))
		if want, code := impl.SineOf(y); code == impl.ErrNone || sine <= impl.MaxCoord {
			check(t, "SineOf the corner", sine, code, want, impl.ErrNone)
		}
	}
}
