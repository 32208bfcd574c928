package tests

import (
	"testing"

	"loop.example/g01297/impl"
)

const top = impl.MaxCoord

func TestCodesAndLimits(t *testing.T) {
	got := [...]int64{
		impl.ErrNone, impl.ErrInvalid, impl.ErrRange, impl.ErrLimit, impl.ErrNotFound,
		impl.ErrState, impl.ErrSyntax, impl.MaxCoord, impl.MaxPoints, impl.MaxTerms,
	}
	want := [...]int64{0, 1, 2, 3, 4, 5, 6, 1000000, 100, 60}
	if got != want {
		t.Errorf("codes and limits are %v; want %v", got, want)
	}
}

func TestIsPoint(t *testing.T) {
	for _, a := range []impl.Point{{}, {top, top}, {-top, top}, {top, -top}, {-top, -top}, {3, -2}} {
		if !impl.IsPoint(a) {
			t.Errorf("IsPoint(%v) is false", a)
		}
	}
	for _, a := range badPoints() {
		if impl.IsPoint(a) {
			t.Errorf("IsPoint(%v) is true", a)
		}
	}
}

func TestAddPoints(t *testing.T) {
	cases := []struct {
		a, b impl.Point
		k    int64
		want impl.Point
		code int64
	}{
		{impl.Point{1, 2}, impl.Point{3, -1}, 2, impl.Point{7, 0}, impl.ErrNone},
		{impl.Point{1, 2}, impl.Point{3, -1}, 0, impl.Point{1, 2}, impl.ErrNone},
		{impl.Point{1, 2}, impl.Point{1, 2}, -1, impl.Point{}, impl.ErrNone},
		{impl.Point{}, impl.Point{}, top, impl.Point{}, impl.ErrNone},
		{impl.Point{}, impl.Point{1, -1}, top, impl.Point{top, -top}, impl.ErrNone},
		{impl.Point{}, impl.Point{1, -1}, -top, impl.Point{-top, top}, impl.ErrNone},
		{impl.Point{top, -top}, impl.Point{-2, 2}, top, impl.Point{-top, top}, impl.ErrNone},
		{impl.Point{1, 0}, impl.Point{1, -1}, top, impl.Point{}, impl.ErrLimit},
		{impl.Point{0, -1}, impl.Point{0, -1}, top, impl.Point{}, impl.ErrLimit},
		{impl.Point{top, top}, impl.Point{top, top}, top, impl.Point{}, impl.ErrLimit},
		{impl.Point{top, top}, impl.Point{top, top}, top + 1, impl.Point{}, impl.ErrRange},
	}
	for _, c := range cases {
		got, code := impl.AddPoints(c.a, c.b, c.k)
		check(t, "AddPoints", got, code, c.want, c.code)
	}
	for _, k := range tooGreat {
		got, code := impl.AddPoints(impl.Point{1, 2}, impl.Point{}, k)
		check(t, "AddPoints with such a number", got, code, impl.Point{}, impl.ErrRange)
	}
}

func TestPointsAreAskedFirst(t *testing.T) {
	good := impl.Point{3, 2}
	for _, bad := range badPoints() {
		for _, k := range []int64{1, top + 1} {
			got, code := impl.AddPoints(bad, good, k)
			check(t, "AddPoints", got, code, impl.Point{}, impl.ErrInvalid)
			got, code = impl.AddPoints(good, bad, k)
			check(t, "AddPoints", got, code, impl.Point{}, impl.ErrInvalid)
		}
		for _, pair := range [][2]impl.Point{{bad, good}, {good, bad}, {bad, bad}} {
			got, code := impl.DeterminantOf(pair[0], pair[1])
			check(t, "DeterminantOf", got, code, 0, impl.ErrInvalid)
			got, code = impl.LengthOf(pair[0], pair[1])
			check(t, "LengthOf", got, code, 0, impl.ErrInvalid)
		}
		for _, three := range [][3]impl.Point{{bad, good, good}, {good, bad, good}, {good, good, bad}, {bad, bad, good}} {
			got, code := impl.AreaOf(three[0], three[1], three[2])
			check(t, "AreaOf", got, code, 0, impl.ErrInvalid)
			got, code = impl.DistanceOf(three[0], three[1], three[2])
			check(t, "DistanceOf", got, code, 0, impl.ErrInvalid)
		}
		got, code := impl.PrimitiveOf(bad)
		check(t, "PrimitiveOf", got, code, impl.Point{}, impl.ErrInvalid)
		got, code = impl.MateOf(bad)
		check(t, "MateOf", got, code, impl.Point{}, impl.ErrInvalid)
	}
}

func TestDeterminantOf(t *testing.T) {
	cases := []struct {
		a, b impl.Point
		want int64
	}{
		{impl.Point{3, 1}, impl.Point{2, 5}, 13},
		{impl.Point{2, 5}, impl.Point{3, 1}, -13},
		{impl.Point{}, impl.Point{7, -9}, 0},
		{impl.Point{7, -9}, impl.Point{7, -9}, 0},
		{impl.Point{top, top}, impl.Point{-top, top}, 2 * top * top},
		{impl.Point{top, -top}, impl.Point{-top, -top}, -2 * top * top},
	}
	for _, c := range cases {
		got, code := impl.DeterminantOf(c.a, c.b)
		check(t, "DeterminantOf", got, code, c.want, impl.ErrNone)
	}
}

func TestLengthOf(t *testing.T) {
	for _, a := range gridPoints(4) {
		for _, b := range gridPoints(4) {
			got, code := impl.LengthOf(a, b)
			check(t, "LengthOf", got, code, divisorByCounting(b[0]-a[0], b[1]-a[1]), impl.ErrNone)
		}
	}
	got, code := impl.LengthOf(impl.Point{-top, top}, impl.Point{top, -top})
	check(t, "LengthOf the longest", got, code, 2*top, impl.ErrNone)
	got, code = impl.LengthOf(impl.Point{-top, 5}, impl.Point{top - 1, 5})
	check(t, "LengthOf a level one", got, code, 2*top-1, impl.ErrNone)
	got, code = impl.LengthOf(impl.Point{top, top}, impl.Point{top, top})
	check(t, "LengthOf equal points", got, code, 0, impl.ErrNone)
}

func TestPrimitiveOf(t *testing.T) {
	for _, a := range gridPoints(9) {
		got, code := impl.PrimitiveOf(a)
		if a == (impl.Point{}) {
			check(t, "PrimitiveOf 0", got, code, impl.Point{}, impl.ErrState)
			continue
		}
		d := divisorByCounting(a[0], a[1])
		check(t, "PrimitiveOf", got, code, impl.Point{a[0] / d, a[1] / d}, impl.ErrNone)
	}
	got, code := impl.PrimitiveOf(impl.Point{-top, top})
	check(t, "PrimitiveOf", got, code, impl.Point{-1, 1}, impl.ErrNone)
	got, code = impl.PrimitiveOf(impl.Point{0, -top})
	check(t, "PrimitiveOf", got, code, impl.Point{0, -1}, impl.ErrNone)
	got, code = impl.PrimitiveOf(impl.Point{top, 1 - top})
	check(t, "PrimitiveOf", got, code, impl.Point{top, 1 - top}, impl.ErrNone)
}

func TestAreaOf(t *testing.T) {
	cases := []struct {
		a, b, c impl.Point
		want    int64
	}{
		{impl.Point{}, impl.Point{4, 0}, impl.Point{1, 3}, 12},
		{impl.Point{1, 3}, impl.Point{4, 0}, impl.Point{}, 12},
		{impl.Point{5, 5}, impl.Point{6, 5}, impl.Point{5, 6}, 1},
		{impl.Point{-1, -2}, impl.Point{1, 2}, impl.Point{3, 6}, 0},
		{impl.Point{2, 2}, impl.Point{2, 2}, impl.Point{2, 2}, 0},
		{impl.Point{2, 2}, impl.Point{3, 9}, impl.Point{3, 9}, 0},
		{impl.Point{-top, -top}, impl.Point{top, -top}, impl.Point{-top, top}, 4 * top * top},
		{impl.Point{top, top}, impl.Point{top, -top}, impl.Point{-top, top}, 4 * top * top},
	}
	for _, c := range cases {
		got, code := impl.AreaOf(c.a, c.b, c.c)
		check(t, "AreaOf", got, code, c.want, impl.ErrNone)
	}
}

func TestDistanceOf(t *testing.T) {
	cases := []struct {
		a, b, c impl.Point
		want    int64
		code    int64
	}{
		{impl.Point{}, impl.Point{4, 0}, impl.Point{1, 3}, 3, impl.ErrNone},
		{impl.Point{4, 0}, impl.Point{}, impl.Point{1, -3}, 3, impl.ErrNone},
		{impl.Point{1, 1}, impl.Point{5, 3}, impl.Point{1, 2}, 2, impl.ErrNone},
		{impl.Point{1, 1}, impl.Point{5, 3}, impl.Point{3, 2}, 0, impl.ErrNone},
		{impl.Point{1, 1}, impl.Point{5, 3}, impl.Point{1, 1}, 0, impl.ErrNone},
		{impl.Point{-top, -top}, impl.Point{top, -top}, impl.Point{0, top}, 2 * top, impl.ErrNone},
		{impl.Point{-top, -top}, impl.Point{top, top - 1}, impl.Point{-top, top}, 4 * top * top, impl.ErrNone},
		{impl.Point{}, impl.Point{}, impl.Point{1, 3}, 0, impl.ErrState},
		{impl.Point{top, 7}, impl.Point{top, 7}, impl.Point{top, 7}, 0, impl.ErrState},
	}
	for _, c := range cases {
		got, code := impl.DistanceOf(c.a, c.b, c.c)
		check(t, "DistanceOf", got, code, c.want, c.code)
	}
}

// checkMate reports a mate that has not just what the document asks for.
func checkMate(t *testing.T, a impl.Point) {
	t.Helper()
	b, code := impl.MateOf(a)
	d, _ := impl.DeterminantOf(a, b)
	inRange := b[1] == 0
	if a[0] != 0 {
		inRange = 0 <= b[0] && b[0] < max(a[0], -a[0])
	}
	if code != impl.ErrNone || !impl.IsPoint(b) || d != 1 || !inRange {
		t.Errorf("MateOf(%v) = %v, %d", a, b, code)
	}
}

func TestMateOf(t *testing.T) {
	for _, a := range gridPoints(25) {
		if divisorByCounting(a[0], a[1]) == 1 {
			checkMate(t, a)
			continue
		}
		b, code := impl.MateOf(a)
		check(t, "MateOf", b, code, impl.Point{}, impl.ErrState)
	}
	for _, n := range []int64{-top, 1 - top, -514229, -1, 1, 514229, top - 1, top} {
		for _, a := range []impl.Point{{n, 1}, {1, n}, {n, -1}, {-1, n}} {
			checkMate(t, a)
		}
	}
	for _, a := range []impl.Point{{top, top - 1}, {top - 1, -top}, {1 - top, top}, {-top, 1 - top}, {832040, 514229}} {
		checkMate(t, a)
	}
	for _, a := range []impl.Point{{0, top}, {-top, 0}, {top, top}, {top, -2}} {
		b, code := impl.MateOf(a)
		check(t, "MateOf", b, code, impl.Point{}, impl.ErrState)
	}
}

func TestMatesWithZero(t *testing.T) {
	mates := map[impl.Point]impl.Point{
		{0, 1}: {-1, 0}, {0, -1}: {1, 0}, {1, 0}: {0, 1}, {-1, 0}: {0, -1}, {3, 2}: {1, 1},
	}
	for a, want := range mates {
		got, code := impl.MateOf(a)
		check(t, "MateOf", got, code, want, impl.ErrNone)
	}
}
