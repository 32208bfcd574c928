package tests

import (
	"testing"

	"loop.example/g01297/impl"
)

func TestMoveCorner(t *testing.T) {
	cases := []struct {
		m    impl.Matrix
		x    impl.Corner
		want impl.Corner
		code int64
	}{
		{impl.Matrix{{2, 1}, {1, 1}}, corner(1, 0, 2, 5), corner(2, 1, 9, 7), impl.ErrNone},
		{impl.Matrix{{2, 3}, {1, 1}}, corner(1, 0, 2, 5), corner(2, 1, 19, 7), impl.ErrNone},
		{impl.Matrix{{0, 1}, {1, 0}}, corner(1, 0, 2, 5), corner(0, 1, 5, 2), impl.ErrNone},
		{unit, corner(top, top-1, 1-top, top), corner(top, top-1, 1-top, top), impl.ErrNone},
		{impl.Matrix{{1, 1}, {0, 1}}, corner(1, 0, top-1, 1), corner(1, 0, top, 1), impl.ErrNone},
		{impl.Matrix{{1, 1}, {0, 1}}, corner(1, 0, top, 1), impl.Corner{}, impl.ErrLimit},
		{impl.Matrix{{1, 1}, {0, 1}}, corner(top, 1, 1, 0), impl.Corner{}, impl.ErrLimit},
		{impl.Matrix{{1, 0}, {-1, -1}}, corner(0, 1, 1, top), impl.Corner{}, impl.ErrLimit},
		{impl.Matrix{{1, 0}, {-1, -1}}, corner(1, top-1, 0, 1), corner(1, -top, 0, -1), impl.ErrNone},
		{impl.Matrix{{top, top - 1}, {1, 1}}, corner(top, top-1, 1-top, top), impl.Corner{}, impl.ErrLimit},
		{impl.Matrix{{2, 0}, {0, 1}}, corner(1, 0, 2, 5), impl.Corner{}, impl.ErrState},
		{impl.Matrix{}, corner(1, 0, 2, 5), impl.Corner{}, impl.ErrState},
		{impl.Matrix{{1, 1}, {1, 1}}, corner(1, 0, 2, 5), impl.Corner{}, impl.ErrState},
		// The images would be too great also.
		{impl.Matrix{{top, 1}, {1, top}}, corner(top, 1, 1, top), impl.Corner{}, impl.ErrState},
		{impl.Matrix{{top, top}, {-top, top}}, corner(top, 1, 1, top), impl.Corner{}, impl.ErrState},
	}
	for _, c := range cases {
		got, code := impl.MoveCorner(c.m, c.x)
		check(t, "MoveCorner", got, code, c.want, c.code)
	}
}

func TestOnlyUnimodularMatricesMoveCorners(t *testing.T) {
	for _, m := range gridMatrices(2) {
		want := int64(impl.ErrNone)
		if d := exactDeterminant(m[0], m[1]); d != 1 && d != -1 {
			want = impl.ErrState
		}
		for _, x := range []impl.Corner{corner(1, 0, 2, 5), corner(3, -7, 2, 9)} {
			got, code := impl.MoveCorner(m, x)
			if code != want || code != impl.ErrNone && got != (impl.Corner{}) {
				t.Errorf("MoveCorner(%v, %v) = %v, %d; want code %d", m, x, got, code, want)
			}
		}
	}
}

func TestErrorsOfMovesInOrder(t *testing.T) {
	good := corner(1, 0, 2, 5)
	for _, m := range badMatrices() {
		for _, x := range []impl.Corner{good, wideCorners()[0], {}} {
			got, code := impl.MoveCorner(m, x)
			check(t, "MoveCorner", got, code, impl.Corner{}, impl.ErrInvalid)
		}
	}
	for _, bad := range badCorners() {
		for _, m := range []impl.Matrix{unit, {}, {{2, 0}, {0, 2}}, {{top, top - 1}, {1, 1}}} {
			got, code := impl.MoveCorner(m, bad)
			check(t, "MoveCorner", got, code, impl.Corner{}, impl.ErrInvalid)
		}
	}
}

func TestUnimodularMatricesKeepSinesAndCosines(t *testing.T) {
	great := []impl.Matrix{
		{{1, 5000}, {0, -1}}, {{21, 13}, {13, 8}}, {{1, 0}, {top, 1}}, {{0, -1}, {1, -top}}, {{top, top - 1}, {1, 1}},
	}
	corners := append(gridCorners(2), greatCorners()...)
	corners = append(corners, corner(1, 0, 7, 19), corner(3, -7, 2, 9), corner(30, 7, 11, 19),
		corner(1, 0, 1, 250000), corner(1, 1, -999, 250000), corner(100000, 1, -1, 9), corner(0, 1, 100003, -7))
	for _, m := range append(unimodularMatrices(2), great...) {
		for _, x := range corners {
			y, code := impl.MoveCorner(m, x)
			want := exactMove(m, x)
			if !impl.IsPoint(want.First) || !impl.IsPoint(want.Second) {
				check(t, "MoveCorner", y, code, impl.Corner{}, impl.ErrLimit)
				continue
			}
			check(t, "MoveCorner", y, code, want, impl.ErrNone)
			checkMoved(t, x, y)
		}
	}
}

// checkMoved holds what tells x against what tells its image y.
func checkMoved(t *testing.T, x impl.Corner, y impl.Corner) {
	t.Helper()
	want, _ := impl.SineOf(x)
	got, code := impl.SineOf(y)
	check(t, "SineOf an image", got, code, want, impl.ErrNone)
	want, _ = impl.CosineOf(x)
	got, code = impl.CosineOf(y)
	check(t, "CosineOf an image", got, code, want, impl.ErrNone)
	wantList, _ := impl.ExpansionOfCorner(x)
	gotList, code := impl.ExpansionOfCorner(y)
	checkList(t, "ExpansionOfCorner of an image", gotList, code, wantList, impl.ErrNone)
	same, code := impl.AreEqualCorners(x, y)
	check(t, "AreEqualCorners of a corner and its image", same, code, true, impl.ErrNone)
}
