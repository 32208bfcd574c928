package tests

import (
	"slices"
	"testing"

	"loop.example/g01297/impl"
)

func TestMultipleOf(t *testing.T) {
	cases := []struct {
		x    impl.Triangle
		k    int64
		want impl.Triangle
		code int64
	}{
		{impl.Triangle{{0, 0}, {4, 0}, {0, 3}}, 1, impl.Triangle{{0, 0}, {4, 0}, {0, 3}}, impl.ErrNone},
		{impl.Triangle{{0, 0}, {4, 0}, {0, 3}}, 2, impl.Triangle{{0, 0}, {8, 0}, {0, 6}}, impl.ErrNone},
		{impl.Triangle{{-5, 7}, {1, -2}, {9, 3}}, 3, impl.Triangle{{-15, 21}, {3, -6}, {27, 9}}, impl.ErrNone},
		{impl.Triangle{{-1, 0}, {1, -1}, {0, 1}}, side, impl.Triangle{{-side, 0}, {side, -side}, {0, side}}, impl.ErrNone},
		{impl.Triangle{{side, 0}, {0, -side}, {-side, side}}, 1, impl.Triangle{{side, 0}, {0, -side}, {-side, side}}, impl.ErrNone},
		// Just a triangle, and one more.
		{impl.Triangle{{0, 0}, {250, -250}, {0, 3}}, 4, impl.Triangle{{0, 0}, {side, -side}, {0, 12}}, impl.ErrNone},
		{impl.Triangle{{0, 0}, {250, 0}, {0, 3}}, 5, impl.Triangle{}, impl.ErrLimit},
		{impl.Triangle{{0, 0}, {143, 0}, {0, 3}}, 7, impl.Triangle{}, impl.ErrLimit},
		{impl.Triangle{{0, 0}, {0, -143}, {1, 3}}, 7, impl.Triangle{}, impl.ErrLimit},
		{impl.Triangle{{0, 0}, {1, 0}, {-143, 3}}, 7, impl.Triangle{}, impl.ErrLimit},
		{impl.Triangle{{1, 143}, {1, 0}, {0, 0}}, 7, impl.Triangle{}, impl.ErrLimit},
		{impl.Triangle{{0, 0}, {2, 0}, {0, 1}}, side, impl.Triangle{}, impl.ErrLimit},
		{impl.Triangle{{side, 0}, {0, -side}, {-side, side}}, 2, impl.Triangle{}, impl.ErrLimit},
		{impl.Triangle{{side, 0}, {0, -side}, {-side, side}}, side, impl.Triangle{}, impl.ErrLimit},
		{impl.Triangle{{0, 0}, {1, 0}, {0, 1}}, side + 1, impl.Triangle{}, impl.ErrRange},
		{impl.Triangle{{0, 0}, {1, 0}, {0, 1}}, 0, impl.Triangle{}, impl.ErrRange},
		{impl.Triangle{{0, 0}, {1, 0}, {0, 1}}, -1, impl.Triangle{}, impl.ErrRange},
		// The numbers would be too great also.
		{impl.Triangle{{side, 0}, {0, -side}, {-side, side}}, side + 1, impl.Triangle{}, impl.ErrRange},
		{impl.Triangle{{side, 0}, {0, -side}, {-side, side}}, -2, impl.Triangle{}, impl.ErrRange},
	}
	for _, c := range cases {
		got, code := impl.MultipleOf(c.x, c.k)
		check(t, "MultipleOf", got, code, c.want, c.code)
	}
	for _, k := range tooGreat {
		got, code := impl.MultipleOf(impl.Triangle{{0, 0}, {1, 0}, {0, 1}}, k)
		check(t, "MultipleOf", got, code, impl.Triangle{}, impl.ErrRange)
	}
}

func TestMultiplesHaveSquaresOfAreas(t *testing.T) {
	for _, x := range gridTriangles(1) {
		for _, k := range []int64{1, 2, 3, 10, side} {
			y, code := impl.MultipleOf(x, k)
			check(t, "MultipleOf", y, code, moveTriangle(impl.Matrix{{k, 0}, {0, k}}, x, impl.Point{}), impl.ErrNone)
			area, code := impl.AreaOfTriangle(y)
			check(t, "AreaOfTriangle", area, code, k*k*exactArea(x), impl.ErrNone)
			_, points := pointsByCounting(x)
			boundary, code := impl.BoundaryOf(y)
			check(t, "BoundaryOf", boundary, code, k*points, impl.ErrNone)
		}
	}
}

func TestSplitTriangle(t *testing.T) {
	x := impl.Triangle{{0, 0}, {8, 0}, {0, 6}}
	odd := impl.Triangle{{-1, -3}, {-5, 1}, {3, 7}}
	cases := []struct {
		x    impl.Triangle
		i    int64
		want []impl.Triangle
		code int64
	}{
		{x, 0, []impl.Triangle{{{0, 0}, {4, 3}, {0, 6}}, {{0, 0}, {8, 0}, {4, 3}}}, impl.ErrNone},
		{x, 1, []impl.Triangle{{{0, 0}, {8, 0}, {0, 3}}, {{0, 3}, {8, 0}, {0, 6}}}, impl.ErrNone},
		{x, 2, []impl.Triangle{{{4, 0}, {8, 0}, {0, 6}}, {{0, 0}, {4, 0}, {0, 6}}}, impl.ErrNone},
		// Odd numbers, and numbers less than 0.
		{odd, 0, []impl.Triangle{{{-1, -3}, {-1, 4}, {3, 7}}, {{-1, -3}, {-5, 1}, {-1, 4}}}, impl.ErrNone},
		{odd, 1, []impl.Triangle{{{-1, -3}, {-5, 1}, {1, 2}}, {{1, 2}, {-5, 1}, {3, 7}}}, impl.ErrNone},
		{odd, 2, []impl.Triangle{{{-3, -1}, {-5, 1}, {3, 7}}, {{-1, -3}, {-3, -1}, {3, 7}}}, impl.ErrNone},
		{impl.Triangle{{0, 0}, {-3, -5}, {-6, -3}}, 0, nil, impl.ErrState},
		{impl.Triangle{{0, 0}, {-3, -5}, {-5, -4}}, 0, nil, impl.ErrState},
		{impl.Triangle{{0, 0}, {-3, -5}, {-5, -3}}, 0, []impl.Triangle{{{0, 0}, {-4, -4}, {-5, -3}}, {{0, 0}, {-3, -5}, {-4, -4}}}, impl.ErrNone},
		{impl.Triangle{{0, 0}, {-3, -5}, {-5, -3}}, 1, nil, impl.ErrState},
		{impl.Triangle{{0, 0}, {-3, -5}, {-5, -3}}, 2, nil, impl.ErrState},
		{impl.Triangle{{0, 0}, {-2, -4}, {-4, -2}}, 1, []impl.Triangle{{{0, 0}, {-2, -4}, {-2, -1}}, {{-2, -1}, {-2, -4}, {-4, -2}}}, impl.ErrNone},
		// The numbers of one of both points are whole, or the middle, but for one number.
		{impl.Triangle{{0, 0}, {1, 0}, {0, 1}}, 0, nil, impl.ErrState},
		{impl.Triangle{{0, 0}, {1, 0}, {0, 1}}, 1, nil, impl.ErrState},
		{impl.Triangle{{0, 0}, {1, 0}, {0, 1}}, 2, nil, impl.ErrState},
		{impl.Triangle{{0, 0}, {2, 1}, {4, 0}}, 0, nil, impl.ErrState},
		{impl.Triangle{{0, 0}, {1, 2}, {0, 4}}, 0, nil, impl.ErrState},
		// The greatest numbers.
		{
			impl.Triangle{{-side, side}, {side, side}, {side, -side}}, 0,
			[]impl.Triangle{{{-side, side}, {side, 0}, {side, -side}}, {{-side, side}, {side, side}, {side, 0}}}, impl.ErrNone,
		},
	}
	for _, c := range cases {
		got, code := impl.SplitTriangle(c.x, c.i)
		checkList(t, "SplitTriangle", got, code, c.want, c.code)
	}
	for _, i := range badPlaces {
		for _, y := range []impl.Triangle{x, {{0, 0}, {1, 0}, {0, 1}}} {
			got, code := impl.SplitTriangle(y, i)
			checkList(t, "SplitTriangle", got, code, nil, impl.ErrRange)
		}
	}
}

func TestPartsHaveHalfOfTheArea(t *testing.T) {
	for _, x := range slices.Concat(gridTriangles(2), greatTriangles(), wideTriangles()) {
		for i := range 3 {
			got, code := impl.SplitTriangle(x, int64(i))
			j, k := (i+1)%3, (i+2)%3
			sum := impl.Point{x[j][0] + x[k][0], x[j][1] + x[k][1]}
			if sum[0]&1 != 0 || sum[1]&1 != 0 {
				checkList(t, "SplitTriangle", got, code, nil, impl.ErrState)
				continue
			}
			want := []impl.Triangle{x, x}
			want[0][j], want[1][k] = impl.Point{sum[0] / 2, sum[1] / 2}, impl.Point{sum[0] / 2, sum[1] / 2}
			checkList(t, "SplitTriangle", got, code, want, impl.ErrNone)
			for _, part := range got {
				area, code := impl.AreaOfTriangle(part)
				check(t, "AreaOfTriangle of a part", 2*area, code, exactArea(x), impl.ErrNone)
			}
		}
	}
}
