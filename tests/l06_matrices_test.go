package tests

import (
	"testing"

	"loop.example/g01297/impl"
)

func TestLimitsOfPeriods(t *testing.T) {
	if impl.MaxWord != 200 || impl.MaxDisc != 4000 {
		t.Errorf("the limits are %d and %d", impl.MaxWord, impl.MaxDisc)
	}
}

func TestTypeOfMatrix(t *testing.T) {
	cases := []struct {
		m    impl.Matrix
		want int64
		code int64
	}{
		// Traces of -3, -2, .. , 3.
		{impl.Matrix{{-2, 1}, {1, -1}}, 2, impl.ErrNone},
		{impl.Matrix{{-1, 1}, {0, -1}}, 1, impl.ErrNone},
		{impl.Matrix{{-1, 1}, {-1, 0}}, 0, impl.ErrNone},
		{impl.Matrix{{0, 1}, {-1, 0}}, 0, impl.ErrNone},
		{impl.Matrix{{0, 1}, {-1, 1}}, 0, impl.ErrNone},
		{impl.Matrix{{1, 0}, {0, 1}}, 1, impl.ErrNone},
		{impl.Matrix{{3, -2}, {2, -1}}, 1, impl.ErrNone},
		{impl.Matrix{{2, 1}, {1, 1}}, 2, impl.ErrNone},
		// Great numbers.
		{impl.Matrix{{1, top}, {0, 1}}, 1, impl.ErrNone},
		{impl.Matrix{{top, -1}, {1, 0}}, 2, impl.ErrNone},
		{impl.Matrix{{-top, 1}, {-1, 0}}, 2, impl.ErrNone},
		{impl.Matrix{{top, top - 1}, {1, 1}}, 2, impl.ErrNone},
		{impl.Matrix{{1001, -1000}, {1002, -1001}}, 0, impl.ErrState},
		{impl.Matrix{{1000, -999}, {1001, -1000}}, 0, impl.ErrState},
		{impl.Matrix{{1000, -1000}, {999, -999}}, 0, impl.ErrState},
		// Determinants of -1, 0 and 2, with a trace of each kind.
		{impl.Matrix{{1, 1}, {1, 0}}, 0, impl.ErrState},
		{impl.Matrix{{0, 1}, {1, 2}}, 0, impl.ErrState},
		{impl.Matrix{{0, 1}, {1, 3}}, 0, impl.ErrState},
		{impl.Matrix{{1, 1}, {1, 1}}, 0, impl.ErrState},
		{impl.Matrix{}, 0, impl.ErrState},
		{impl.Matrix{{2, 0}, {0, 1}}, 0, impl.ErrState},
		{impl.Matrix{{1, -1}, {1, 1}}, 0, impl.ErrState},
		{impl.Matrix{{top, top}, {-top, top}}, 0, impl.ErrState},
	}
	for _, c := range cases {
		got, code := impl.TypeOfMatrix(c.m)
		check(t, "TypeOfMatrix", got, code, c.want, c.code)
	}
}

func TestTypesOfAllSmallMatrices(t *testing.T) {
	for _, m := range gridMatrices(3) {
		want, wantCode := int64(0), int64(impl.ErrNone)
		if exactDeterminant(m[0], m[1]) != 1 {
			wantCode = impl.ErrState
		} else if square := (m[0][0] + m[1][1]) * (m[0][0] + m[1][1]); square == 4 {
			want = 1
		} else if square > 4 {
			want = 2
		}
		got, code := impl.TypeOfMatrix(m)
		check(t, "TypeOfMatrix", got, code, want, wantCode)
	}
}

func TestArraysThatAreNoMatrices(t *testing.T) {
	for _, m := range badMatrices() {
		kind, code := impl.TypeOfMatrix(m)
		check(t, "TypeOfMatrix", kind, code, 0, impl.ErrInvalid)
		word, code := impl.WordOfMatrix(m)
		check(t, "WordOfMatrix", word, code, "", impl.ErrInvalid)
		form, code := impl.FormOfMatrix(m)
		check(t, "FormOfMatrix", form, code, impl.Form{}, impl.ErrInvalid)
		// That all are matrices is asked first, whatever the other one is.
		for _, n := range []impl.Matrix{unit, {{1, 1}, {1, 1}}, {{2, 0}, {0, 1}}, {{1, top}, {0, 1}}, {{top, top}, {top, top}}, m} {
			got, code := impl.ConjugateMatrix(m, n)
			check(t, "ConjugateMatrix", got, code, impl.Matrix{}, impl.ErrInvalid)
			got, code = impl.ConjugateMatrix(n, m)
			check(t, "ConjugateMatrix", got, code, impl.Matrix{}, impl.ErrInvalid)
		}
	}
}

func TestConjugateMatrix(t *testing.T) {
	none := impl.Matrix{}
	cases := []struct {
		m, u, want impl.Matrix
		code       int64
	}{
		{impl.Matrix{{2, 1}, {1, 1}}, impl.Matrix{{1, 1}, {0, 1}}, impl.Matrix{{1, 1}, {1, 2}}, impl.ErrNone},
		{impl.Matrix{{2, 1}, {1, 1}}, unit, impl.Matrix{{2, 1}, {1, 1}}, impl.ErrNone},
		// u of the determinant -1, and m of any determinant.
		{impl.Matrix{{2, 1}, {1, 1}}, impl.Matrix{{0, 1}, {1, 0}}, impl.Matrix{{1, 1}, {1, 2}}, impl.ErrNone},
		{impl.Matrix{{1, 2}, {3, 4}}, impl.Matrix{{2, 1}, {1, 0}}, impl.Matrix{{10, 3}, {-16, -5}}, impl.ErrNone},
		{impl.Matrix{{top, 0}, {0, top}}, impl.Matrix{{0, 1}, {-1, 0}}, impl.Matrix{{top, 0}, {0, top}}, impl.ErrNone},
		{none, impl.Matrix{{5, 2}, {2, 1}}, none, impl.ErrNone},
		// u of the determinants 0 and 2, also where a number would be too great.
		{unit, none, none, impl.ErrState},
		{unit, impl.Matrix{{1, 1}, {1, 1}}, none, impl.ErrState},
		{unit, impl.Matrix{{2, 0}, {0, 1}}, none, impl.ErrState},
		{unit, impl.Matrix{{1, -1}, {1, 1}}, none, impl.ErrState},
		{unit, impl.Matrix{{-2, 0}, {0, 1}}, none, impl.ErrState},
		{impl.Matrix{{top, top}, {top, top}}, impl.Matrix{{top, top}, {-top, top}}, none, impl.ErrState},
		// In the first product alone, numbers of exactly MaxCoord and one more.
		{impl.Matrix{{1, top - 1}, {0, 1}}, impl.Matrix{{1, -1}, {0, 1}}, impl.Matrix{{1, top - 1}, {0, 1}}, impl.ErrNone},
		{impl.Matrix{{1, top}, {0, 1}}, impl.Matrix{{1, -1}, {0, 1}}, none, impl.ErrLimit},
		{impl.Matrix{{1, -top}, {0, 1}}, impl.Matrix{{1, 1}, {0, 1}}, none, impl.ErrLimit},
		{impl.Matrix{{1, 0}, {top, 1}}, impl.Matrix{{1, 0}, {-1, 1}}, none, impl.ErrLimit},
		{impl.Matrix{{1, 0}, {-top, 1}}, impl.Matrix{{1, 0}, {1, 1}}, none, impl.ErrLimit},
		// In the second one alone.
		{impl.Matrix{{1, top - 1}, {0, 0}}, impl.Matrix{{1, 1}, {0, 1}}, impl.Matrix{{1, top}, {0, 0}}, impl.ErrNone},
		{impl.Matrix{{1, top}, {0, 0}}, impl.Matrix{{1, 1}, {0, 1}}, none, impl.ErrLimit},
		{impl.Matrix{{-1, -top}, {0, 0}}, impl.Matrix{{1, 1}, {0, 1}}, none, impl.ErrLimit},
		{impl.Matrix{{0, 0}, {top, 1}}, impl.Matrix{{1, 0}, {1, 1}}, none, impl.ErrLimit},
		// In both.
		{impl.Matrix{{top, top}, {top, top}}, impl.Matrix{{top, -1}, {1, 0}}, none, impl.ErrLimit},
		{impl.Matrix{{top, top}, {-top, top}}, impl.Matrix{{top, top - 1}, {1, 1}}, none, impl.ErrLimit},
	}
	for _, c := range cases {
		got, code := impl.ConjugateMatrix(c.m, c.u)
		check(t, "ConjugateMatrix", got, code, c.want, c.code)
	}
}

// conjugateByHand is the conjugate matrix without a limit, and whether one was met.
func conjugateByHand(m impl.Matrix, u impl.Matrix) (impl.Matrix, bool) {
	d := exactDeterminant(u[0], u[1])
	inverse := impl.Matrix{{d * u[1][1], -d * u[0][1]}, {-d * u[1][0], d * u[0][0]}}
	first := exactProduct(inverse, m)
	second := exactProduct(first, u)
	return second, impl.IsMatrix(first) && impl.IsMatrix(second)
}

func TestConjugatesOfManyMatrices(t *testing.T) {
	great := []impl.Matrix{
		{{top, 0}, {0, 1}}, {{0, top}, {top, 0}}, {{500000, -500000}, {1, 1}}, {{333333, 2}, {-333333, 1}}, {{1, 2}, {500001, 3}},
		{{1, 999999}, {0, 1}}, {{-999999, 1}, {1, 0}}, {{1000, 999}, {1001, 1000}}, {{2, 1}, {3, 499999}},
	}
	changes := append(unimodularMatrices(2), greatMatrices(1000, 377)...)
	changes = append(changes, greatMatrices(top, 618033)...)
	for _, u := range changes {
		for _, m := range append(gridMatrices(1), great...) {
			want, fits := conjugateByHand(m, u)
			wantCode := int64(impl.ErrNone)
			if !fits {
				want, wantCode = impl.Matrix{}, impl.ErrLimit
			}
			got, code := impl.ConjugateMatrix(m, u)
			check(t, "ConjugateMatrix", got, code, want, wantCode)
		}
	}
	for _, u := range gridMatrices(2) {
		if d := exactDeterminant(u[0], u[1]); d != 1 && d != -1 {
			got, code := impl.ConjugateMatrix(impl.Matrix{{2, 1}, {1, 1}}, u)
			check(t, "ConjugateMatrix", got, code, impl.Matrix{}, impl.ErrState)
		}
	}
}
