package tests

import (
	"slices"
	"testing"

	"loop.example/g01297/impl"
)

func TestIsForm(t *testing.T) {
	cases := []impl.Form{
		{A: 1, B: 1, C: -1}, {A: 1, B: -1, C: -1}, {A: -1, B: 1, C: 1}, {A: 1, B: 3, C: 1}, {A: 1, B: 0, C: -2}, {A: 2, B: 2, C: -2},
		{A: 1, B: 3, C: -1}, {A: 1, B: 0, C: -3}, {A: -1, B: 0, C: 3},
		// Discriminants of exactly MaxDisc.
		{A: 1, B: 0, C: -1000}, {A: 1000, B: 0, C: -1}, {A: 1, B: 62, C: -39}, {A: -39, B: -62, C: 1}, {A: 10, B: 20, C: -90},
		// Numbers as great as they may be, or nearly so.
		{A: 1, B: 2000, C: 999998}, {A: -1, B: -2000, C: -999998}, {A: 250354, B: top, C: 998586}, {A: 249293, B: -998585, C: top},
	}
	for _, x := range slices.Concat(cases, gridForms(8), greatForms()) {
		if !impl.IsForm(x) {
			t.Errorf("IsForm(%v) is false", x)
		}
		got, code := impl.DiscriminantOf(x)
		check(t, "DiscriminantOf", got, code, exactDiscriminant(x), impl.ErrNone)
	}
	forms := map[impl.Form]bool{}
	for _, x := range gridForms(8) {
		forms[x] = true
	}
	for _, p := range gridPoints(8) {
		for c := int64(-8); c <= 8; c++ {
			if x := (impl.Form{A: p[0], B: p[1], C: c}); impl.IsForm(x) != forms[x] {
				t.Errorf("IsForm(%v) is not %t", x, forms[x])
			}
		}
	}
}

func TestAllDiscriminantsOfForms(t *testing.T) {
	for b := int64(0); b <= 1; b++ {
		for c := int64(-1100); c <= 10; c++ {
			x := impl.Form{A: 1, B: b, C: c}
			if want := canBeDiscriminant(exactDiscriminant(x)); impl.IsForm(x) != want {
				t.Errorf("IsForm(%v) is not %t", x, want)
			}
		}
	}
	got, code := impl.DiscriminantOf(impl.Form{A: 1, B: 0, C: -1000})
	check(t, "DiscriminantOf", got, code, 4000, impl.ErrNone)
}

func TestStructsThatAreNoForms(t *testing.T) {
	good := impl.Form{A: 1, B: 1, C: -1}
	for _, x := range badForms() {
		if impl.IsForm(x) {
			t.Errorf("IsForm(%v) is true", x)
		}
		d, code := impl.DiscriminantOf(x)
		check(t, "DiscriminantOf", d, code, 0, impl.ErrInvalid)
		reduced, code := impl.IsReducedForm(x)
		check(t, "IsReducedForm", reduced, code, false, impl.ErrInvalid)
		next, code := impl.NextForm(x)
		check(t, "NextForm", next, code, impl.Form{}, impl.ErrInvalid)
		cycle, code := impl.CycleOfForm(x)
		checkList(t, "CycleOfForm", cycle, code, nil, impl.ErrInvalid)
		for _, y := range [][2]impl.Form{{x, good}, {good, x}, {x, x}} {
			are, code := impl.AreEquivalentForms(y[0], y[1])
			check(t, "AreEquivalentForms", are, code, false, impl.ErrInvalid)
		}
	}
}

func TestIsReducedForm(t *testing.T) {
	cases := []struct {
		x    impl.Form
		want bool
	}{
		{impl.Form{A: 1, B: 1, C: -1}, true},
		{impl.Form{A: -1, B: 1, C: 1}, true},
		// B is 0 or less.
		{impl.Form{A: 1, B: -1, C: -1}, false},
		{impl.Form{A: 1, B: 0, C: -2}, false},
		{impl.Form{A: 1, B: 2, C: -1}, true},
		{impl.Form{A: 1, B: -2, C: -1}, false},
		// B B is greater than the discriminant.
		{impl.Form{A: 1, B: 3, C: 1}, false},
		{impl.Form{A: 2, B: 5, C: 1}, false},
		// D is 33 and w is 5: 2 |A| has to be 2, 4, .. , 10 for a B of 5, 4, 6 or 8 for 3, and 6 for 1.
		{impl.Form{A: 1, B: 5, C: -2}, true},
		{impl.Form{A: -2, B: 5, C: 1}, true},
		{impl.Form{A: 1, B: 3, C: -6}, false},
		{impl.Form{A: 2, B: 3, C: -3}, true},
		{impl.Form{A: -3, B: 3, C: 2}, true},
		{impl.Form{A: 6, B: 3, C: -1}, false},
		{impl.Form{A: 2, B: 1, C: -4}, false},
		{impl.Form{A: -4, B: 1, C: 2}, false},
		{impl.Form{A: 2, B: 7, C: 2}, false},
		// D is 4000, and w is 63.
		{impl.Form{A: 1, B: 62, C: -39}, true},
		{impl.Form{A: 39, B: 62, C: -1}, true},
	}
	for _, c := range cases {
		got, code := impl.IsReducedForm(c.x)
		check(t, "IsReducedForm", got, code, c.want, impl.ErrNone)
		if c.want != isReducedByHand(c.x) {
			t.Errorf("%v is not as told", c.x)
		}
	}
	for _, x := range slices.Concat(gridForms(16), greatForms()) {
		got, code := impl.IsReducedForm(x)
		check(t, "IsReducedForm", got, code, isReducedByHand(x), impl.ErrNone)
	}
}

func TestNextForm(t *testing.T) {
	cases := []struct{ x, want impl.Form }{
		{impl.Form{A: 1, B: 1, C: -1}, impl.Form{A: -1, B: 1, C: 1}},
		{impl.Form{A: -1, B: 1, C: 1}, impl.Form{A: 1, B: 1, C: -1}},
		{impl.Form{A: 1, B: -1, C: -1}, impl.Form{A: -1, B: 1, C: 1}},
		// |C| is less than w, equal to it, and greater; C is less than 0, and greater.
		{impl.Form{A: 1, B: 2, C: -2}, impl.Form{A: -2, B: 2, C: 1}},
		{impl.Form{A: -1, B: 2, C: 2}, impl.Form{A: 2, B: 2, C: -1}},
		{impl.Form{A: 1, B: 0, C: -3}, impl.Form{A: -3, B: 0, C: 1}},
		{impl.Form{A: 1, B: 3, C: -3}, impl.Form{A: -3, B: 3, C: 1}},
		{impl.Form{A: 1, B: 0, C: -2}, impl.Form{A: -2, B: 0, C: 1}},
		{impl.Form{A: 1, B: 1, C: -4}, impl.Form{A: -4, B: -1, C: 1}},
		{impl.Form{A: 1, B: 2000, C: 999998}, impl.Form{A: 999998, B: -2000, C: 1}},
		// B is the last one that may be, and the first one.
		{impl.Form{A: 1, B: 5, C: 5}, impl.Form{A: 5, B: 5, C: 1}},
		{impl.Form{A: 1, B: -5, C: 5}, impl.Form{A: 5, B: 5, C: 1}},
	}
	for _, c := range cases {
		got, code := impl.NextForm(c.x)
		check(t, "NextForm", got, code, c.want, impl.ErrNone)
	}
	less, same, greater := 0, 0, 0
	for _, x := range slices.Concat(gridForms(16), everyFew(greatForms(), 3)) {
		want, found := nextByHand(x)
		if found != 1 {
			t.Errorf("behind %v, %d numbers could be b", x, found)
		}
		got, code := impl.NextForm(x)
		check(t, "NextForm", got, code, want, impl.ErrNone)
		switch w := rootByFloat(exactDiscriminant(x)); {
		case max(x.C, -x.C) < w:
			less++
		case max(x.C, -x.C) == w:
			same++
		default:
			greater++
		}
	}
	if min(less, same, greater) < 100 {
		t.Errorf("%d, %d and %d next forms were looked at", less, same, greater)
	}
}

func TestNextFormsHaveTheSameDiscriminant(t *testing.T) {
	for _, x := range slices.Concat(gridForms(16), greatForms()) {
		want, _ := impl.DiscriminantOf(x)
		for range 30 {
			next, code := impl.NextForm(x)
			if code != impl.ErrNone || !impl.IsForm(next) || next.A != x.C {
				t.Fatalf("NextForm(%v) = %v, %d", x, next, code)
			}
			got, code := impl.DiscriminantOf(next)
			check(t, "DiscriminantOf", got, code, want, impl.ErrNone)
			x = next
		}
		reduced, code := impl.IsReducedForm(x)
		check(t, "IsReducedForm", reduced, code, true, impl.ErrNone)
	}
}

func TestFormOfMatrix(t *testing.T) {
	cases := []struct {
		m    impl.Matrix
		want impl.Form
		code int64
	}{
		{impl.Matrix{{2, 1}, {1, 1}}, impl.Form{A: 1, B: -1, C: -1}, impl.ErrNone},
		{impl.Matrix{{1, 1}, {1, 2}}, impl.Form{A: 1, B: 1, C: -1}, impl.ErrNone},
		{impl.Matrix{{-2, 1}, {1, -1}}, impl.Form{A: 1, B: 1, C: -1}, impl.ErrNone},
		{impl.Matrix{{5, 2}, {2, 1}}, impl.Form{A: 2, B: -4, C: -2}, impl.ErrNone},
		{impl.Matrix{{0, 1}, {-1, 3}}, impl.Form{A: -1, B: 3, C: -1}, impl.ErrNone},
		// Traces of 63 and -63, and of 64 and -64.
		{impl.Matrix{{0, 1}, {-1, 63}}, impl.Form{A: -1, B: 63, C: -1}, impl.ErrNone},
		{impl.Matrix{{-63, -1}, {1, 0}}, impl.Form{A: 1, B: 63, C: 1}, impl.ErrNone},
		{impl.Matrix{{0, 1}, {-1, 64}}, impl.Form{}, impl.ErrState},
		{impl.Matrix{{-64, -1}, {1, 0}}, impl.Form{}, impl.ErrState},
		{impl.Matrix{{top, -1}, {1, 0}}, impl.Form{}, impl.ErrState},
		// Traces of -2, .. , 2.
		{impl.Matrix{{-1, 1}, {0, -1}}, impl.Form{}, impl.ErrState},
		{impl.Matrix{{0, 1}, {-1, -1}}, impl.Form{}, impl.ErrState},
		{impl.Matrix{{0, 1}, {-1, 0}}, impl.Form{}, impl.ErrState},
		{impl.Matrix{{0, 1}, {-1, 1}}, impl.Form{}, impl.ErrState},
		{unit, impl.Form{}, impl.ErrState},
		{impl.Matrix{{1, top}, {0, 1}}, impl.Form{}, impl.ErrState},
		// Determinants other than 1, with numbers that would be a form.
		{impl.Matrix{{1, 1}, {1, 0}}, impl.Form{}, impl.ErrState},
		{impl.Matrix{{0, 1}, {1, 1}}, impl.Form{}, impl.ErrState},
		{impl.Matrix{{1, 2}, {1, 1}}, impl.Form{}, impl.ErrState},
		{impl.Matrix{{2, 2}, {2, 2}}, impl.Form{}, impl.ErrState},
		{impl.Matrix{{2, 2}, {1, 2}}, impl.Form{}, impl.ErrState},
		{impl.Matrix{}, impl.Form{}, impl.ErrState},
	}
	for _, c := range cases {
		got, code := impl.FormOfMatrix(c.m)
		check(t, "FormOfMatrix", got, code, c.want, c.code)
	}
}

func TestFormsOfManyMatrices(t *testing.T) {
	for _, m := range slices.Concat(gridMatrices(4), greatMatrices(1000, 33), greatMatrices(top, 1), greatMatrices(60, 7)) {
		want, wantCode := impl.Form{A: m[1][0], B: m[1][1] - m[0][0], C: -m[0][1]}, int64(impl.ErrNone)
		trace := m[0][0] + m[1][1]
		if exactDeterminant(m[0], m[1]) != 1 || max(trace, -trace) < 3 || max(trace, -trace) > 63 {
			want, wantCode = impl.Form{}, impl.ErrState
		}
		got, code := impl.FormOfMatrix(m)
		check(t, "FormOfMatrix", got, code, want, wantCode)
		if code == impl.ErrNone {
			d, code := impl.DiscriminantOf(got)
			check(t, "DiscriminantOf", d, code, trace*trace-4, impl.ErrNone)
		}
	}
}

// matrixBetween is a matrix with the determinant 1, the trace as told, and b as the second number of
// its form, and false if it has none with numbers that are small enough.
func matrixBetween(trace int64, b int64) (impl.Matrix, bool) {
	first := (trace - b) / 2
	product := first*(trace-first) - 1
	for k := max(product, -product)/top + 1; k*k <= max(product, -product); k++ {
		if product%k == 0 {
			return impl.Matrix{{first, k}, {product / k, trace - first}}, true
		}
	}
	return impl.Matrix{}, false
}

// TestFormsWithTheGreatestB has matrices whose numbers are small enough, and forms whose B is or is not.
func TestFormsWithTheGreatestB(t *testing.T) {
	fitting, tooGreat := 0, 0
	for trace := int64(3); trace <= 63; trace++ {
		for _, b := range []int64{top, top - 1, top + 1, top + 2, -top, 1 - top, -top - 1, -top - 2} {
			if (trace-b)%2 != 0 {
				continue
			}
			m, ok := matrixBetween(trace, b)
			if !ok {
				continue
			}
			got, code := impl.FormOfMatrix(m)
			if max(b, -b) <= top {
				check(t, "FormOfMatrix", got, code, impl.Form{A: m[1][0], B: b, C: -m[0][1]}, impl.ErrNone)
				fitting++
			} else {
				check(t, "FormOfMatrix", got, code, impl.Form{}, impl.ErrState)
				tooGreat++
			}
		}
	}
	if min(fitting, tooGreat) < 10 {
		t.Errorf("%d and %d matrices were looked at", fitting, tooGreat)
	}
}
