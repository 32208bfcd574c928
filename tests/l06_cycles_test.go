package tests

import (
	"slices"
	"testing"

	"loop.example/g01297/impl"
)

func TestCycleOfForm(t *testing.T) {
	cases := []struct {
		x    impl.Form
		want []impl.Form
	}{
		{impl.Form{A: 1, B: 1, C: -1}, []impl.Form{{A: 1, B: 1, C: -1}, {A: -1, B: 1, C: 1}}},
		{impl.Form{A: -1, B: 1, C: 1}, []impl.Form{{A: -1, B: 1, C: 1}, {A: 1, B: 1, C: -1}}},
		// Forms that are not reduced.
		{impl.Form{A: 1, B: -1, C: -1}, []impl.Form{{A: -1, B: 1, C: 1}, {A: 1, B: 1, C: -1}}},
		{impl.Form{A: 1, B: 3, C: 1}, []impl.Form{{A: 1, B: 1, C: -1}, {A: -1, B: 1, C: 1}}},
		{impl.Form{A: 1, B: 2000, C: 999998}, []impl.Form{{A: 1, B: 2, C: -1}, {A: -1, B: 2, C: 1}}},
		{impl.Form{A: 1, B: 0, C: -3}, []impl.Form{{A: 1, B: 2, C: -2}, {A: -2, B: 2, C: 1}}},
		{impl.Form{A: 3, B: 0, C: -1}, []impl.Form{{A: -1, B: 2, C: 2}, {A: 2, B: 2, C: -1}}},
		{impl.Form{A: 1, B: 3, C: -1}, []impl.Form{{A: 1, B: 3, C: -1}, {A: -1, B: 3, C: 1}}},
		{impl.Form{A: 2, B: 2, C: -2}, []impl.Form{{A: 2, B: 2, C: -2}, {A: -2, B: 2, C: 2}}},
	}
	for _, c := range cases {
		got, code := impl.CycleOfForm(c.x)
		checkList(t, "CycleOfForm", got, code, c.want, impl.ErrNone)
	}
	for _, x := range slices.Concat(gridForms(10), everyFew(greatForms(), 5)) {
		got, code := impl.CycleOfForm(x)
		checkList(t, "CycleOfForm", got, code, cycleByHand(x), impl.ErrNone)
	}
}

// TestCyclesGoAround takes all reduced forms of a discriminant: the next one of the last one is the
// first one, and each form is in just one cycle, wherever that begins.
func TestCyclesGoAround(t *testing.T) {
	for d := int64(1); d <= 4000; d += 7 {
		forms, code := impl.ReducedForms(d)
		if code != impl.ErrNone {
			continue
		}
		met := map[impl.Form]bool{}
		cycles := int64(0)
		for _, x := range forms {
			if met[x] {
				continue
			}
			cycles++
			cycle, code := impl.CycleOfForm(x)
			if code != impl.ErrNone || len(cycle) == 0 || cycle[0] != x {
				t.Fatalf("CycleOfForm(%v) = %v, %d", x, cycle, code)
			}
			for i, y := range cycle {
				if met[y] || !slices.Contains(forms, y) {
					t.Fatalf("%v in the cycle of %v", y, x)
				}
				met[y] = true
				next, code := impl.NextForm(y)
				check(t, "NextForm in a cycle", next, code, cycle[(i+1)%len(cycle)], impl.ErrNone)
				turned, code := impl.CycleOfForm(y)
				checkList(t, "CycleOfForm", turned, code, slices.Concat(cycle[i:], cycle[:i]), impl.ErrNone)
			}
		}
		number, code := impl.ClassNumber(d)
		check(t, "ClassNumber", number, code, cycles, impl.ErrNone)
		if len(met) != len(forms) {
			t.Errorf("%d of %d reduced forms of %d are in cycles", len(met), len(forms), d)
		}
	}
}

func TestListsOfPeriodsAreNew(t *testing.T) {
	checkNew(t, func() ([]int64, int64) { return impl.PeriodOf("RRLRRRL") })
	checkNew(t, func() ([]impl.Form, int64) { return impl.CycleOfForm(impl.Form{A: 1, B: 2, C: -2}) })
	checkNew(t, func() ([]impl.Form, int64) { return impl.ReducedForms(12) })
}

func TestAreEquivalentForms(t *testing.T) {
	cases := []struct {
		x, y impl.Form
		want bool
	}{
		{impl.Form{A: 1, B: -1, C: -1}, impl.Form{A: 1, B: 1, C: -1}, true},
		{impl.Form{A: 1, B: 1, C: -1}, impl.Form{A: -1, B: 1, C: 1}, true},
		{impl.Form{A: 1, B: 2, C: -2}, impl.Form{A: -1, B: 2, C: 2}, false},
		{impl.Form{A: 1, B: 0, C: -3}, impl.Form{A: 3, B: 0, C: -1}, false},
		{impl.Form{A: 1, B: 0, C: -3}, impl.Form{A: -3, B: 0, C: 1}, true},
		{impl.Form{A: 1, B: 0, C: -2}, impl.Form{A: 1, B: 2000, C: 999998}, true},
		{impl.Form{A: 1, B: 0, C: -2}, impl.Form{A: 2, B: 0, C: -1}, true},
		// The same discriminant of 20, and a common divisor in one of them.
		{impl.Form{A: 2, B: 2, C: -2}, impl.Form{A: 1, B: 4, C: -1}, false},
		// Different discriminants.
		{impl.Form{A: 1, B: 1, C: -1}, impl.Form{A: 1, B: 0, C: -2}, false},
		{impl.Form{A: 1, B: 0, C: -1000}, impl.Form{A: 1, B: 1, C: -999}, false},
		{impl.Form{A: 1, B: 1, C: -1}, impl.Form{A: 1, B: 1, C: -3}, false},
	}
	for _, c := range cases {
		got, code := impl.AreEquivalentForms(c.x, c.y)
		check(t, "AreEquivalentForms", got, code, c.want, impl.ErrNone)
		got, code = impl.AreEquivalentForms(c.y, c.x)
		check(t, "AreEquivalentForms", got, code, c.want, impl.ErrNone)
		got, code = impl.AreEquivalentForms(c.x, c.x)
		check(t, "AreEquivalentForms", got, code, true, impl.ErrNone)
	}
	forms := slices.Concat(gridForms(4), everyFew(greatForms(), 40))
	cycles := make([][]impl.Form, len(forms))
	for i, x := range forms {
		cycles[i] = cycleByHand(x)
	}
	for i, x := range forms {
		for j, y := range forms {
			got, code := impl.AreEquivalentForms(x, y)
			check(t, "AreEquivalentForms", got, code, slices.Contains(cycles[i], cycles[j][0]), impl.ErrNone)
		}
	}
}

// TestMovedFormsAreEquivalent changes the numbers for which a form is taken by matrices with the
// determinant 1.
func TestMovedFormsAreEquivalent(t *testing.T) {
	for _, x := range gridForms(5) {
		for k := int64(-9); k <= 9; k++ {
			for l := int64(-9); l <= 9; l += 3 {
				got, code := impl.AreEquivalentForms(x, movedForm(movedForm(x, k), l))
				check(t, "AreEquivalentForms", got, code, true, impl.ErrNone)
			}
		}
	}
	u := impl.Matrix{{5, 2}, {7, 3}}
	for _, word := range allWords(8) {
		m, _ := impl.MatrixOfWord(word)
		conjugate, _ := impl.ConjugateMatrix(m, u)
		x, code := impl.FormOfMatrix(m)
		y, same := impl.FormOfMatrix(conjugate)
		if code != same {
			t.Errorf("FormOfMatrix of conjugate matrices: codes %d, %d", code, same)
		}
		if code == impl.ErrNone {
			got, code := impl.AreEquivalentForms(x, y)
			check(t, "AreEquivalentForms", got, code, true, impl.ErrNone)
		}
	}
}

func TestReducedForms(t *testing.T) {
	got, code := impl.ReducedForms(5)
	checkList(t, "ReducedForms", got, code, []impl.Form{{A: -1, B: 1, C: 1}, {A: 1, B: 1, C: -1}}, impl.ErrNone)
	got, code = impl.ReducedForms(12)
	checkList(t, "ReducedForms", got, code, []impl.Form{{A: -2, B: 2, C: 1}, {A: -1, B: 2, C: 2}, {A: 1, B: 2, C: -2}, {A: 2, B: 2, C: -1}}, impl.ErrNone)
	got, code = impl.ReducedForms(20)
	checkList(t, "ReducedForms", got, code, []impl.Form{{A: -2, B: 2, C: 2}, {A: -1, B: 4, C: 1}, {A: 1, B: 4, C: -1}, {A: 2, B: 2, C: -2}}, impl.ErrNone)
	got, code = impl.ReducedForms(17)
	checkList(t, "ReducedForms", got, code, []impl.Form{
		{A: -2, B: 1, C: 2}, {A: -2, B: 3, C: 1}, {A: -1, B: 3, C: 2}, {A: 1, B: 3, C: -2}, {A: 2, B: 1, C: -2}, {A: 2, B: 3, C: -1},
	}, impl.ErrNone)
	for d := int64(1); d <= 4000; d++ {
		got, code := impl.ReducedForms(d)
		if isSquare(d) || d%4 == 2 || d%4 == 3 {
			checkList(t, "ReducedForms", got, code, nil, impl.ErrState)
			number, code := impl.ClassNumber(d)
			check(t, "ClassNumber", number, code, 0, impl.ErrState)
			continue
		}
		checkList(t, "ReducedForms", got, code, reducedByHand(d), impl.ErrNone)
	}
}

func TestNumbersThatAreNoDiscriminants(t *testing.T) {
	for _, d := range append([]int64{0, -1, -3, -4, -5, -4000, 4001, 4002, 4004, 4005, 4096, 40000, top}, tooGreat...) {
		got, code := impl.ReducedForms(d)
		checkList(t, "ReducedForms", got, code, nil, impl.ErrRange)
		number, code := impl.ClassNumber(d)
		check(t, "ClassNumber", number, code, 0, impl.ErrRange)
	}
}

func TestClassNumber(t *testing.T) {
	cases := []struct{ d, want int64 }{
		{5, 1}, {8, 1}, {12, 2}, {13, 1}, {17, 1}, {20, 2}, {21, 2}, {24, 2}, {28, 2}, {29, 1}, {32, 3}, {40, 2}, {60, 4}, {229, 3}, {316, 6},
	}
	for _, c := range cases {
		got, code := impl.ClassNumber(c.d)
		check(t, "ClassNumber", got, code, c.want, impl.ErrNone)
	}
	for d := int64(2); d <= 4000; d += 19 {
		forms := reducedByHand(d)
		if isSquare(d) || d%4 > 1 {
			continue
		}
		// A cycle is told by its least form.
		least := map[impl.Form]bool{}
		for _, x := range forms {
			least[slices.MinFunc(cycleByHand(x), compareForms)] = true
		}
		got, code := impl.ClassNumber(d)
		check(t, "ClassNumber", got, code, int64(len(least)), impl.ErrNone)
	}
	got, code := impl.ClassNumber(4000)
	if code != impl.ErrNone || got < 1 {
		t.Errorf("ClassNumber(4000) = %d, %d", got, code)
	}
}

func compareForms(x impl.Form, y impl.Form) int {
	return slices.Compare([]int64{x.A, x.B, x.C}, []int64{y.A, y.B, y.C})
}
