package tests

import (
	"slices"
	"strings"
	"testing"

	"loop.example/g01297/impl"
)

func TestParentsOf(t *testing.T) {
	cases := []struct{ a, left, right impl.Point }{
		{impl.Point{3, 7}, impl.Point{2, 5}, impl.Point{1, 2}},
		{impl.Point{1, 2}, impl.Point{0, 1}, impl.Point{1, 1}},
		{impl.Point{-1, 2}, impl.Point{-1, 1}, impl.Point{0, 1}},
		{impl.Point{9, 2}, impl.Point{4, 1}, impl.Point{5, 1}},
		{impl.Point{-3, 7}, impl.Point{-1, 2}, impl.Point{-2, 5}},
		{impl.Point{1, top}, impl.Point{0, 1}, impl.Point{1, top - 1}},
		{impl.Point{-1, top}, impl.Point{-1, top - 1}, impl.Point{0, 1}},
		{impl.Point{top, top - 1}, impl.Point{1, 1}, impl.Point{top - 1, top - 2}},
		{impl.Point{999999, 2}, impl.Point{499999, 1}, impl.Point{500000, 1}},
		{impl.Point{-999999, 2}, impl.Point{-500000, 1}, impl.Point{-499999, 1}},
	}
	for _, c := range cases {
		got, code := impl.ParentsOf(c.a)
		checkList(t, "ParentsOf", got, code, []impl.Point{c.left, c.right}, impl.ErrNone)
	}
}

func TestParentsAreNeighboursWithTheFractionAsSum(t *testing.T) {
	for _, a := range slices.Concat(gridFractions(30), greatFractions(), manyFractions(3000, top)) {
		got, code := impl.ParentsOf(a)
		if a[1] < 2 {
			checkList(t, "ParentsOf", got, code, nil, impl.ErrState)
			continue
		}
		if code != impl.ErrNone || len(got) != 2 {
			t.Fatalf("ParentsOf(%v) = %v, %d", a, got, code)
		}
		l, r := got[0], got[1]
		if !areExactNeighbours(l, a) || !areExactNeighbours(a, r) || combine(1, l, 1, r) != a {
			t.Errorf("ParentsOf(%v) = %v", a, got)
		}
		if compareFractions(l, a) >= 0 || compareFractions(a, r) >= 0 || min(l[1], r[1]) < 1 || max(l[1], r[1]) >= a[1] {
			t.Errorf("ParentsOf(%v) = %v", a, got)
		}
		sum, code := impl.SumOfNeighbours(l, r)
		check(t, "SumOfNeighbours of parents", sum, code, a, impl.ErrNone)
	}
}

// TestNoOtherNeighboursHaveLesserSecondNumbers looks at all fractions that may be parents.
func TestNoOtherNeighboursHaveLesserSecondNumbers(t *testing.T) {
	all := gridFractions(15)
	for _, a := range all {
		if a[1] < 2 {
			continue
		}
		var want []impl.Point
		for _, b := range all {
			if 0 < b[1] && b[1] < a[1] && areExactNeighbours(a, b) {
				want = append(want, b)
			}
		}
		slices.SortFunc(want, compareFractions)
		got, code := impl.ParentsOf(a)
		checkList(t, "ParentsOf", got, code, want, impl.ErrNone)
	}
}

func TestPathOf(t *testing.T) {
	cases := []struct {
		a    impl.Point
		want string
		code int64
	}{
		{impl.Point{1, 1}, "", impl.ErrNone},
		{impl.Point{1, 2}, "L", impl.ErrNone},
		{impl.Point{2, 1}, "R", impl.ErrNone},
		{impl.Point{3, 7}, "LLRR", impl.ErrNone},
		{impl.Point{7, 3}, "RRLL", impl.ErrNone},
		{impl.Point{5, 3}, "RLR", impl.ErrNone},
		// Exactly MaxPath letters, and one more.
		{impl.Point{61, 1}, strings.Repeat("R", 60), impl.ErrNone},
		{impl.Point{1, 61}, strings.Repeat("L", 60), impl.ErrNone},
		{impl.Point{62, 1}, "", impl.ErrLimit},
		{impl.Point{1, 62}, "", impl.ErrLimit},
		{impl.Point{119, 2}, strings.Repeat("R", 59) + "L", impl.ErrNone},
		{impl.Point{121, 2}, "", impl.ErrLimit},
		{impl.Point{31*30 + 1, 30}, strings.Repeat("R", 31) + strings.Repeat("L", 29), impl.ErrNone},
		{impl.Point{31*31 + 1, 31}, "", impl.ErrLimit},
		// The greatest numbers.
		{impl.Point{832040, 514229}, strings.Repeat("RL", 14), impl.ErrNone},
		{impl.Point{514229, 832040}, strings.Repeat("LR", 14), impl.ErrNone},
		{impl.Point{top, 1}, "", impl.ErrLimit},
		{impl.Point{1, top}, "", impl.ErrLimit},
		{impl.Point{top, top - 1}, "", impl.ErrLimit},
		// p or q is less than 1.
		{infinity, "", impl.ErrState},
		{impl.Point{0, 1}, "", impl.ErrState},
		{impl.Point{-1, 1}, "", impl.ErrState},
		{impl.Point{-3, 7}, "", impl.ErrState},
		{impl.Point{-1, top}, "", impl.ErrState},
		{impl.Point{-top, 1}, "", impl.ErrState},
	}
	for _, c := range cases {
		got, code := impl.PathOf(c.a)
		check(t, "PathOf", got, code, c.want, c.code)
	}
}

func TestPathsHaveAsManyLettersAsExpansionsTell(t *testing.T) {
	found := map[int]bool{}
	for _, a := range slices.Concat(gridFractions(70), greatFractions(), manyFractions(3000, top)) {
		path, code := impl.PathOf(a)
		if a[0] < 1 || a[1] < 1 {
			check(t, "PathOf", path, code, "", impl.ErrState)
			continue
		}
		letters := lettersByExpansion(a)
		if letters > impl.MaxPath {
			check(t, "PathOf", path, code, "", impl.ErrLimit)
			continue
		}
		check(t, "PathOf", path, code, pathByHand(a), impl.ErrNone)
		check(t, "the number of letters", int64(len(path)), code, letters, impl.ErrNone)
		back, code := impl.FractionOfPath(path)
		check(t, "FractionOfPath", back, code, a, impl.ErrNone)
		found[len(path)] = true
	}
	for n := range impl.MaxPath + 1 {
		if !found[n] {
			t.Errorf("no path of %d letters was looked at", n)
		}
	}
}

func TestFractionOfPath(t *testing.T) {
	cases := []struct {
		path string
		want impl.Point
		code int64
	}{
		{"", impl.Point{1, 1}, impl.ErrNone},
		{"L", impl.Point{1, 2}, impl.ErrNone},
		{"R", impl.Point{2, 1}, impl.ErrNone},
		{"LLRR", impl.Point{3, 7}, impl.ErrNone},
		{strings.Repeat("R", 60), impl.Point{61, 1}, impl.ErrNone},
		{strings.Repeat("L", 60), impl.Point{1, 61}, impl.ErrNone},
		{strings.Repeat("R", 61), impl.Point{}, impl.ErrRange},
		{strings.Repeat("L", 61), impl.Point{}, impl.ErrRange},
		{strings.Repeat("LR", 5000), impl.Point{}, impl.ErrRange},
		// The greatest numbers that turns to and fro lead to, and greater ones.
		{strings.Repeat("RL", 14), impl.Point{832040, 514229}, impl.ErrNone},
		{strings.Repeat("LR", 14), impl.Point{514229, 832040}, impl.ErrNone},
		{strings.Repeat("RL", 14) + "R", impl.Point{}, impl.ErrLimit},
		{strings.Repeat("LR", 14) + "L", impl.Point{}, impl.ErrLimit},
		{strings.Repeat("RL", 30), impl.Point{}, impl.ErrLimit},
		{strings.Repeat("LR", 30), impl.Point{}, impl.ErrLimit},
		{strings.Repeat("LRR", 20), impl.Point{}, impl.ErrLimit},
		// Of a text that is no path, nothing else is asked.
		{strings.Repeat("LR", 30) + "L", impl.Point{}, impl.ErrRange},
		{strings.Repeat("LR", 29) + "Lx", impl.Point{}, impl.ErrRange},
		{"x" + strings.Repeat("LR", 29), impl.Point{}, impl.ErrRange},
	}
	for _, c := range cases {
		got, code := impl.FractionOfPath(c.path)
		check(t, "FractionOfPath", got, code, c.want, c.code)
	}
}

func TestTextsThatAreNoPaths(t *testing.T) {
	for b := range 256 {
		if b == 'L' || b == 'R' {
			continue
		}
		one := string([]byte{byte(b)})
		for _, text := range []string{one, one + one, "L" + one, one + "R", "L" + one + "R", "RLL" + one + "LRR", one + "LR" + one} {
			got, code := impl.FractionOfPath(text)
			check(t, "FractionOfPath", got, code, impl.Point{}, impl.ErrRange)
		}
	}
	for _, text := range []string{"LΛ", "Ł", "ＬＲ", "L R", "LR\n", " ", "lr"} {
		got, code := impl.FractionOfPath(text)
		check(t, "FractionOfPath", got, code, impl.Point{}, impl.ErrRange)
	}
}

// TestAllShortPaths goes from each fraction to the sums with both that are next to it.
func TestAllShortPaths(t *testing.T) {
	var look func(path string, left impl.Point, right impl.Point)
	look = func(path string, left impl.Point, right impl.Point) {
		a := combine(1, left, 1, right)
		got, code := impl.FractionOfPath(path)
		check(t, "FractionOfPath", got, code, a, impl.ErrNone)
		back, code := impl.PathOf(a)
		check(t, "PathOf", back, code, path, impl.ErrNone)
		if len(path) < 11 {
			look(path+"L", left, a)
			look(path+"R", a, right)
		}
	}
	look("", impl.Point{0, 1}, infinity)
}

// TestPathsToTheGreatestNumbers looks for paths of fractions with exactly MaxCoord, and one more.
func TestPathsToTheGreatestNumbers(t *testing.T) {
	found := 0
	for small := int64(1000); small < top; small++ {
		path := pathByHand(impl.Point{top, small})
		if exactDivisor(top, small) == 1 && len(path) <= impl.MaxPath {
			found++
			got, code := impl.FractionOfPath(path)
			check(t, "FractionOfPath", got, code, impl.Point{top, small}, impl.ErrNone)
			back, code := impl.PathOf(got)
			check(t, "PathOf", back, code, path, impl.ErrNone)
			got, code = impl.FractionOfPath(turnedOver(path))
			check(t, "FractionOfPath", got, code, impl.Point{small, top}, impl.ErrNone)
		}
		path = pathByHand(impl.Point{top + 1, small})
		if exactDivisor(top+1, small) == 1 && len(path) <= impl.MaxPath {
			found++
			got, code := impl.FractionOfPath(path)
			check(t, "FractionOfPath", got, code, impl.Point{}, impl.ErrLimit)
			got, code = impl.FractionOfPath(turnedOver(path))
			check(t, "FractionOfPath", got, code, impl.Point{}, impl.ErrLimit)
		}
		if found > 400 {
			return
		}
	}
	t.Errorf("only %d paths were found", found)
}

// turnedOver has L for R, and R for L: the path of q / p.
func turnedOver(path string) string { return strings.NewReplacer("L", "R", "R", "L").Replace(path) }

func TestFareyList(t *testing.T) {
	if impl.MaxOrder != 16 || impl.MaxPath != 60 {
		t.Errorf("the limits are %d and %d", impl.MaxOrder, impl.MaxPath)
	}
	for n := int64(1); n <= 16; n++ {
		var want []impl.Point
		for _, a := range gridFractions(n) {
			if 0 <= a[0] && a[0] <= a[1] {
				want = append(want, a)
			}
		}
		slices.SortFunc(want, compareFractions)
		got, code := impl.FareyList(n)
		checkList(t, "FareyList", got, code, want, impl.ErrNone)
		for i := 1; i < len(got); i++ {
			near, code := impl.AreNeighbours(got[i-1], got[i])
			check(t, "AreNeighbours of a list", near, code, true, impl.ErrNone)
		}
	}
	got, code := impl.FareyList(1)
	checkList(t, "FareyList", got, code, []impl.Point{{0, 1}, {1, 1}}, impl.ErrNone)
	for _, n := range append([]int64{0, -1, -16, 17, 100, top}, tooGreat...) {
		got, code := impl.FareyList(n)
		checkList(t, "FareyList", got, code, nil, impl.ErrRange)
	}
}

func TestListsOfFractionsAreNew(t *testing.T) {
	checkNew(t, func() ([]impl.Point, int64) { return impl.FareyList(5) })
	checkNew(t, func() ([]impl.Point, int64) { return impl.ParentsOf(impl.Point{3, 7}) })
	checkNew(t, func() ([]impl.Point, int64) { return impl.GeodesicOf(impl.Point{0, 1}, impl.Point{5, 12}) })
}
