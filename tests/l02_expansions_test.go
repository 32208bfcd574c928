package tests

import (
	"slices"
	"testing"

	"loop.example/g01297/impl"
)

func TestExpansionOfCorner(t *testing.T) {
	cases := []struct {
		x    impl.Corner
		want []int64
	}{
		{corner(1, 0, 0, 1), []int64{1}},
		{corner(1, 0, 1, 5), []int64{5}},
		{corner(1, 0, 1, top), []int64{top}},
		{corner(1, 0, 7, 10), []int64{1, 2, 3}},
		{corner(1, 0, 2, 5), []int64{2, 1, 1}},
		{corner(1, 0, 2, -5), []int64{2, 1, 1}},
		{corner(1, 0, 2, 3), []int64{1, 1, 1}},
		{corner(1, 0, 3, 7), []int64{2, 2, 1}},
		{corner(1, 0, top-1, top), []int64{1, top - 2, 1}},
		{corner(1, 0, 514229, 832040), slices.Repeat([]int64{1}, 29)},
	}
	for _, c := range cases {
		got, code := impl.ExpansionOfCorner(c.x)
		checkList(t, "ExpansionOfCorner", got, code, c.want, impl.ErrNone)
	}
}

func TestCornersComeBackFromTheirLongExpansions(t *testing.T) {
	for _, x := range append(gridCorners(6), greatCorners()...) {
		list, code := impl.ExpansionOfCorner(x)
		checkList(t, "ExpansionOfCorner", list, code, longByHand(exactSine(x), cosineByCounting(x)), impl.ErrNone)
		if len(list)%2 == 0 || slices.Min(list) < 1 {
			t.Errorf("ExpansionOfCorner(%v) = %v", x, list)
		}
		form, _ := impl.NormalCorner(x)
		back, code := impl.CornerOfExpansion(list)
		check(t, "CornerOfExpansion of a long expansion", back, code, form, impl.ErrNone)
		same, code := impl.AreEqualCorners(x, back)
		check(t, "AreEqualCorners", same, code, true, impl.ErrNone)
	}
}

func TestCornerOfTangent(t *testing.T) {
	for s := int64(-2); s <= 40; s++ {
		for c := int64(-2); c <= 42; c++ {
			got, code := impl.CornerOfTangent(s, c)
			if c < 1 || c > s || divisorByCounting(s, c) != 1 {
				check(t, "CornerOfTangent", got, code, impl.Corner{}, impl.ErrRange)
				continue
			}
			check(t, "CornerOfTangent", got, code, corner(1, 0, c, s), impl.ErrNone)
			sine, code := impl.SineOf(got)
			check(t, "SineOf", sine, code, s, impl.ErrNone)
			cosine, code := impl.CosineOf(got)
			check(t, "CosineOf", cosine, code, c, impl.ErrNone)
		}
	}
	for _, c := range []int64{1, 3, top - 1} {
		got, code := impl.CornerOfTangent(top, c)
		check(t, "CornerOfTangent", got, code, corner(1, 0, c, top), impl.ErrNone)
	}
	bad := [][2]int64{{top, 0}, {top, 2}, {top, top}, {top - 1, top}, {top + 1, 1}, {top + 1, top}, {0, 0}, {-5, -5}}
	for _, n := range tooGreat {
		bad = append(bad, [2]int64{n, 1}, [2]int64{1, n}, [2]int64{top, n}, [2]int64{n, n})
	}
	for _, p := range bad {
		got, code := impl.CornerOfTangent(p[0], p[1])
		check(t, "CornerOfTangent", got, code, impl.Corner{}, impl.ErrRange)
	}
}

func TestCornerOfExpansion(t *testing.T) {
	cases := []struct {
		list []int64
		want impl.Corner
	}{
		{[]int64{2, 1, 1}, corner(1, 0, 2, 5)},
		{[]int64{5}, corner(1, 0, 1, 5)},
		{[]int64{-3}, corner(1, 0, 1, -3)},
		{[]int64{top}, corner(1, 0, 1, top)},
		{[]int64{-top}, corner(1, 0, 1, -top)},
		{[]int64{3, 0, 2}, corner(1, 0, 1, 5)},
		{[]int64{-2, -1, -1}, corner(1, 0, 2, -5)},
		{[]int64{-2, 3, 4}, corner(1, 0, 13, -22)},
		{[]int64{1, 1, 4, -3, 2}, corner(1, 0, -23, -41)},
		// P is 0 on the way only.
		{[]int64{1, 1, 0}, corner(1, 0, 1, 1)},
		{[]int64{2, -1, 1}, corner(1, 0, 0, 1)},
		{[]int64{3, 1, -1}, corner(1, 0, 0, -1)},
		{[]int64{top, 0, 0}, corner(1, 0, 1, top)},
		{[]int64{top, 1, 0}, corner(1, 0, 1, top)},
		// A number is the greatest one, in the result or on the way.
		{[]int64{0, 0, -top}, corner(1, 0, 1, -top)},
		{[]int64{top - 1, 0, 1}, corner(1, 0, 1, top)},
		{[]int64{1 - top, 0, -1}, corner(1, 0, 1, -top)},
		{[]int64{0, top - 1, 1, 0, 0}, corner(1, 0, top, 1)},
		{[]int64{0, 999, 1000}, corner(1, 0, 999001, 1000)},
		{[]int64{-1, 1, top - 1}, corner(1, 0, top, -1)},
	}
	for _, c := range cases {
		got, code := impl.CornerOfExpansion(c.list)
		check(t, "CornerOfExpansion", got, code, c.want, impl.ErrNone)
	}
}

func TestCornersOfListsAreAsDefined(t *testing.T) {
	for i := range 5 * 5 * 5 * 5 * 5 {
		var list []int64
		for n := i; len(list) < 5; n /= 5 {
			list = append(list, int64(n%5)-2)
		}
		for _, part := range [][]int64{list, list[:3], list[:1]} {
			p, q := exactFold(part)
			want, wantCode := corner(1, 0, q, p), int64(impl.ErrNone)
			if p == 0 {
				want, wantCode = impl.Corner{}, impl.ErrState
			}
			got, code := impl.CornerOfExpansion(part)
			check(t, "CornerOfExpansion", got, code, want, wantCode)
		}
	}
}

func TestListsThatHaveNoCorner(t *testing.T) {
	cases := []struct {
		list []int64
		code int64
	}{
		{[]int64{0}, impl.ErrState},
		{[]int64{0, top, 0}, impl.ErrState},
		{[]int64{1, -2, 1}, impl.ErrState},
		{[]int64{-1, 2, -1}, impl.ErrState},
		{[]int64{top, 0, 1}, impl.ErrLimit},
		{[]int64{-top, 0, -1}, impl.ErrLimit},
		{[]int64{1, 999, 1000}, impl.ErrLimit},
		{[]int64{0, -1001, 1000}, impl.ErrLimit},
		{[]int64{0, 1000, 1000}, impl.ErrLimit},
		{[]int64{-1, 1, top}, impl.ErrLimit},
		{[]int64{top, top, top}, impl.ErrLimit},
		{[]int64{-top, top, -top}, impl.ErrLimit},
		// The corner would be 1, 0 and 1, 2, but one number on the way is too great.
		{[]int64{3, top, -1, 1, top}, impl.ErrLimit},
		// P would be 0 in the end.
		{[]int64{1, top, -1, 1, top}, impl.ErrLimit},
		{[]int64{0, 0, 0, 1, 0, 1, top}, impl.ErrLimit},
	}
	for _, c := range cases {
		got, code := impl.CornerOfExpansion(c.list)
		check(t, "CornerOfExpansion", got, code, impl.Corner{}, c.code)
	}
}

func TestListsThatAreNotAsTold(t *testing.T) {
	lists := [][]int64{nil, {}, {1, 2}, {0, 0}, {top, top}, {1, 2, 3, 4}, {2, 2}}
	for _, n := range tooGreat {
		lists = append(lists, []int64{n}, []int64{n, 0, 1}, []int64{0, n, 1}, []int64{1, 1, n}, []int64{n, top, top}, []int64{n, 1})
	}
	for _, list := range lists {
		got, code := impl.CornerOfExpansion(list)
		check(t, "CornerOfExpansion", got, code, impl.Corner{}, impl.ErrRange)
	}
}

func TestListsOfAsManyNumbersAsMayBe(t *testing.T) {
	longest := impl.MaxTerms - 1
	got, code := impl.CornerOfExpansion(zerosBehind(longest, 7))
	check(t, "CornerOfExpansion", got, code, corner(1, 0, 1, 7), impl.ErrNone)
	got, code = impl.CornerOfExpansion(zerosBehind(longest))
	check(t, "CornerOfExpansion", got, code, impl.Corner{}, impl.ErrState)
	got, code = impl.CornerOfExpansion(slices.Repeat([]int64{1}, longest))
	check(t, "CornerOfExpansion", got, code, impl.Corner{}, impl.ErrLimit)
	for _, k := range []int64{top, -top} {
		got, code = impl.CornerOfExpansion(slices.Repeat([]int64{k}, longest))
		check(t, "CornerOfExpansion", got, code, impl.Corner{}, impl.ErrLimit)
	}
	for _, n := range []int{impl.MaxTerms, impl.MaxTerms + 1, impl.MaxTerms + 2, 1001} {
		for _, list := range [][]int64{zerosBehind(n, 7), zerosBehind(n), slices.Repeat([]int64{top}, n)} {
			got, code = impl.CornerOfExpansion(list)
			check(t, "CornerOfExpansion", got, code, impl.Corner{}, impl.ErrRange)
		}
	}
}

func TestListsOfCornersAreNotTouched(t *testing.T) {
	memory := []int64{2, 1, 1, 7, 8}
	impl.CornerOfExpansion(memory[:3])
	if !slices.Equal(memory, []int64{2, 1, 1, 7, 8}) {
		t.Errorf("CornerOfExpansion leaves %v", memory)
	}
	first, _ := impl.ExpansionOfCorner(corner(1, 0, 2, 5))
	first[0] = 99
	again, code := impl.ExpansionOfCorner(corner(1, 0, 2, 5))
	checkList(t, "ExpansionOfCorner", again, code, []int64{2, 1, 1}, impl.ErrNone)
}
