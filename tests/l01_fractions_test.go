package tests

import (
	"slices"
	"testing"

	"loop.example/g01297/impl"
)

// ratios are numbers p and q that may be expanded, the greatest ones among them.
func ratios() [][2]int64 {
	var list [][2]int64
	for p := int64(-40); p <= 40; p++ {
		for q := int64(1); q <= 40; q++ {
			list = append(list, [2]int64{p, q})
		}
	}
	for _, n := range []int64{1, 2, 7, 1000, 514229, 832040, top - 1, top} {
		for _, q := range []int64{1, 2, 3, 514229, 832040, top - 1, top} {
			list = append(list, [2]int64{n, q}, [2]int64{-n, q})
		}
	}
	return list
}

// badRatios are numbers p and q that may not be expanded.
func badRatios() [][2]int64 {
	list := [][2]int64{{1, 0}, {0, 0}, {1, -1}, {-1, -1}, {top, -top}}
	for _, n := range tooGreat {
		list = append(list, [2]int64{n, 1}, [2]int64{1, n}, [2]int64{n, n})
	}
	return list
}

func TestExpandFraction(t *testing.T) {
	cases := []struct {
		p, q int64
		want []int64
	}{
		{0, 1, []int64{0}},
		{0, top, []int64{0}},
		{5, 1, []int64{5}},
		{-6, 2, []int64{-3}},
		{top, 1, []int64{top}},
		{-top, 1, []int64{-top}},
		{top, top, []int64{1}},
		{-7, 3, []int64{-3, 1, 2}},
		{10, 7, []int64{1, 2, 3}},
		{20, 14, []int64{1, 2, 3}},
		{1, 2, []int64{0, 2}},
		{-1, 2, []int64{-1, 2}},
		{1, top, []int64{0, top}},
		{-1, top, []int64{-1, 1, top - 1}},
	}
	for _, c := range cases {
		got, code := impl.ExpandFraction(c.p, c.q)
		checkList(t, "ExpandFraction", got, code, c.want, impl.ErrNone)
	}
	// Neighbours of Fibonacci have the longest expansion.
	got, code := impl.ExpandFraction(832040, 514229)
	checkList(t, "ExpandFraction", got, code, append(slices.Repeat([]int64{1}, 27), 2), impl.ErrNone)
	for _, r := range badRatios() {
		got, code := impl.ExpandFraction(r[0], r[1])
		checkList(t, "ExpandFraction", got, code, nil, impl.ErrRange)
	}
}

func TestExpansionsAreRegularAndLeadBack(t *testing.T) {
	for _, r := range ratios() {
		list, code := impl.ExpandFraction(r[0], r[1])
		if code != impl.ErrNone || len(list) == 0 || len(list) > 1 && list[len(list)-1] < 2 {
			t.Fatalf("ExpandFraction(%d, %d) = %v, %d", r[0], r[1], list, code)
		}
		for _, k := range list[1:] {
			if k < 1 {
				t.Errorf("ExpandFraction(%d, %d) = %v", r[0], r[1], list)
			}
		}
		p, q, code := impl.FractionOf(list)
		primitive, _ := impl.PrimitiveOf(impl.Point{r[0], r[1]})
		check(t, "FractionOf an expansion", impl.Point{p, q}, code, primitive, impl.ErrNone)
	}
}

func TestFractionOf(t *testing.T) {
	cases := []struct {
		list []int64
		want impl.Point
		code int64
	}{
		{[]int64{0}, impl.Point{0, 1}, impl.ErrNone},
		{[]int64{-top}, impl.Point{-top, 1}, impl.ErrNone},
		{[]int64{top}, impl.Point{top, 1}, impl.ErrNone},
		{[]int64{0, 1}, impl.Point{1, 1}, impl.ErrNone},
		{[]int64{-1, 1}, impl.Point{0, 1}, impl.ErrNone},
		{[]int64{-3, 1, 2}, impl.Point{-7, 3}, impl.ErrNone},
		{[]int64{1, 2, 2, 1}, impl.Point{10, 7}, impl.ErrNone},
		{[]int64{0, top}, impl.Point{1, top}, impl.ErrNone},
		{[]int64{0, 1, top - 1}, impl.Point{top - 1, top}, impl.ErrNone},
		{[]int64{-1, 1, top - 1}, impl.Point{-1, top}, impl.ErrNone},
		{[]int64{0, 1, top}, impl.Point{}, impl.ErrLimit},
		{[]int64{-1, 1, top}, impl.Point{}, impl.ErrLimit},
		{[]int64{top - 1, 1}, impl.Point{top, 1}, impl.ErrNone},
		{[]int64{top, 1}, impl.Point{}, impl.ErrLimit},
		{[]int64{-top, 2}, impl.Point{}, impl.ErrLimit},
		{[]int64{-top, 1}, impl.Point{1 - top, 1}, impl.ErrNone},
		{[]int64{0, 1000, 1000}, impl.Point{}, impl.ErrLimit},
		{[]int64{0, 1000, 999}, impl.Point{999, 999001}, impl.ErrNone},
		{slices.Repeat([]int64{top}, impl.MaxTerms), impl.Point{}, impl.ErrLimit},
		{slices.Repeat([]int64{1}, 29), impl.Point{832040, 514229}, impl.ErrNone},
		{slices.Repeat([]int64{1}, 30), impl.Point{}, impl.ErrLimit},
		{slices.Repeat([]int64{1}, impl.MaxTerms), impl.Point{}, impl.ErrLimit},
	}
	for _, c := range cases {
		p, q, code := impl.FractionOf(c.list)
		check(t, "FractionOf", impl.Point{p, q}, code, c.want, c.code)
	}
}

func TestListsThatHaveNoFraction(t *testing.T) {
	lists := [][]int64{
		nil, {}, {1, 0}, {1, -1}, {0, 2, 0}, {0, 0, 2}, {top, top, top, 0},
		slices.Repeat([]int64{1}, impl.MaxTerms+1), slices.Repeat([]int64{top}, impl.MaxTerms+1),
	}
	for _, n := range tooGreat {
		lists = append(lists, []int64{n}, []int64{n, 2}, []int64{0, n}, []int64{0, n, 2}, []int64{top, top, n})
	}
	for _, list := range lists {
		p, q, code := impl.FractionOf(list)
		check(t, "FractionOf", impl.Point{p, q}, code, impl.Point{}, impl.ErrRange)
	}
}

func TestConvergentsOf(t *testing.T) {
	cases := []struct {
		p, q int64
		want []impl.Point
	}{
		{10, 7, []impl.Point{{1, 1}, {3, 2}, {10, 7}}},
		{0, 9, []impl.Point{{0, 1}}},
		{-6, 3, []impl.Point{{-2, 1}}},
		{-7, 3, []impl.Point{{-3, 1}, {-2, 1}, {-7, 3}}},
		{-1, top, []impl.Point{{-1, 1}, {0, 1}, {-1, top}}},
		{-top, 1, []impl.Point{{-top, 1}}},
	}
	for _, c := range cases {
		got, code := impl.ConvergentsOf(c.p, c.q)
		checkList(t, "ConvergentsOf", got, code, c.want, impl.ErrNone)
	}
	for _, r := range badRatios() {
		got, code := impl.ConvergentsOf(r[0], r[1])
		checkList(t, "ConvergentsOf", got, code, nil, impl.ErrRange)
	}
}

func TestConvergentsAreFractionsOfBeginnings(t *testing.T) {
	for _, r := range ratios() {
		list, _ := impl.ExpandFraction(r[0], r[1])
		var want []impl.Point
		for i := range list {
			p, q, code := impl.FractionOf(list[:i+1])
			check(t, "FractionOf a beginning", q > 0, code, true, impl.ErrNone)
			want = append(want, impl.Point{p, q})
		}
		got, code := impl.ConvergentsOf(r[0], r[1])
		checkList(t, "ConvergentsOf", got, code, want, impl.ErrNone)
	}
}

func TestListsAreNotTouched(t *testing.T) {
	memory := []int64{-3, 1, 2, 7, 8}
	impl.FractionOf(memory[:3])
	if !slices.Equal(memory, []int64{-3, 1, 2, 7, 8}) {
		t.Errorf("FractionOf leaves %v", memory)
	}
	first, _ := impl.ExpandFraction(10, 7)
	first[0] = 99
	again, code := impl.ExpandFraction(10, 7)
	checkList(t, "ExpandFraction", again, code, []int64{1, 2, 3}, impl.ErrNone)
}
