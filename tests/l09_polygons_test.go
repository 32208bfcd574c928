package tests

import (
	"fmt"
	"slices"
	"testing"

	"loop.example/g01297/impl"
)

func TestLimitsOfPolygons(t *testing.T) {
	if impl.MaxCorners != 12 || impl.MaxSide != 1000 {
		t.Errorf("MaxCorners, MaxSide = %d, %d; want 12, 1000", impl.MaxCorners, impl.MaxSide)
	}
}

func TestIsPolygon(t *testing.T) {
	for _, x := range allPolygons() {
		for i := range x {
			if !impl.IsPolygon(from(x, i)) {
				t.Errorf("%v is a polygon", from(x, i))
			}
			if back := backwards(from(x, i)); impl.IsPolygon(back) {
				t.Errorf("%v has its inside to the right", back)
			}
		}
	}
	for _, x := range badPolygons() {
		if impl.IsPolygon(x) {
			t.Errorf("%v is no polygon", x)
		}
	}
}

func TestAllShortListsOfPoints(t *testing.T) {
	for length := 1; length <= 5; length++ {
		numbers := make([]int, length)
		for numbers[length-1] < 9 {
			var list []impl.Point
			for _, k := range numbers {
				list = append(list, impl.Point{int64(k / 3), int64(k % 3)})
			}
			if got, want := impl.IsPolygon(list), isPolygonByHand(list); got != want {
				t.Errorf("IsPolygon(%v) = %v", list, got)
			}
			numbers[0]++
			for i := 0; i < length-1 && numbers[i] == 9; i++ {
				numbers[i] = 0
				numbers[i+1]++
			}
		}
	}
}

// Corners in another order, one for another, one more, or one less: some of these lists are polygons.
func TestChangedPolygons(t *testing.T) {
	next := numbersFrom(6)
	polygons := 0
	for _, x := range allPolygons() {
		for range 20 {
			i, j := next(int64(len(x))), next(int64(len(x)))
			swapped, moved := slices.Clone(x), slices.Clone(x)
			swapped[i], swapped[j] = x[j], x[i]
			moved[i][next(2)] += next(5) - 2
			longer := slices.Insert(slices.Clone(x), int(i), combine(1, x[j], 1, impl.Point{next(5) - 2, next(5) - 2}))
			for _, y := range [][]impl.Point{swapped, moved, longer, slices.Delete(slices.Clone(x), int(i), int(i)+1)} {
				want := isPolygonByHand(y) && slices.Max(numbersOf(y)) <= side && slices.Min(numbersOf(y)) >= -side
				if got := impl.IsPolygon(y); got != want {
					t.Errorf("IsPolygon(%v) = %v", y, got)
				}
				if want && !slices.Equal(x, y) {
					polygons++
				}
			}
		}
	}
	if polygons == 0 {
		t.Error("no changed list is a polygon")
	}
}

// Every second corner, or every third one, and so on: they turn to the left everywhere as well.
func TestPolygonsGoAroundOnce(t *testing.T) {
	stars := 0
	for n := 5; n <= 12; n++ {
		for few := 2; few < n; few++ {
			x := jumps(sixteen()[:n], few)
			if impl.IsPolygon(x) {
				t.Errorf("%v goes around more than once", x)
			}
			left := true
			for i, a := range x {
				left = left && exactTurn(impl.Triangle{a, x[(i+1)%n], x[(i+2)%n]}) > 0
			}
			if left {
				stars++
			}
		}
	}
	if stars < 5 {
		t.Errorf("only %d lists turn to the left everywhere", stars)
	}
}

func TestEachNumberOfACornerHasTheLimit(t *testing.T) {
	for _, n := range slices.Concat([]int64{999, -999, 1000, -1000}, badCornerNumbers()) {
		cases := [][]impl.Point{
			{{n, 0}, {0, 1}, {0, -1}}, {{0, 1}, {0, -1}, {n, 0}}, {{0, -1}, {n, 0}, {0, 1}},
			{{0, n}, {-1, 0}, {1, 0}}, {{-1, 0}, {1, 0}, {0, n}}, {{1, 0}, {0, n}, {-1, 0}},
		}
		for _, x := range cases {
			if n < 0 {
				slices.Reverse(x)
			}
			if got, want := impl.IsPolygon(x), -1000 <= n && n <= 1000; got != want {
				t.Errorf("IsPolygon(%v) = %v", x, got)
			}
		}
	}
}

func TestOrderPolygon(t *testing.T) {
	cases := []struct{ of, want []impl.Point }{
		{[]impl.Point{{2, 2}, {0, 2}, {0, 0}, {2, 0}}, twoSquare},
		{twoSquare, twoSquare},
		{threeArms, []impl.Point{{-1, -1}, {1, 0}, {0, 1}}},
		// Two corners have the least first number.
		{[]impl.Point{{0, 1}, {0, 0}, {1, 0}}, halfSquare},
		{[]impl.Point{{1000, 1000}, {-1000, 1000}, {-1000, -1000}, {1000, -1000}}, allOfIt},
		{[]impl.Point{{5, -3}, {-2, 9}, {-2, -9}}, []impl.Point{{-2, -9}, {5, -3}, {-2, 9}}},
	}
	for _, c := range cases {
		got, code := impl.OrderPolygon(c.of)
		checkList(t, fmt.Sprintf("OrderPolygon(%v)", c.of), got, code, c.want, impl.ErrNone)
	}
	for _, x := range allPolygons() {
		for i := range x {
			got, code := impl.OrderPolygon(from(x, i))
			checkList(t, fmt.Sprintf("OrderPolygon(%v)", from(x, i)), got, code, hullByHand(x), impl.ErrNone)
		}
	}
}

func TestErrorsOfPolygons(t *testing.T) {
	for _, x := range badPolygons() {
		call := fmt.Sprintf("with %v", x[:min(len(x), 20)])
		list, code := impl.OrderPolygon(x)
		checkList(t, "OrderPolygon "+call, list, code, nil, impl.ErrInvalid)
		n, code := impl.AreaOfPolygon(x)
		check(t, "AreaOfPolygon "+call, n, code, 0, impl.ErrInvalid)
		n, code = impl.BorderNumber(x)
		check(t, "BorderNumber "+call, n, code, 0, impl.ErrInvalid)
		n, code = impl.InnerNumber(x)
		check(t, "InnerNumber "+call, n, code, 0, impl.ErrInvalid)
		list, code = impl.NormalPolygon(x)
		checkList(t, "NormalPolygon "+call, list, code, nil, impl.ErrInvalid)
		list, code = impl.DualPolygon(x)
		checkList(t, "DualPolygon "+call, list, code, nil, impl.ErrInvalid)
		checkErrorsOfTwo(t, x, threeArms, call)
		checkErrorsOfTwo(t, threeArms, x, call)
		checkErrorsOfTwo(t, x, x, call)
	}
}

func checkErrorsOfTwo(t *testing.T, x []impl.Point, y []impl.Point, call string) {
	t.Helper()
	yes, code := impl.AreLikePolygons(x, y)
	check(t, "AreLikePolygons "+call, yes, code, false, impl.ErrInvalid)
	list, code := impl.AddPolygons(x, y)
	checkList(t, "AddPolygons "+call, list, code, nil, impl.ErrInvalid)
}

// What is invalid is told ahead of all other errors.
func TestPolygonsAreAskedFirst(t *testing.T) {
	for _, x := range badPolygons() {
		call := fmt.Sprintf("with %v", x[:min(len(x), 20)])
		for _, k := range []int64{0, 1, 1000, -1, 1001, tooGreat[7]} {
			n, code := impl.CountOfMultiple(x, k)
			check(t, "CountOfMultiple "+call, n, code, 0, impl.ErrInvalid)
		}
		for _, a := range []impl.Point{{0, 0}, {1, 2}, {2, 4}, {top + 1, 0}} {
			n, code := impl.WhereInPolygon(x, a)
			check(t, "WhereInPolygon "+call, n, code, 0, impl.ErrInvalid)
			n, code = impl.WidthFor(x, a)
			check(t, "WidthFor "+call, n, code, 0, impl.ErrInvalid)
			for _, m := range []impl.Matrix{unit, scale(2), scale(0), scale(top + 1)} {
				list, code := impl.MapPolygon(m, x, a)
				checkList(t, "MapPolygon "+call, list, code, nil, impl.ErrInvalid)
			}
		}
	}
}

func TestPointsWithPolygonsAreAskedFirst(t *testing.T) {
	for _, x := range [][]impl.Point{halfSquare, twoSquare, allOfIt} {
		for _, a := range badPoints() {
			n, code := impl.WhereInPolygon(x, a)
			check(t, fmt.Sprintf("WhereInPolygon(%v, %v)", x, a), n, code, 0, impl.ErrInvalid)
			n, code = impl.WidthFor(x, a)
			check(t, fmt.Sprintf("WidthFor(%v, %v)", x, a), n, code, 0, impl.ErrInvalid)
			for _, m := range []impl.Matrix{unit, scale(2), scale(top)} {
				list, code := impl.MapPolygon(m, x, a)
				checkList(t, fmt.Sprintf("MapPolygon(%v, %v, %v)", m, x, a), list, code, nil, impl.ErrInvalid)
			}
		}
		for _, m := range badMatrices() {
			list, code := impl.MapPolygon(m, x, impl.Point{1, 2})
			checkList(t, fmt.Sprintf("MapPolygon(%v, %v)", m, x), list, code, nil, impl.ErrInvalid)
		}
	}
}

func TestListsOfPolygonsAreNew(t *testing.T) {
	lists := [][]impl.Point{{{-1, -1}, {1, 0}, {0, 1}}, threeArms, {{-1, -1}, {1, -1}, {1, 1}, {-1, 1}}}
	for _, given := range lists {
		for _, x := range [][]impl.Point{given, slices.Clip(given), slices.Grow(given, 20)} {
			checkNew(t, func() ([]impl.Point, int64) { return impl.HullOf(x) })
			checkNew(t, func() ([]impl.Point, int64) { return impl.OrderPolygon(x) })
			checkNew(t, func() ([]impl.Point, int64) { return impl.NormalPolygon(x) })
			checkNew(t, func() ([]impl.Point, int64) { return impl.DualPolygon(x) })
			checkNew(t, func() ([]impl.Point, int64) { return impl.AddPolygons(x, x) })
			checkNew(t, func() ([]impl.Point, int64) { return impl.MapPolygon(unit, x, impl.Point{}) })
		}
	}
}

// The normal form of this one is itself.
func TestNormalFormsShareNoMemory(t *testing.T) {
	x := []impl.Point{{0, 0}, {1, 0}, {1, 1}}
	checkNew(t, func() ([]impl.Point, int64) { return impl.NormalPolygon(x) })
	checkNew(t, func() ([]impl.Point, int64) { return impl.OrderPolygon(x) })
	checkNew(t, func() ([]impl.Point, int64) { return impl.HullOf(x) })
}

func TestPolygonsAreNotTouched(t *testing.T) {
	for _, x := range slices.Concat(somePolygons(), badPolygons()) {
		room := append(slices.Grow(slices.Clone(x), 30), impl.Point{7, 7})
		room = room[:cap(room)]
		before := slices.Clone(room)
		given := room[:len(x)]
		impl.IsPolygon(given)
		impl.HullOf(given)
		impl.OrderPolygon(given)
		impl.AreaOfPolygon(given)
		impl.BorderNumber(given)
		impl.InnerNumber(given)
		impl.CountOfMultiple(given, 3)
		impl.WhereInPolygon(given, impl.Point{1, 1})
		impl.NormalPolygon(given)
		impl.AreLikePolygons(given, given)
		impl.DualPolygon(given)
		impl.AddPolygons(given, given)
		impl.MapPolygon(impl.Matrix{{0, 1}, {1, 0}}, given, impl.Point{1, 1})
		impl.WidthFor(given, impl.Point{1, 2})
		if !slices.Equal(room, before) {
			t.Errorf("%v has become %v", before[:len(x)], room)
		}
	}
}
