package tests

import (
	"fmt"
	"slices"
	"testing"

	"loop.example/g01297/impl"
)

func checkNormal(t *testing.T, x []impl.Point, want []impl.Point, wantCode int64) {
	t.Helper()
	got, code := impl.NormalPolygon(x)
	checkList(t, fmt.Sprintf("NormalPolygon(%v)", x), got, code, want, wantCode)
}

func checkLike(t *testing.T, x []impl.Point, y []impl.Point, want bool, wantCode int64) {
	t.Helper()
	got, code := impl.AreLikePolygons(x, y)
	check(t, fmt.Sprintf("AreLikePolygons(%v, %v)", x, y), got, code, want, wantCode)
	got, code = impl.AreLikePolygons(y, x)
	check(t, fmt.Sprintf("AreLikePolygons(%v, %v)", y, x), got, code, want, wantCode)
}

func TestNormalPolygon(t *testing.T) {
	cases := []struct{ of, want []impl.Point }{
		{[]impl.Point{{5, 5}, {6, 7}, {5, 6}}, []impl.Point{{0, 0}, {1, 0}, {1, 1}}},
		{halfSquare, []impl.Point{{0, 0}, {1, 0}, {1, 1}}},
		{twoSquare, []impl.Point{{0, 0}, {2, 0}, {2, 2}, {0, 2}}},
		{threeArms, []impl.Point{{0, 0}, {1, 0}, {2, 3}}},
		{[]impl.Point{{0, 0}, {3, 0}, {0, 3}}, []impl.Point{{0, 0}, {3, 0}, {3, 3}}},
		{[]impl.Point{{0, 0}, {5, 0}, {0, 1}}, []impl.Point{{0, 0}, {1, 0}, {1, 5}}},
		// Two of the sides have the length 1; the last point is to the left of 0.
		{[]impl.Point{{0, 0}, {1, 0}, {2, 1}, {0, 1}}, []impl.Point{{0, 0}, {1, 0}, {1, 1}, {-1, 1}}},
		{[]impl.Point{{0, 0}, {1, 0}, {1, 1}, {0, 1}}, []impl.Point{{0, 0}, {1, 0}, {1, 1}, {0, 1}}},
		// Like themselves from each corner on, and the other way around as well.
		{[]impl.Point{{1, 0}, {0, 1}, {-1, 0}, {0, -1}}, []impl.Point{{0, 0}, {1, 0}, {2, 2}, {1, 2}}},
		{[]impl.Point{{-1, -1}, {0, -1}, {1, 0}, {1, 1}, {0, 1}, {-1, 0}}, []impl.Point{{0, 0}, {1, 0}, {1, 1}, {0, 2}, {-1, 2}, {-1, 1}}},
		{allOfIt, []impl.Point{{0, 0}, {2000, 0}, {2000, 2000}, {0, 2000}}},
		// Numbers greater than MaxSide, which are no numbers of a polygon.
		{[]impl.Point{{-1000, 0}, {1000, 0}, {1000, 1}}, []impl.Point{{0, 0}, {1, 0}, {1, 2000}}},
		{[]impl.Point{{-1000, -1000}, {1000, 999}, {1000, 1000}}, []impl.Point{{0, 0}, {1, 0}, {1, 2000}}},
	}
	for _, c := range cases {
		if by := normalByTrying(c.of); !slices.Equal(by, c.want) {
			t.Errorf("trying makes %v of %v", by, c.of)
		}
		for i := range c.of {
			checkNormal(t, from(c.of, i), c.want, impl.ErrNone)
		}
	}
}

func TestNormalFormsAreAsDefined(t *testing.T) {
	for _, x := range somePolygons() {
		checkNormal(t, x, normalByTrying(x), impl.ErrNone)
	}
	for _, x := range slices.Concat(manyPolygons(300, 3, 30), manyPolygons(300, 8, 31), manyPolygons(100, 60, 32)) {
		checkNormal(t, x, normalByTrying(x), impl.ErrNone)
	}
	for _, x := range greatPolygons()[:60] {
		want, code := normalByTrying(x), int64(impl.ErrNone)
		if slices.Max(numbersOf(want)) > top || slices.Min(numbersOf(want)) < -top {
			want, code = nil, impl.ErrLimit
		}
		checkNormal(t, x, want, code)
	}
}

// The first one of each pair has a number of exactly MaxCoord or -MaxCoord, at some place, and the
// second one a number that is greater, in absolute value, by one.
func TestNormalFormsAtTheLimit(t *testing.T) {
	pairs := []struct{ fits, want, tooGreat []impl.Point }{
		{[]impl.Point{{0, 0}, {1000, 1}, {0, 1000}}, []impl.Point{{0, 0}, {1, 0}, {1000, top}}, []impl.Point{{0, 0}, {1000, 1}, {-1, 1000}}},
		{[]impl.Point{{-865, 611}, {989, -84}, {67, 801}}, []impl.Point{{0, 0}, {1, 0}, {324294, top}}, []impl.Point{{-865, 611}, {989, -84}, {990, 455}}},
		{[]impl.Point{{-255, -528}, {560, 253}, {-12, 725}, {-375, 584}}, []impl.Point{{0, 0}, {1, 0}, {29449, top}, {24484, 831412}}, []impl.Point{{-255, -528}, {560, 253}, {-12, 725}, {-351, 607}}},
		{[]impl.Point{{-543, -934}, {161, -111}, {-504, 521}, {-735, 262}}, []impl.Point{{0, 0}, {1, 0}, {100068, 992223}, {100852, top}}, []impl.Point{{-925, -203}, {357, -676}, {376, 628}, {-372, 373}}},
		{[]impl.Point{{216, 928}, {85, 715}, {-431, -124}, {716, -197}}, []impl.Point{{0, 0}, {1, 0}, {1, 1}, {-top, 253875}}, []impl.Point{{216, 928}, {85, 715}, {-431, -124}, {847, 16}}},
	}
	for _, c := range pairs {
		beyond := numbersOf(normalByTrying(c.tooGreat))
		if slices.Max(beyond) != top+1 && slices.Min(beyond) != -top-1 {
			t.Errorf("the normal form of %v would have the numbers %v", c.tooGreat, beyond)
		}
		for _, m := range quarterTurns() {
			fits, tooGreat := turnedBy(m, c.fits), turnedBy(m, c.tooGreat)
			for i := range fits {
				checkNormal(t, from(fits, i), c.want, impl.ErrNone)
				checkNormal(t, from(tooGreat, i), nil, impl.ErrLimit)
				checkLike(t, from(fits, i), c.fits, true, impl.ErrNone)
				checkLike(t, from(fits, i), from(tooGreat, i), false, impl.ErrLimit)
				checkLike(t, from(tooGreat, i), halfSquare, false, impl.ErrLimit)
				checkLike(t, from(tooGreat, i), c.tooGreat, false, impl.ErrLimit)
			}
		}
	}
	checkNormal(t, []impl.Point{{-1000, -1000}, {1000, -999}, {-999, 1000}}, nil, impl.ErrLimit)
}

// quarterTurns are all matrices that keep the greatest number.
func quarterTurns() []impl.Matrix {
	return slices.DeleteFunc(unimodularMatrices(1), func(m impl.Matrix) bool { return m[0][0]*m[0][1] != 0 || m[1][0]*m[1][1] != 0 })
}

// turnedBy leads a polygon to one, with its inside to the left.
func turnedBy(m impl.Matrix, x []impl.Point) []impl.Point {
	moved := movedBy(m, x, impl.Point{})
	if exactDeterminant(m[0], m[1]) < 0 {
		slices.Reverse(moved)
	}
	return moved
}

// Some lists of the corners have greater numbers than MaxCoord, but the least one has not.
func TestOnlyTheLeastListHasTheLimit(t *testing.T) {
	found := 0
	for _, x := range greatPolygons() {
		normal, code := impl.NormalPolygon(x)
		if code != impl.ErrNone {
			continue
		}
		for _, way := range waysAround(x) {
			first := exactStep(way[0], way[1])
			if y := exactArea(impl.Triangle{way[0], way[1], way[2]}) / exactDivisor(first[0], first[1]); y > top {
				found++
			}
		}
		if slices.Max(numbersOf(normal)) > top || slices.Min(numbersOf(normal)) < -top {
			t.Errorf("NormalPolygon(%v) = %v", x, normal)
		}
	}
	if found == 0 {
		t.Error("no polygon has a greater list")
	}
}

func TestNormalFormsDoNotChangeUnderUnimodularMatrices(t *testing.T) {
	next := numbersFrom(33)
	for _, x := range slices.Concat(everyFew(somePolygons(), 4), greatPolygons()) {
		normal, code := impl.NormalPolygon(x)
		for _, m := range everyFew(unimodularMatrices(4), 7) {
			by := somePoints(next, 1, 100)[0]
			moved := from(turnedBy(m, x), int(next(int64(len(x)))))
			moved = movedBy(unit, moved, by)
			if slices.Max(numbersOf(moved)) > side || slices.Min(numbersOf(moved)) < -side {
				continue
			}
			checkNormal(t, moved, normal, code)
			checkLike(t, x, moved, code == impl.ErrNone, code)
		}
	}
}

// The corners in their order, and in the other one, are led to polygons with the same normal form; it
// is one of those from the corner that it begins at.
func TestNormalFormsOfNormalForms(t *testing.T) {
	for _, x := range allPolygons() {
		normal, code := impl.NormalPolygon(x)
		if code != impl.ErrNone || slices.Max(numbersOf(normal)) > side || slices.Min(numbersOf(normal)) < -side {
			continue
		}
		checkNormal(t, normal, normal, impl.ErrNone)
		checkNormal(t, turnedBy(impl.Matrix{{-1, 0}, {0, 1}}, normal), normal, impl.ErrNone)
		checkLike(t, x, normal, true, impl.ErrNone)
		checkNumbers(t, normal, areaByHand(x), borderByHand(x), (areaByHand(x)-borderByHand(x)+2)/2)
	}
}

func TestAreLikePolygons(t *testing.T) {
	cases := []struct {
		x, y []impl.Point
		want bool
	}{
		{twoSquare, []impl.Point{{0, 0}, {2, 2}, {4, 6}, {2, 4}}, true},
		{twoSquare, from(twoSquare, 2), true},
		{halfSquare, []impl.Point{{5, 5}, {6, 7}, {5, 6}}, true},
		{halfSquare, threeArms, false},
		{halfSquare, twoSquare, false},
		{twoSquare, []impl.Point{{1, 0}, {0, 1}, {-1, 0}, {0, -1}}, false},
		{allOfIt, []impl.Point{{-1000, -1000}, {1000, -1000}, {1000, 1000}}, false},
		{allOfIt, times(1000, []impl.Point{{-1, -1}, {1, -1}, {1, 1}, {-1, 1}}), true},
		// Only the other way around.
		{[]impl.Point{{0, 0}, {1, 0}, {2, 2}, {0, 3}}, []impl.Point{{0, 0}, {0, 3}, {-2, 2}, {-1, 0}}, true},
		// The areas, the border numbers, and the lengths of the sides are the same.
		{[]impl.Point{{0, 0}, {1, 0}, {2, 7}}, []impl.Point{{0, 0}, {1, 0}, {3, 7}}, false},
		{[]impl.Point{{0, 0}, {1, 0}, {2, 7}}, []impl.Point{{0, 0}, {1, 0}, {4, 7}}, true},
		{[]impl.Point{{0, 0}, {2, 0}, {2, 1}, {0, 1}}, []impl.Point{{0, 0}, {2, 0}, {3, 1}, {1, 1}}, true},
		{[]impl.Point{{0, 0}, {2, 0}, {2, 1}, {0, 1}}, []impl.Point{{0, 0}, {3, 0}, {1, 1}, {0, 1}}, false},
		{[]impl.Point{{-1, 0}, {0, -1}, {1, 0}, {0, 1}}, []impl.Point{{-1, 0}, {0, -1}, {1, -1}, {0, 1}}, false},
	}
	for _, c := range cases {
		if by := areLikeByMatrix(c.x, c.y); by != c.want {
			t.Errorf("the matrices tell %v of %v and %v", by, c.x, c.y)
		}
		checkLike(t, c.x, c.y, c.want, impl.ErrNone)
	}
}

func TestPolygonsAreLikeByMatrices(t *testing.T) {
	like, equal := 0, 0
	for _, list := range [][][]impl.Point{manyPolygons(120, 1, 34), manyPolygons(120, 2, 35), everyFew(manyPolygons(400, 3, 36), 4)} {
		for i, x := range list {
			for _, y := range list[:i] {
				want := areLikeByMatrix(x, y)
				checkLike(t, x, y, want, impl.ErrNone)
				if want {
					like++
				} else if len(x) == len(y) && areaByHand(x) == areaByHand(y) && borderByHand(x) == borderByHand(y) {
					equal++
				}
			}
		}
	}
	if like < 100 || equal < 30 {
		t.Errorf("%d pairs are like each other, and %d others have equal numbers", like, equal)
	}
}

// What is no polygon is told ahead of numbers that are too great, which of both it may be.
func TestErrorsOfLikePolygonsInOrder(t *testing.T) {
	tooGreat := []impl.Point{{-1000, -1000}, {1000, -999}, {-999, 1000}}
	checkLike(t, tooGreat, tooGreat, false, impl.ErrLimit)
	checkLike(t, tooGreat, allOfIt, false, impl.ErrLimit)
	for _, x := range badPolygons() {
		if len(x) < 20 {
			checkLike(t, tooGreat, x, false, impl.ErrInvalid)
		}
	}
}

func checkMap(t *testing.T, m impl.Matrix, x []impl.Point, by impl.Point, want []impl.Point, wantCode int64) {
	t.Helper()
	got, code := impl.MapPolygon(m, x, by)
	checkList(t, fmt.Sprintf("MapPolygon(%v, %v, %v)", m, x, by), got, code, want, wantCode)
}

func TestMapPolygon(t *testing.T) {
	cases := []struct {
		m    impl.Matrix
		of   []impl.Point
		by   impl.Point
		want []impl.Point
	}{
		{impl.Matrix{{0, 1}, {1, 0}}, threeArms, impl.Point{1, 1}, []impl.Point{{0, 0}, {2, 1}, {1, 2}}},
		{unit, threeArms, impl.Point{0, 0}, []impl.Point{{-1, -1}, {1, 0}, {0, 1}}},
		{unit, twoSquare, impl.Point{-3, 5}, []impl.Point{{-3, 5}, {-1, 5}, {-1, 7}, {-3, 7}}},
		{impl.Matrix{{1, 1}, {0, 1}}, twoSquare, impl.Point{0, 0}, []impl.Point{{0, 0}, {2, 0}, {4, 2}, {2, 2}}},
		{impl.Matrix{{1, 0}, {1, 1}}, twoSquare, impl.Point{0, 0}, []impl.Point{{0, 0}, {2, 2}, {2, 4}, {0, 2}}},
		{impl.Matrix{{-1, 0}, {0, -1}}, halfSquare, impl.Point{0, 0}, []impl.Point{{-1, 0}, {0, -1}, {0, 0}}},
		{impl.Matrix{{1, 0}, {0, -1}}, []impl.Point{{0, 0}, {3, 1}, {1, 2}}, impl.Point{0, 0}, []impl.Point{{0, 0}, {1, -2}, {3, -1}}},
		{impl.Matrix{{2, 3}, {1, 1}}, halfSquare, impl.Point{10, 20}, []impl.Point{{10, 20}, {13, 21}, {12, 21}}},
	}
	for _, c := range cases {
		for i := range c.of {
			checkMap(t, c.m, from(c.of, i), c.by, c.want, impl.ErrNone)
		}
	}
}

func TestImagesOfPolygonsAreTheHullsOfTheirPoints(t *testing.T) {
	next := numbersFrom(37)
	var codes [7]int
	for _, x := range slices.Concat(everyFew(somePolygons(), 5), greatPolygons()) {
		for _, m := range everyFew(unimodularMatrices(3), 5) {
			by := somePoints(next, 1, 30)[0]
			want, code := wantedHull(movedBy(m, x, by))
			checkMap(t, m, x, by, want, code)
			codes[code]++
		}
	}
	if codes[impl.ErrNone] < 100 || codes[impl.ErrLimit] < 100 {
		t.Errorf("the codes were there so often: %v", codes)
	}
}

func TestInversesLeadPolygonsBack(t *testing.T) {
	for _, x := range everyFew(somePolygons(), 3) {
		for _, m := range everyFew(unimodularMatrices(3), 9) {
			moved, code := impl.MapPolygon(m, x, impl.Point{})
			inverse, _ := impl.InverseMatrix(m)
			if code == impl.ErrNone {
				checkMap(t, inverse, moved, impl.Point{}, hullByHand(x), impl.ErrNone)
			}
		}
	}
}

func TestImagesOfGreatNumbers(t *testing.T) {
	// The corners are small, and yet their images are too great.
	great := impl.Matrix{{1, top}, {0, 1}}
	checkMap(t, great, []impl.Point{{0, 0}, {1, 0}, {1, 1}}, impl.Point{0, 0}, nil, impl.ErrLimit)
	checkMap(t, great, []impl.Point{{-1, 1}, {1, 1}, {0, 2}}, impl.Point{-top, 0}, nil, impl.ErrLimit)
	checkMap(t, impl.Matrix{{top, 1 - top}, {1, -1}}, []impl.Point{{1, 1}, {2, 2}, {2, 3}}, impl.Point{0, 0}, nil, impl.ErrLimit)
	checkMap(t, impl.Matrix{{999, 1000}, {-1, -1}}, []impl.Point{{1, -1}, {2, -2}, {2, -1}}, impl.Point{0, 0}, []impl.Point{{-2, 0}, {998, -1}, {-1, 0}}, impl.ErrNone)
	checkMap(t, impl.Matrix{{top, 1 - top}, {1, -1}}, []impl.Point{{0, 0}, {1, 1}, {0, 1}}, impl.Point{0, 0}, nil, impl.ErrLimit)
	// What is added may lead great numbers back.
	checkMap(t, impl.Matrix{{1, 0}, {1000, 1}}, []impl.Point{{1000, 0}, {1000, 1}, {999, 999}}, impl.Point{0, -top}, []impl.Point{{999, -1}, {1000, 0}, {1000, 1}}, impl.ErrNone)
	checkMap(t, impl.Matrix{{1, 0}, {1000, 1}}, []impl.Point{{1000, 0}, {1000, 1000}, {999, 1000}}, impl.Point{0, -top}, []impl.Point{{999, 0}, {1000, 0}, {1000, 1000}}, impl.ErrNone)
	checkMap(t, impl.Matrix{{1, 0}, {1000, 1}}, []impl.Point{{1000, 0}, {1000, 1}, {999, 999}}, impl.Point{0, 0}, nil, impl.ErrLimit)
	checkMap(t, impl.Matrix{{1, 0}, {1000, 1}}, []impl.Point{{1000, 0}, {1000, 1}, {999, 999}}, impl.Point{-1999, -top}, []impl.Point{{-1000, -1}, {-999, 0}, {-999, 1}}, impl.ErrNone)
	checkMap(t, impl.Matrix{{1, 0}, {1000, 1}}, []impl.Point{{1000, 0}, {1000, 1}, {999, 999}}, impl.Point{-2000, -top}, nil, impl.ErrLimit)
}

func TestMovedPolygonsAtTheLimit(t *testing.T) {
	for _, n := range []int64{998, 999, 1000, 1001, top - 1, top} {
		for _, m := range quarterTurns() {
			for _, by := range []impl.Point{{n, 0}, {-n, 0}, {0, n}, {0, -n}, {n, -n}, {-n, n}, {n, n}, {-n, -n}} {
				for _, x := range [][]impl.Point{halfSquare, threeArms, {{-1, -1}, {1, -1}, {1, 1}, {-1, 1}}} {
					want, code := wantedHull(movedBy(m, x, by))
					checkMap(t, m, x, by, want, code)
				}
			}
		}
	}
	for _, m := range quarterTurns() {
		checkMap(t, m, allOfIt, impl.Point{0, 0}, allOfIt, impl.ErrNone)
		checkMap(t, m, allOfIt, impl.Point{1, 0}, nil, impl.ErrLimit)
		checkMap(t, m, allOfIt, impl.Point{0, -1}, nil, impl.ErrLimit)
	}
}

func TestOnlyUnimodularMatricesLeadPolygons(t *testing.T) {
	for _, m := range gridMatrices(2) {
		d := exactDeterminant(m[0], m[1])
		want, code := hullByHand(movedBy(m, threeArms, impl.Point{3, -4})), int64(impl.ErrNone)
		if d != 1 && d != -1 {
			want, code = nil, impl.ErrState
		}
		checkMap(t, m, threeArms, impl.Point{3, -4}, want, code)
	}
	// Ahead of numbers that are too great.
	for _, m := range []impl.Matrix{scale(2), scale(0), scale(top), {{top, top}, {top, top}}, {{-top, top}, {top, top}}, {{top, 0}, {0, 1}}, {{1, 1}, {-1, 1}}} {
		for _, x := range [][]impl.Point{halfSquare, allOfIt} {
			checkMap(t, m, x, impl.Point{0, 0}, nil, impl.ErrState)
			checkMap(t, m, x, impl.Point{top, -top}, nil, impl.ErrState)
		}
	}
}
