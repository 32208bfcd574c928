package tests

import (
	"fmt"
	"slices"
	"testing"

	"loop.example/g01297/impl"
)

func checkHull(t *testing.T, points []impl.Point, want []impl.Point, wantCode int64) {
	t.Helper()
	got, code := impl.HullOf(points)
	checkList(t, fmt.Sprintf("HullOf(%v)", points[:min(len(points), 20)]), got, code, want, wantCode)
}

func TestHullOf(t *testing.T) {
	cases := []struct{ of, want []impl.Point }{
		{[]impl.Point{{1, 1}, {2, 0}, {0, 0}, {1, 0}, {2, 2}, {0, 2}, {2, 1}}, twoSquare},
		{[]impl.Point{{0, 1}, {1, 0}, {0, 0}}, halfSquare},
		{backwards(threeArms), []impl.Point{{-1, -1}, {1, 0}, {0, 1}}},
		// Points inside, on the sides, and more than once.
		{slices.Concat(gridPoints(1), gridPoints(1)), []impl.Point{{-1, -1}, {1, -1}, {1, 1}, {-1, 1}}},
		{[]impl.Point{{0, 0}, {0, 0}, {1, 0}, {1, 0}, {0, 1}, {0, 1}}, halfSquare},
		{[]impl.Point{{0, 0}, {4, 0}, {1, 0}, {3, 0}, {2, 0}, {2, 1}}, []impl.Point{{0, 0}, {4, 0}, {2, 1}}},
		{[]impl.Point{{0, 2}, {0, 0}, {0, 4}, {0, 3}, {0, 1}, {1, 2}}, []impl.Point{{0, 0}, {1, 2}, {0, 4}}},
		{[]impl.Point{{0, 0}, {6, 3}, {2, 1}, {4, 2}, {0, 1}}, []impl.Point{{0, 0}, {6, 3}, {0, 1}}},
		{slices.Concat(allOfIt, []impl.Point{{0, 0}, {1000, 0}, {-1000, 5}, {7, 1000}}), allOfIt},
		{sixteen()[:12], from(sixteen()[:12], 11)},
		{slices.Concat(sixteen()[4:], gridPoints(1)), hullByHand(sixteen()[4:])},
		{slices.Repeat(halfSquare, 33), halfSquare},
	}
	for _, c := range cases {
		checkHull(t, c.of, c.want, impl.ErrNone)
		for i := range min(len(c.of), 20) {
			checkHull(t, from(c.of, i), c.want, impl.ErrNone)
			checkHull(t, backwards(from(c.of, i)), c.want, impl.ErrNone)
		}
	}
}

// wantedHull is the hull and the code for points that are no more than there may be.
func wantedHull(points []impl.Point) ([]impl.Point, int64) {
	hull := hullByHand(points)
	if len(hull) < 3 {
		return nil, impl.ErrState
	}
	if len(hull) > 12 || slices.Max(numbersOf(hull)) > side || slices.Min(numbersOf(hull)) < -side {
		return nil, impl.ErrLimit
	}
	return hull, impl.ErrNone
}

func TestHullsOfManyPoints(t *testing.T) {
	next := numbersFrom(14)
	var codes [7]int
	for _, limit := range []int64{1, 2, 3, 5, 20, 100, 1000, 1001, 2000, top} {
		for range 300 {
			points := somePoints(next, int(next(101)), limit)
			want, code := wantedHull(points)
			checkHull(t, points, want, code)
			codes[code]++
		}
		for range 300 {
			points := somePoints(next, int(next(7)), limit)
			want, code := wantedHull(points)
			checkHull(t, points, want, code)
			codes[code]++
		}
	}
	if codes[impl.ErrNone] < 100 || codes[impl.ErrState] < 100 || codes[impl.ErrLimit] < 100 {
		t.Errorf("the codes were there so often: %v", codes)
	}
}

// No point is outside of a hull, and its corners are among the points.
func TestHullsHaveAllPoints(t *testing.T) {
	next := numbersFrom(15)
	for range 500 {
		points := somePoints(next, 3+int(next(8)), 1+next(side))
		hull, code := impl.HullOf(points)
		for _, a := range points {
			if where, _ := impl.WhereInPolygon(hull, a); code == impl.ErrNone && where < 0 {
				t.Errorf("%v is outside of the hull %v", a, hull)
			}
		}
		for _, a := range hull {
			if !slices.Contains(points, a) {
				t.Errorf("%v of the hull %v is none of %v", a, hull, points)
			}
		}
	}
}

func TestHullsOfPolygonsAreThePolygons(t *testing.T) {
	for _, x := range allPolygons() {
		ordered, _ := impl.OrderPolygon(x)
		for _, way := range waysAround(x) {
			checkHull(t, way, ordered, impl.ErrNone)
		}
		middles := slices.Clone(x)
		for i, a := range x {
			middles = append(middles, impl.Point{(a[0] + x[(i+1)%len(x)][0]) / 2, (a[1] + x[(i+1)%len(x)][1]) / 2})
		}
		if len(hullByHand(middles)) <= 12 {
			checkHull(t, middles, hullByHand(middles), impl.ErrNone)
		}
	}
}

func TestPointsOnOneLineHaveNoHull(t *testing.T) {
	lists := [][]impl.Point{
		nil, {}, {{0, 0}}, {{7, -9}}, {{top, top}}, {{0, 0}, {0, 0}}, {{1, 2}, {3, 4}}, {{3, 4}, {1, 2}}, {{-top, -top}, {top, top}}, {{0, 0}, {1, 1}, {3, 3}},
		{{3, 3}, {1, 1}, {0, 0}}, {{1, 1}, {3, 3}, {0, 0}}, {{5, 1}, {5, -7}, {5, 9}, {5, 1}}, {{1, 5}, {-7, 5}, {9, 5}, {1, 5}}, {{2, -1}, {-4, 2}, {6, -3}, {0, 0}},
		{{-top, -top}, {top, top}, {1, 1}}, {{-top, top}, {top, -top}, {0, 0}, {7, -7}}, {{top, 0}, {top, top}, {top, -top}}, {{1, 2}, {1, 2}, {1, 2}, {3, 4}, {3, 4}},
		slices.Repeat([]impl.Point{{3, 4}}, 100), slices.Repeat([]impl.Point{{3, 4}, {5, 5}, {7, 6}, {1, 3}}, 25), slices.Repeat([]impl.Point{{top, top}, {0, 0}}, 50),
	}
	for _, points := range lists {
		checkHull(t, points, nil, impl.ErrState)
	}
}

func TestHullsOfAsManyPointsAsMayBe(t *testing.T) {
	for _, given := range [][]impl.Point{halfSquare, allOfIt, sixteen()[:12], {{3, 4}}, {{0, 0}, {2, 1}}, sixteen(), times(2, allOfIt)} {
		points := slices.Repeat(given, 200)
		for _, n := range []int{99, 100} {
			want, code := wantedHull(points[:n])
			checkHull(t, points[:n], want, code)
		}
		for _, n := range []int{101, 102, 200} {
			checkHull(t, points[:n], nil, impl.ErrRange)
		}
	}
	// The last point is a corner.
	points := append(somePoints(numbersFrom(16), 99, 5), impl.Point{90, 80})
	checkHull(t, points, hullByHand(points), impl.ErrNone)
	checkHull(t, append(points, impl.Point{0, 0}), nil, impl.ErrRange)
}

func TestHullsOfAsManyCornersAsMayBe(t *testing.T) {
	for i := range 16 {
		x := from(sixteen(), i)
		checkHull(t, x[:12], hullByHand(x[:12]), impl.ErrNone)
		checkHull(t, slices.Concat(x[:12], gridPoints(1)), hullByHand(x[:12]), impl.ErrNone)
		for n := 13; n <= 16; n++ {
			checkHull(t, x[:n], nil, impl.ErrLimit)
			checkHull(t, slices.Concat(gridPoints(1), x[:n]), nil, impl.ErrLimit)
		}
	}
	// A hundred corners of a bow, with small numbers and with great ones.
	for _, n := range []int64{3, 12, 13, 14, 45, 100} {
		var bow []impl.Point
		for k := range n {
			bow = append(bow, impl.Point{k - n/2, (k - n/2) * (k - n/2)})
		}
		want, code := wantedHull(bow)
		checkHull(t, bow, want, code)
	}
}

func TestHullsOfGreatNumbers(t *testing.T) {
	for _, n := range []int64{1000, -1000, 1001, -1001, 1002, -2000, top, -top} {
		for i := range 3 {
			for j := range 2 {
				points := slices.Clone(halfSquare)
				points[i][j] = n
				want, code := wantedHull(points)
				checkHull(t, points, want, code)
				points = append(points, impl.Point{0, 0}, impl.Point{1, 1})
				want, code = wantedHull(points)
				checkHull(t, points, want, code)
			}
		}
	}
	checkHull(t, []impl.Point{{-top, -top}, {top, -top}, {0, top}}, nil, impl.ErrLimit)
	checkHull(t, []impl.Point{{-top, -top}, {top, top - 1}, {top, top}}, nil, impl.ErrLimit)
	checkHull(t, []impl.Point{{-top, -top}, {top, top}, {0, 0}, {top - 1, top - 1}}, nil, impl.ErrState)
	checkHull(t, []impl.Point{{-top, -top}, {top, top}, {0, 0}, {top - 1, top - 1}, {0, 1}}, nil, impl.ErrLimit)
}

// What is no point is told ahead of lists that are too long, on one line, or too great.
func TestErrorsOfHullsInOrder(t *testing.T) {
	for _, a := range badPoints() {
		for _, given := range [][]impl.Point{nil, {{0, 0}}, halfSquare, sixteen(), times(2, allOfIt), slices.Repeat(halfSquare, 33), slices.Repeat(halfSquare, 34), {{0, 0}, {1, 1}, {2, 2}}} {
			checkHull(t, append(slices.Clone(given), a), nil, impl.ErrInvalid)
			checkHull(t, slices.Insert(slices.Clone(given), len(given)/2, a), nil, impl.ErrInvalid)
			checkHull(t, slices.Insert(slices.Clone(given), 0, a), nil, impl.ErrInvalid)
		}
	}
	for _, given := range [][]impl.Point{{{3, 4}}, {{0, 0}, {1, 1}}, sixteen(), times(2, allOfIt), {{-top, 0}, {top, 0}, {0, top}}} {
		checkHull(t, slices.Repeat(given, 101), nil, impl.ErrRange)
	}
}

func sumsByHand(x []impl.Point, y []impl.Point) []impl.Point {
	var sums []impl.Point
	for _, a := range x {
		for _, b := range y {
			sums = append(sums, combine(1, a, 1, b))
		}
	}
	return sums
}

func TestAddPolygons(t *testing.T) {
	cases := []struct{ x, y, want []impl.Point }{
		{halfSquare, []impl.Point{{0, 0}, {1, 0}, {1, 1}, {0, 1}}, []impl.Point{{0, 0}, {2, 0}, {2, 1}, {1, 2}, {0, 2}}},
		{halfSquare, halfSquare, []impl.Point{{0, 0}, {2, 0}, {0, 2}}},
		{halfSquare, []impl.Point{{0, 0}, {-1, 0}, {0, -1}}, []impl.Point{{-1, 0}, {0, -1}, {1, -1}, {1, 0}, {0, 1}, {-1, 1}}},
		{threeArms, threeArms, []impl.Point{{-2, -2}, {2, 0}, {0, 2}}},
		{threeArms, []impl.Point{{-1, 0}, {0, -1}, {1, 1}}, []impl.Point{{-2, -1}, {-1, -2}, {1, -1}, {2, 1}, {1, 2}, {-1, 1}}},
		{[]impl.Point{{0, 0}, {5, 0}, {0, 1}}, []impl.Point{{0, 0}, {0, 7}, {-1, 0}}, []impl.Point{{-1, 0}, {5, 0}, {5, 7}, {0, 8}, {-1, 1}}},
		{times(500, []impl.Point{{-1, -1}, {1, -1}, {1, 1}, {-1, 1}}), times(500, []impl.Point{{-1, -1}, {1, -1}, {1, 1}, {-1, 1}}), allOfIt},
	}
	for _, c := range cases {
		checkSum(t, c.x, c.y, c.want, impl.ErrNone)
	}
}

func checkSum(t *testing.T, x []impl.Point, y []impl.Point, want []impl.Point, wantCode int64) {
	t.Helper()
	for i := range max(len(x), len(y)) {
		p, q := from(x, i%len(x)), from(y, i%len(y))
		got, code := impl.AddPolygons(p, q)
		checkList(t, fmt.Sprintf("AddPolygons(%v, %v)", p, q), got, code, want, wantCode)
		got, code = impl.AddPolygons(q, p)
		checkList(t, fmt.Sprintf("AddPolygons(%v, %v)", q, p), got, code, want, wantCode)
	}
}

func TestSumsOfPolygonsAreAsDefined(t *testing.T) {
	var codes [7]int
	for _, pairs := range [][][]impl.Point{manyPolygons(400, 2, 17), manyPolygons(400, 6, 18), manyPolygons(400, 500, 19), manyPolygons(400, 700, 20), somePolygons(), greatPolygons()} {
		for i := 1; i < len(pairs); i++ {
			want, code := wantedHull(sumsByHand(pairs[i-1], pairs[i]))
			checkSum(t, pairs[i-1], pairs[i], want, code)
			codes[code]++
		}
	}
	if codes[impl.ErrNone] < 100 || codes[impl.ErrLimit] < 100 {
		t.Errorf("the codes were there so often: %v", codes)
	}
}

// Each whole point of a sum is within it, and the sums of all points have the same hull.
func TestSumsOfAllPoints(t *testing.T) {
	list := manyPolygons(60, 3, 21)
	for i := 1; i < len(list); i++ {
		x, y := pointsWithin(list[i-1]), pointsWithin(list[i])
		want, code := wantedHull(sumsByHand(x, y))
		checkSum(t, list[i-1], list[i], want, code)
	}
}

func pointsWithin(x []impl.Point) []impl.Point {
	return slices.DeleteFunc(boxAround(x, 0), func(a impl.Point) bool { return whereByHand(x, a) < 0 })
}

func TestAreasOfSumsWithThemselvesAreFourTimesAsGreat(t *testing.T) {
	for _, x := range somePolygons() {
		area, _ := impl.AreaOfPolygon(x)
		sum, code := impl.AddPolygons(x, x)
		checkList(t, fmt.Sprintf("AddPolygons(%v, %v)", x, x), sum, code, hullByHand(times(2, x)), impl.ErrNone)
		got, code := impl.AreaOfPolygon(sum)
		check(t, fmt.Sprintf("AreaOfPolygon(%v)", sum), got, code, 4*area, impl.ErrNone)
	}
}

// Sides that are parallel make one side: the sum has fewer corners than both have together.
func TestSumsOfAsManyCornersAsMayBe(t *testing.T) {
	six := []impl.Point{{-1, -1}, {0, -1}, {1, 0}, {1, 1}, {0, 1}, {-1, 0}}
	other := []impl.Point{{0, 0}, {2, 1}, {3, 3}, {2, 4}, {0, 3}, {-1, 1}}
	seven := []impl.Point{{0, 0}, {2, 1}, {3, 3}, {2, 5}, {0, 6}, {-2, 5}, {-3, 2}}
	checkSum(t, six, six, hullByHand(times(2, six)), impl.ErrNone)
	for _, c := range []struct {
		x, y    []impl.Point
		corners int
	}{
		{six, six, 6}, {six, other, 12}, {six, seven, 13}, {other, halfSquare, 8}, {other, other, 6}, {other, threeArms, 6}, {six, threeArms, 9}, {seven, seven, 7},
		{sixteen()[:12], sixteen()[:12], 12}, {sixteen()[:12], []impl.Point{{0, 0}, {1, 0}, {1, 1}}, 12}, {sixteen()[:12], []impl.Point{{0, 0}, {5, 1}, {1, 1}}, 13},
		{sixteen()[1:13], halfSquare, 14}, {sixteen()[:12], sixteen()[2:14], 15},
	} {
		if n := len(hullByHand(sumsByHand(c.x, c.y))); n != c.corners {
			t.Errorf("the sum of %v and %v has %d corners", c.x, c.y, n)
		}
		want, code := wantedHull(sumsByHand(c.x, c.y))
		checkSum(t, c.x, c.y, want, code)
	}
}

func TestSumsOfGreatNumbers(t *testing.T) {
	for _, to := range gridPoints(1)[:8] {
		for n := int64(997); n <= 1002; n++ {
			x, y := movedBy(scale(500), []impl.Point{to}, impl.Point{})[0], movedBy(scale(n-500), []impl.Point{to}, impl.Point{})[0]
			left, right := movedBy(unit, halfSquare, x), movedBy(unit, threeArms, y)
			want, code := wantedHull(sumsByHand(left, right))
			checkSum(t, left, right, want, code)
		}
	}
	checkSum(t, movedBy(unit, halfSquare, impl.Point{500, 500}), movedBy(unit, threeArms, impl.Point{498, 498}), []impl.Point{{997, 997}, {998, 997}, {1000, 998}, {998, 1000}, {997, 998}}, impl.ErrNone)
	checkSum(t, movedBy(unit, halfSquare, impl.Point{500, 0}), movedBy(unit, threeArms, impl.Point{499, 0}), nil, impl.ErrLimit)
	checkSum(t, movedBy(unit, halfSquare, impl.Point{0, -500}), movedBy(unit, threeArms, impl.Point{0, -500}), nil, impl.ErrLimit)
	checkSum(t, allOfIt, halfSquare, nil, impl.ErrLimit)
	checkSum(t, allOfIt, allOfIt, nil, impl.ErrLimit)
}
