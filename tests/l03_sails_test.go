package tests

import (
	"slices"
	"testing"

	"loop.example/g01297/impl"
)

func TestMaxSail(t *testing.T) {
	if impl.MaxSail != 2000 {
		t.Errorf("MaxSail is %d", impl.MaxSail)
	}
}

func TestIsAngle(t *testing.T) {
	isAngle := map[angle]bool{}
	for _, x := range gridAngles(4) {
		isAngle[x] = true
	}
	for _, a := range gridPoints(4) {
		for _, b := range gridPoints(4) {
			if got := impl.IsAngle(a, b); got != isAngle[angle{a, b}] {
				t.Errorf("IsAngle(%v, %v) is %v", a, b, got)
			}
		}
	}
	for _, x := range slices.Concat(greatAngles(), longAngles()) {
		if !impl.IsAngle(x[0], x[1]) {
			t.Errorf("IsAngle(%v) is false", x)
		}
		if impl.IsAngle(x[1], x[0]) {
			t.Errorf("IsAngle of %v, exchanged, is true", x)
		}
	}
	for _, x := range badAngles() {
		if impl.IsAngle(x[0], x[1]) {
			t.Errorf("IsAngle(%v) is true", x)
		}
	}
}

func TestAnglesAreAskedFirst(t *testing.T) {
	points := map[string]func(a, b impl.Point) ([]impl.Point, int64){
		"SailPoints": impl.SailPoints, "SailVertices": impl.SailVertices, "AdjacentAngle": impl.AdjacentAngle,
	}
	numbers := map[string]func(a, b impl.Point) ([]int64, int64){
		"SailLengths": impl.SailLengths, "SailSines": impl.SailSines, "SequenceOf": impl.SequenceOf,
	}
	for _, x := range badAngles() {
		for name, f := range points {
			got, code := f(x[0], x[1])
			checkList(t, name, got, code, nil, impl.ErrInvalid)
		}
		for name, f := range numbers {
			got, code := f(x[0], x[1])
			checkList(t, name, got, code, nil, impl.ErrInvalid)
		}
		n, code := impl.AreaBelow(x[0], x[1])
		check(t, "AreaBelow", n, code, 0, impl.ErrInvalid)
	}
}

func TestSails(t *testing.T) {
	cases := []struct {
		x        angle
		points   []impl.Point
		vertices []impl.Point
		lengths  []int64
		sines    []int64
	}{
		{angle{{1, 0}, {2, 5}}, []impl.Point{{1, 0}, {1, 1}, {1, 2}, {2, 5}}, []impl.Point{{1, 0}, {1, 2}, {2, 5}}, []int64{2, 1}, []int64{1}},
		// The determinant is 1.
		{angle{{1, 0}, {0, 1}}, []impl.Point{{1, 0}, {0, 1}}, []impl.Point{{1, 0}, {0, 1}}, []int64{1}, nil},
		{angle{{0, 1}, {-1, 0}}, []impl.Point{{0, 1}, {-1, 0}}, []impl.Point{{0, 1}, {-1, 0}}, []int64{1}, nil},
		{angle{{0, -1}, {1, top}}, []impl.Point{{0, -1}, {1, top}}, []impl.Point{{0, -1}, {1, top}}, []int64{1}, nil},
		{angle{{1, 0}, {-top, 1}}, []impl.Point{{1, 0}, {-top, 1}}, []impl.Point{{1, 0}, {-top, 1}}, []int64{1}, nil},
		{angle{{3, 2}, {4, 3}}, []impl.Point{{3, 2}, {4, 3}}, []impl.Point{{3, 2}, {4, 3}}, []int64{1}, nil},
		// One part, and no sine.
		{angle{{1, 0}, {1, 2}}, []impl.Point{{1, 0}, {1, 1}, {1, 2}}, []impl.Point{{1, 0}, {1, 2}}, []int64{2}, nil},
		{angle{{1, 0}, {-2, 3}}, []impl.Point{{1, 0}, {0, 1}, {-1, 2}, {-2, 3}}, []impl.Point{{1, 0}, {-2, 3}}, []int64{3}, nil},
		{angle{{1, 0}, {-1, 3}}, []impl.Point{{1, 0}, {0, 1}, {-1, 3}}, []impl.Point{{1, 0}, {0, 1}, {-1, 3}}, []int64{1, 1}, []int64{1}},
		// The first point is upright, or has numbers less than 0.
		{angle{{0, 1}, {-5, -3}}, []impl.Point{{0, 1}, {-1, 0}, {-2, -1}, {-5, -3}}, []impl.Point{{0, 1}, {-2, -1}, {-5, -3}}, []int64{2, 1}, []int64{1}},
		{angle{{0, -1}, {7, 3}}, []impl.Point{{0, -1}, {1, 0}, {3, 1}, {5, 2}, {7, 3}}, []impl.Point{{0, -1}, {1, 0}, {7, 3}}, []int64{1, 3}, []int64{1}},
		{angle{{-2, -5}, {1, 0}}, []impl.Point{{-2, -5}, {-1, -3}, {0, -1}, {1, 0}}, []impl.Point{{-2, -5}, {0, -1}, {1, 0}}, []int64{2, 1}, []int64{1}},
		{angle{{2, -3}, {-1, 8}}, []impl.Point{{2, -3}, {1, -1}, {0, 1}, {-1, 8}}, []impl.Point{{2, -3}, {0, 1}, {-1, 8}}, []int64{2, 1}, []int64{5}},
		// Obtuse ones.
		{
			angle{{-3, -4}, {7, -2}}, []impl.Point{{-3, -4}, {-2, -3}, {-1, -2}, {0, -1}, {1, -1}, {2, -1}, {3, -1}, {7, -2}},
			[]impl.Point{{-3, -4}, {0, -1}, {3, -1}, {7, -2}}, []int64{3, 3, 1}, []int64{1, 1},
		},
		{angle{{1, -top}, {0, 1}}, []impl.Point{{1, -top}, {0, 1}}, []impl.Point{{1, -top}, {0, 1}}, []int64{1}, nil},
		// A sine is greater than the numbers of all points.
		{angle{{top, -1}, {top, 1}}, []impl.Point{{top, -1}, {1, 0}, {top, 1}}, []impl.Point{{top, -1}, {1, 0}, {top, 1}}, []int64{1, 1}, []int64{2*top - 2}},
	}
	for _, c := range cases {
		a, b := c.x[0], c.x[1]
		points, code := impl.SailPoints(a, b)
		checkList(t, "SailPoints", points, code, c.points, impl.ErrNone)
		vertices, code := impl.SailVertices(a, b)
		checkList(t, "SailVertices", vertices, code, c.vertices, impl.ErrNone)
		lengths, code := impl.SailLengths(a, b)
		checkList(t, "SailLengths", lengths, code, c.lengths, impl.ErrNone)
		sines, code := impl.SailSines(a, b)
		checkList(t, "SailSines", sines, code, c.sines, impl.ErrNone)
		area, code := impl.AreaBelow(a, b)
		check(t, "AreaBelow", area, code, int64(len(c.points)-1), impl.ErrNone)
	}
}

func TestSailsAreAsDefined(t *testing.T) {
	const n = 4
	for _, x := range gridAngles(n) {
		points, code := impl.SailPoints(x[0], x[1])
		checkList(t, "SailPoints", points, code, sailByHull(x, n), impl.ErrNone)
	}
}

func TestNeighbouringPointsOfSailsHaveTheDeterminantOne(t *testing.T) {
	for _, x := range slices.Concat(gridAngles(7), greatAngles()) {
		points, code := impl.SailPoints(x[0], x[1])
		check(t, "SailPoints", len(points) <= impl.MaxSail, code, true, impl.ErrNone)
		turns := checkSail(t, x, points)
		for i := range len(points) - 1 {
			d, code := impl.DeterminantOf(points[i], points[i+1])
			check(t, "DeterminantOf neighbours", d, code, 1, impl.ErrNone)
		}
		area, code := impl.AreaBelow(x[0], x[1])
		check(t, "AreaBelow", area, code, int64(len(points)-1), impl.ErrNone)
		checkParts(t, x, points, turns)
	}
}

// checkParts holds vertices, lengths and sines against the points of a sail and its turns.
func checkParts(t *testing.T, x angle, points []impl.Point, turns []int64) {
	t.Helper()
	want := []impl.Point{x[0]}
	var wantLengths, wantSines []int64
	for i, n := range sequenceByHand(turns) {
		if i%2 == 0 {
			wantLengths = append(wantLengths, n)
		} else {
			wantSines = append(wantSines, n)
		}
	}
	for i := 1; i < len(points)-1; i++ {
		if turns[i] > 2 {
			want = append(want, points[i])
		}
	}
	want = append(want, x[1])
	vertices, code := impl.SailVertices(x[0], x[1])
	checkList(t, "SailVertices", vertices, code, want, impl.ErrNone)
	lengths, code := impl.SailLengths(x[0], x[1])
	checkList(t, "SailLengths", lengths, code, wantLengths, impl.ErrNone)
	for i, n := range lengths {
		between, code := impl.LengthOf(vertices[i], vertices[i+1])
		check(t, "LengthOf a part", between, code, n, impl.ErrNone)
	}
	sines, code := impl.SailSines(x[0], x[1])
	checkList(t, "SailSines", sines, code, wantSines, impl.ErrNone)
	sequence, code := impl.SequenceOf(x[0], x[1])
	checkList(t, "SequenceOf", sequence, code, sequenceByHand(turns), impl.ErrNone)
}

func TestSailsOfAsManyPointsAsMayBe(t *testing.T) {
	for _, x := range []angle{{{1, 0}, {1, impl.MaxSail - 1}}, {{1, 0}, {800, 960799}}, {{0, 1}, {1 - impl.MaxSail, 1}}, {{960799, 800}, {0, 1}}} {
		points, code := impl.SailPoints(x[0], x[1])
		check(t, "SailPoints", len(points), code, impl.MaxSail, impl.ErrNone)
		area, code := impl.AreaBelow(x[0], x[1])
		check(t, "AreaBelow", area, code, impl.MaxSail-1, impl.ErrNone)
		place, code := impl.PlaceOnSail(x[0], x[1], x[1])
		check(t, "PlaceOnSail", place, code, impl.MaxSail-1, impl.ErrNone)
	}
}

func TestSailsOfTooManyPoints(t *testing.T) {
	for _, x := range longAngles() {
		a, b := x[0], x[1]
		points, code := impl.SailPoints(a, b)
		checkList(t, "SailPoints", points, code, nil, impl.ErrLimit)
		points, code = impl.SailVertices(a, b)
		checkList(t, "SailVertices", points, code, nil, impl.ErrLimit)
		numbers, code := impl.SailLengths(a, b)
		checkList(t, "SailLengths", numbers, code, nil, impl.ErrLimit)
		numbers, code = impl.SailSines(a, b)
		checkList(t, "SailSines", numbers, code, nil, impl.ErrLimit)
		numbers, code = impl.SequenceOf(a, b)
		checkList(t, "SequenceOf", numbers, code, nil, impl.ErrLimit)
		area, code := impl.AreaBelow(a, b)
		check(t, "AreaBelow", area, code, 0, impl.ErrLimit)
	}
}

// Unimodular matrices with the determinant 1 lead sails to sails.
func TestSailsOfMovedAngles(t *testing.T) {
	angles := append(gridAngles(3), angle{{1, 0}, {317, 1000}}, angle{{0, -1}, {999, -100}}, angle{{7, -19}, {-30, 83}})
	for _, m := range unimodularMatrices(2) {
		if exactDeterminant(m[0], m[1]) != 1 {
			continue
		}
		for _, x := range angles {
			points, _ := impl.SailPoints(x[0], x[1])
			var want []impl.Point
			for _, v := range points {
				moved, _ := impl.ApplyMatrix(m, v)
				want = append(want, moved)
			}
			got, code := impl.SailPoints(want[0], want[len(want)-1])
			checkList(t, "SailPoints of a moved angle", got, code, want, impl.ErrNone)
		}
	}
}

func TestResultsOfSailsAreNew(t *testing.T) {
	a, b := impl.Point{1, 0}, impl.Point{5, 12}
	for range 2 {
		points, code := impl.SailPoints(a, b)
		checkList(t, "SailPoints", points, code, []impl.Point{{1, 0}, {1, 1}, {1, 2}, {3, 7}, {5, 12}}, impl.ErrNone)
		vertices, code := impl.SailVertices(a, b)
		checkList(t, "SailVertices", vertices, code, []impl.Point{{1, 0}, {1, 2}, {5, 12}}, impl.ErrNone)
		lengths, code := impl.SailLengths(a, b)
		checkList(t, "SailLengths", lengths, code, []int64{2, 2}, impl.ErrNone)
		sines, code := impl.SailSines(a, b)
		checkList(t, "SailSines", sines, code, []int64{2}, impl.ErrNone)
		points[2], vertices[1], lengths[0], sines[0] = impl.Point{}, impl.Point{}, 9, 9
	}
}
