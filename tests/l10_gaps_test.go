package tests

import (
	"fmt"
	"slices"
	"testing"

	"loop.example/g01297/impl"
)

func checkPlace(t *testing.T, x impl.Point, k int64, want int64, wantCode int64) {
	t.Helper()
	got, code := impl.PlaceOf(x[0], x[1], k)
	check(t, fmt.Sprintf("PlaceOf(%d, %d, %d)", x[0], x[1], k), got, code, want, wantCode)
}

func checkOrder(t *testing.T, x impl.Point, n int64, want []int64, wantCode int64) {
	t.Helper()
	got, code := impl.OrderOfMultiples(x[0], x[1], n)
	checkList(t, fmt.Sprintf("OrderOfMultiples(%d, %d, %d)", x[0], x[1], n), got, code, want, wantCode)
}

func checkGaps(t *testing.T, x impl.Point, n int64, want [][]int64, wantCode int64) {
	t.Helper()
	got, code := impl.GapsOf(x[0], x[1], n)
	if !slices.EqualFunc(got, want, slices.Equal[[]int64]) || code != wantCode {
		t.Errorf("GapsOf(%d, %d, %d) = %v, %d; want %v, %d", x[0], x[1], n, got, code, want, wantCode)
	}
}

// withPlaces are those of some ratios that have places.
func withPlaces(list []impl.Point) []impl.Point {
	return slices.DeleteFunc(list, func(x impl.Point) bool { return x[1] < 2 })
}

func TestPlaceOf(t *testing.T) {
	cases := []struct {
		x       impl.Point
		k, want int64
	}{
		{impl.Point{7, 5}, 4, 3}, {impl.Point{7, 5}, 0, 0}, {impl.Point{7, 5}, -1, 3}, {impl.Point{-7, 5}, 1, 3}, {impl.Point{-7, 5}, -1, 2},
		// Multiples of Q, and of Q divided by the common divisor.
		{impl.Point{7, 5}, 5, 0}, {impl.Point{7, 5}, -10, 0}, {impl.Point{7, 5}, top, 0}, {impl.Point{6, 4}, 2, 0}, {impl.Point{6, 4}, 1, 2}, {impl.Point{6, 4}, -3, 2},
		{impl.Point{0, 2}, 7, 0}, {impl.Point{1, 2}, 7, 1}, {impl.Point{1, 2}, -7, 1}, {impl.Point{top, 2}, 7, 0},
		{impl.Point{top, top}, top, 0}, {impl.Point{top, top}, -1, 0}, {impl.Point{1, top}, top, 0}, {impl.Point{1, top}, top - 1, top - 1}, {impl.Point{1, top}, 1 - top, 1}, {impl.Point{-1, top}, 1, top - 1},
		{impl.Point{top - 1, top}, top - 1, 1}, {impl.Point{top - 1, top}, 1 - top, top - 1}, {impl.Point{top, top - 1}, top, 1}, {impl.Point{-top, top - 1}, top, top - 2}, {impl.Point{-top, top - 1}, -top, 1}, {impl.Point{top, top - 1}, -top, top - 2},
	}
	for _, c := range cases {
		checkPlace(t, c.x, c.k, c.want, impl.ErrNone)
	}
}

func TestPlacesOfManyNumbers(t *testing.T) {
	for _, x := range withPlaces(append(gridRatios(9, 9), greatRatios()...)) {
		for _, k := range []int64{0, 1, -1, 2, 3, 4, 5, -6, 17, 500, -999, x[1] - 1, x[1], -x[1], x[1] / 2, 314159, -271828, top, 1 - top, -top} {
			checkPlace(t, x, k, placeByHand(x, k), impl.ErrNone)
		}
	}
}

func TestErrorsOfPlaces(t *testing.T) {
	for _, bad := range append(noRatios(), impl.Point{7, 1}, impl.Point{0, 1}, impl.Point{top, 1}) {
		for _, k := range []int64{0, 4, -top, top + 1} {
			checkPlace(t, bad, k, 0, impl.ErrRange)
		}
	}
	for _, k := range tooGreat {
		for _, x := range []impl.Point{{7, 5}, {0, 2}, {-top, top}} {
			checkPlace(t, x, k, 0, impl.ErrRange)
		}
	}
}

func TestOrderOfMultiples(t *testing.T) {
	cases := []struct {
		x    impl.Point
		n    int64
		want []int64
	}{
		{impl.Point{2, 5}, 3, []int64{0, 1, 2}},
		{impl.Point{2, 5}, 1, []int64{0}},
		{impl.Point{2, 5}, 4, []int64{0, 3, 1, 2}},
		{impl.Point{2, 5}, 5, []int64{0, 3, 1, 4, 2}},
		{impl.Point{7, 5}, 5, []int64{0, 3, 1, 4, 2}},
		{impl.Point{-3, 5}, 5, []int64{0, 3, 1, 4, 2}},
		// Equal places.
		{impl.Point{2, 5}, 7, []int64{0, 5, 3, 1, 6, 4, 2}},
		{impl.Point{4, 10}, 7, []int64{0, 5, 3, 1, 6, 4, 2}},
		{impl.Point{1, 2}, 6, []int64{0, 2, 4, 1, 3, 5}},
		{impl.Point{0, 3}, 5, []int64{0, 1, 2, 3, 4}},
		{impl.Point{6, 3}, 5, []int64{0, 1, 2, 3, 4}},
		{impl.Point{top - 1, top}, 4, []int64{0, 3, 2, 1}},
		{impl.Point{-top, top}, 3, []int64{0, 1, 2}},
	}
	for _, c := range cases {
		checkOrder(t, c.x, c.n, c.want, impl.ErrNone)
	}
}

// orderByHand takes the places one by one, and for each of them the numbers that have it.
func orderByHand(x impl.Point, n int64) []int64 {
	numbers := map[int64][]int64{}
	for k := range n {
		place := placeByHand(x, k)
		numbers[place] = append(numbers[place], k)
	}
	var order []int64
	for _, place := range placesByHand(x, n) {
		order = append(order, numbers[place]...)
	}
	return order
}

// placesByHand are the different places of 0 to n - 1, ascending.
func placesByHand(x impl.Point, n int64) []int64 {
	var places []int64
	for k := range n {
		places = append(places, placeByHand(x, k))
	}
	slices.Sort(places)
	return slices.Compact(places)
}

// someSteps are numbers of multiples, up to the greatest one, and around Q.
func someSteps(x impl.Point) []int64 {
	list := []int64{1, 2, 3, 5, 8, 20, steps / 2, steps - 1, steps, x[1] - 1, x[1], x[1] + 1, 2 * x[1], 3*x[1] + 1}
	return slices.DeleteFunc(list, func(n int64) bool { return n > steps })
}

func TestOrdersOfManyRatios(t *testing.T) {
	for _, x := range withPlaces(append(gridRatios(8, 8), everyFew(greatRatios(), 3)...)) {
		for _, n := range someSteps(x) {
			checkOrder(t, x, n, orderByHand(x, n), impl.ErrNone)
		}
	}
}

func TestGapsOf(t *testing.T) {
	cases := []struct {
		x    impl.Point
		n    int64
		want [][]int64
	}{
		{impl.Point{2, 5}, 3, [][]int64{{1, 1}, {2, 2}}},
		{impl.Point{2, 5}, 1, [][]int64{{5, 1}}},
		{impl.Point{2, 5}, 2, [][]int64{{2, 1}, {3, 1}}},
		{impl.Point{2, 5}, 4, [][]int64{{1, 3}, {2, 1}}},
		{impl.Point{2, 5}, 5, [][]int64{{1, 5}}},
		{impl.Point{2, 5}, 6, [][]int64{{1, 5}}},
		{impl.Point{2, 5}, 500, [][]int64{{1, 5}}},
		{impl.Point{4, 10}, 500, [][]int64{{2, 5}}},
		{impl.Point{-2, 5}, 4, [][]int64{{1, 3}, {2, 1}}},
		{impl.Point{1, 2}, 2, [][]int64{{1, 2}}},
		{impl.Point{13, 31}, 6, [][]int64{{3, 1}, {5, 4}, {8, 1}}},
		// One place alone.
		{impl.Point{0, 2}, 7, [][]int64{{2, 1}}},
		{impl.Point{10, 5}, 500, [][]int64{{5, 1}}},
		{impl.Point{-top, top}, 500, [][]int64{{top, 1}}},
		{impl.Point{top, 2}, 500, [][]int64{{2, 1}}},
		{impl.Point{1, top}, 1, [][]int64{{top, 1}}},
		{impl.Point{1, top}, 500, [][]int64{{1, 499}, {top - 499, 1}}},
		{impl.Point{top - 1, top}, 500, [][]int64{{1, 499}, {top - 499, 1}}},
		{impl.Point{top / 2, top}, 500, [][]int64{{top / 2, 2}}},
		{impl.Point{2000, top}, 500, [][]int64{{2000, 500}}},
		{impl.Point{2000, top}, 499, [][]int64{{2000, 498}, {4000, 1}}},
	}
	for _, c := range cases {
		checkGaps(t, c.x, c.n, c.want, impl.ErrNone)
	}
}

// gapsByHand goes from each place on, back to the first one behind the last one.
func gapsByHand(x impl.Point, n int64) [][]int64 {
	places := placesByHand(x, n)
	counts := map[int64]int64{}
	for i, place := range places {
		next := places[0] + x[1]
		if i+1 < len(places) {
			next = places[i+1]
		}
		counts[next-place]++
	}
	var list [][]int64
	for gap, count := range counts {
		list = append(list, []int64{gap, count})
	}
	slices.SortFunc(list, slices.Compare[[]int64])
	return list
}

// gapsOnRing marks all places on a ring of Q, and walks around it.
func gapsOnRing(x impl.Point, n int64) [][]int64 {
	marked := make([]bool, x[1])
	place := int64(0)
	for range n {
		marked[place] = true
		place = ((place+x[0])%x[1] + x[1]) % x[1]
	}
	counts := make([]int64, x[1]+1)
	walked := int64(0)
	for i := int64(1); i <= x[1]; i++ {
		walked++
		if marked[i%x[1]] {
			counts[walked]++
			walked = 0
		}
	}
	var list [][]int64
	for gap, count := range counts {
		if count > 0 {
			list = append(list, []int64{int64(gap), count})
		}
	}
	return list
}

func TestGapsOfManyRatios(t *testing.T) {
	for _, x := range withPlaces(gridRatios(14, 13)) {
		for n := int64(1); n <= 16; n++ {
			checkGaps(t, x, n, gapsOnRing(x, n), impl.ErrNone)
		}
	}
	for _, x := range withPlaces(greatRatios()) {
		for _, n := range someSteps(x) {
			checkGaps(t, x, n, gapsByHand(x, n), impl.ErrNone)
		}
	}
}

// Of three gaps, the greatest one is the sum of both others. That each number of gaps is seen shows that
// the test looks at all of them.
func TestGapsAddUpAndAreAtMostThree(t *testing.T) {
	var seen [4]int
	for _, x := range withPlaces(append(gridRatios(30, 30), greatRatios()...)) {
		for _, n := range someSteps(x) {
			gaps, code := impl.GapsOf(x[0], x[1], n)
			if code != impl.ErrNone || len(gaps) < 1 || len(gaps) > 3 {
				t.Fatalf("GapsOf(%d, %d, %d) = %v, %d", x[0], x[1], n, gaps, code)
			}
			sum, count := int64(0), int64(0)
			for _, pair := range gaps {
				sum, count = sum+pair[0]*pair[1], count+pair[1]
			}
			if sum != x[1] || count != int64(len(placesByHand(x, n))) || len(gaps) == 3 && gaps[2][0] != gaps[0][0]+gaps[1][0] {
				t.Errorf("GapsOf(%d, %d, %d) = %v", x[0], x[1], n, gaps)
			}
			seen[len(gaps)]++
		}
	}
	if min(seen[1], seen[2], seen[3]) < 100 {
		t.Errorf("one, two and three gaps are seen %v times", seen[1:])
	}
}

func TestErrorsOfOrdersAndGaps(t *testing.T) {
	for _, bad := range append(noRatios(), impl.Point{7, 1}, impl.Point{0, 1}, impl.Point{top, 1}) {
		for _, n := range []int64{1, 3, steps, 0, steps + 1} {
			checkOrder(t, bad, n, nil, impl.ErrRange)
			checkGaps(t, bad, n, nil, impl.ErrRange)
		}
	}
	for _, n := range badNumbersTo(steps) {
		for _, x := range []impl.Point{{7, 5}, {0, 2}, {-top, top}, {7, 1}} {
			checkOrder(t, x, n, nil, impl.ErrRange)
			checkGaps(t, x, n, nil, impl.ErrRange)
		}
	}
}

func TestOrdersAndGapsAreNew(t *testing.T) {
	checkNew(t, func() ([]int64, int64) { return impl.OrderOfMultiples(13, 31, 20) })
	gaps, code := impl.GapsOf(13, 31, 6)
	want := gapsOnRing(impl.Point{13, 31}, 6)
	if len(want) != 3 || code != impl.ErrNone {
		t.Fatalf("GapsOf(13, 31, 6) = %v, %d; want %v", gaps, code, want)
	}
	for i := range gaps {
		// A list that shares memory with the one behind it would change it here.
		gaps[i] = append(gaps[i], -1, -1, -1)
		clear(gaps[i])
		for j, later := range gaps[i+1:] {
			if !slices.Equal(later, want[i+1+j]) {
				t.Errorf("the gaps %d share memory with the gaps %d", i, i+1+j)
			}
		}
	}
	checkGaps(t, impl.Point{13, 31}, 6, want, impl.ErrNone)
}
