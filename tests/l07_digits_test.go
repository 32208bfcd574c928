package tests

import (
	"fmt"
	"slices"
	"testing"

	"loop.example/g01297/impl"
)

// digitsByHand takes the first number away as often as it goes.
func digitsByHand(x impl.Triple) ([][]int64, impl.Triple) {
	var digits [][]int64
	for x[0] > 0 {
		pair := []int64{0, 0}
		for x[1] >= x[0] {
			x[1] -= x[0]
			pair[0]++
		}
		for x[2] >= x[0] {
			x[2] -= x[0]
			pair[1]++
		}
		digits = append(digits, pair)
		x[0], x[1], x[2] = x[1], x[2], x[0]
	}
	return digits, x
}

// withFirst are triples with a first number of at least 1, in all orders.
func withFirst() []impl.Triple {
	list := slices.Concat(gridTriples(12), unsortedTriples(3))
	for _, x := range greatTriples(300) {
		list = append(list, x, impl.Triple{x[2], x[0], x[1]}, impl.Triple{x[1], x[2], x[0]}, impl.Triple{x[2], x[1], x[0]})
	}
	list = append(list, impl.Triple{1, top, top}, impl.Triple{1, 0, top}, impl.Triple{top, 0, 1}, impl.Triple{top, 1, 0}, impl.Triple{1, 0, 0}, impl.Triple{top - 1, top, 0})
	return slices.DeleteFunc(list, func(x impl.Triple) bool { return x[0] == 0 })
}

func TestDigitsOf(t *testing.T) {
	for _, x := range withFirst() {
		want, wantRest := digitsByHand(x)
		digits, rest, code := impl.DigitsOf(x)
		checkDigits(t, x, digits, rest, code, want, wantRest, impl.ErrNone)
	}
}

func TestDigitsByHand(t *testing.T) {
	cases := []struct {
		of     impl.Triple
		digits [][]int64
		rest   impl.Triple
	}{
		{impl.Triple{2, 7, 5}, [][]int64{{3, 2}, {1, 2}}, impl.Triple{0, 0, 1}},
		{impl.Triple{1, 0, 0}, [][]int64{{0, 0}}, impl.Triple{0, 0, 1}},
		{impl.Triple{1, top, top}, [][]int64{{top, top}}, impl.Triple{0, 0, 1}},
		{impl.Triple{top, 0, 0}, [][]int64{{0, 0}}, impl.Triple{0, 0, top}},
		{impl.Triple{5, 10, 3}, [][]int64{{2, 0}}, impl.Triple{0, 3, 5}},
		{impl.Triple{5, 3, 0}, [][]int64{{0, 0}, {0, 1}}, impl.Triple{0, 2, 3}},
	}
	for _, c := range cases {
		digits, rest, code := impl.DigitsOf(c.of)
		checkDigits(t, c.of, digits, rest, code, c.digits, c.rest, impl.ErrNone)
	}
}

func TestErrorsOfDigits(t *testing.T) {
	for _, x := range badTriples() {
		digits, rest, code := impl.DigitsOf(x)
		checkDigits(t, x, digits, rest, code, nil, impl.Triple{}, impl.ErrInvalid)
	}
	for _, x := range append(gridTriples(9), impl.Triple{0, top, top}, impl.Triple{0, 0, top}, impl.Triple{0, top, 0}) {
		if x[0] == 0 {
			digits, rest, code := impl.DigitsOf(x)
			checkDigits(t, x, digits, rest, code, nil, impl.Triple{}, impl.ErrRange)
		}
	}
}

func TestDigitsLeadBack(t *testing.T) {
	for _, x := range withFirst() {
		digits, rest, code := impl.DigitsOf(x)
		if code != impl.ErrNone {
			t.Fatalf("DigitsOf(%v): code %d", x, code)
		}
		checkTripleOf(t, digits, rest, x, impl.ErrNone)
	}
}

func checkTripleOf(t *testing.T, digits [][]int64, rest impl.Triple, want impl.Triple, wantCode int64) {
	t.Helper()
	before := make([][]int64, len(digits))
	for i, pair := range digits {
		before[i] = slices.Clone(pair)
	}
	got, code := impl.TripleOfDigits(digits, rest)
	check(t, fmt.Sprintf("TripleOfDigits(%v, %v)", digits, rest), got, code, want, wantCode)
	if !slices.EqualFunc(digits, before, slices.Equal) {
		t.Errorf("TripleOfDigits changes digits from %v to %v", before, digits)
	}
}

// Each list is overwritten, with the room behind it: no list behind it, and none made again, may change.
func TestDigitsAreNew(t *testing.T) {
	for _, x := range []impl.Triple{{2, 7, 5}, {7, 5, 2}, {999999, 618033, 381966}} {
		want, wantRest := digitsByHand(x)
		first, _, _ := impl.DigitsOf(x)
		for i, pair := range first {
			room := pair[:cap(pair)]
			for j := range room {
				room[j] = -1
			}
			for j := i + 1; j < len(first); j++ {
				if !slices.Equal(first[j], want[j]) {
					t.Errorf("the digits of %v: the list %d shares memory with the list %d", x, j, i)
				}
			}
		}
		digits, rest, code := impl.DigitsOf(x)
		checkDigits(t, x, digits, rest, code, want, wantRest, impl.ErrNone)
	}
}

func repeatPair(k int64, l int64, n int) [][]int64 {
	var list [][]int64
	for range n {
		list = append(list, []int64{k, l})
	}
	return list
}

func TestTripleOfDigits(t *testing.T) {
	cases := []struct {
		digits [][]int64
		rest   impl.Triple
		want   impl.Triple
	}{
		{nil, impl.Triple{0, 3, 5}, impl.Triple{0, 3, 5}},
		{[][]int64{}, impl.Triple{0, 0, top}, impl.Triple{0, 0, top}},
		{nil, impl.Triple{0, top, 0}, impl.Triple{0, top, 0}},
		{[][]int64{{3, 2}, {1, 2}}, impl.Triple{0, 0, 1}, impl.Triple{2, 7, 5}},
		{[][]int64{{2, 0}}, impl.Triple{0, 3, 5}, impl.Triple{5, 10, 3}},
		{[][]int64{{7, 9}}, impl.Triple{0, 4, 0}, impl.Triple{0, 0, 4}},
		{[][]int64{{0, 0}}, impl.Triple{0, 4, 0}, impl.Triple{0, 0, 4}},
		{repeatPair(0, 0, 60), impl.Triple{0, 4, 9}, impl.Triple{0, 4, 9}},
		{repeatPair(0, 0, 59), impl.Triple{0, 4, 9}, impl.Triple{4, 9, 0}},
		{repeatPair(0, 0, 58), impl.Triple{0, 4, 9}, impl.Triple{9, 0, 4}},
		{[][]int64{{top, top}}, impl.Triple{0, 0, 1}, impl.Triple{1, top, top}},
		{[][]int64{{top, top}}, impl.Triple{0, 1, 0}, impl.Triple{0, 0, 1}},
		{[][]int64{{top, 0}}, impl.Triple{0, top, 1}, impl.Triple{1, top, top}},
		{[][]int64{{1, 1}}, impl.Triple{0, 0, top}, impl.Triple{top, top, top}},
		{[][]int64{{999, 0}}, impl.Triple{0, 3, 1001}, impl.Triple{1001, 999999, 3}},
		{[][]int64{{0, 0}, {999, 0}}, impl.Triple{0, 3, 1001}, impl.Triple{3, 1001, 999999}},
	}
	for _, c := range cases {
		checkTripleOf(t, c.digits, c.rest, c.want, impl.ErrNone)
	}
}

func TestTriplesOfManyDigits(t *testing.T) {
	next := numbersFrom(11)
	great := 0
	for range 4000 {
		var digits [][]int64
		for range next(61) {
			digits = append(digits, []int64{next(2) * next(3), next(2)})
		}
		rest := impl.Triple{0, next(20), 1 + next(20)}
		want := rest
		for i := len(digits) - 1; i >= 0 && max(want[0], want[1], want[2]) <= top; i-- {
			want = timesTriple(impl.Square{{0, 0, 1}, {1, 0, digits[i][0]}, {0, 1, digits[i][1]}}, want)
		}
		if max(want[0], want[1], want[2]) > top {
			checkTripleOf(t, digits, rest, impl.Triple{}, impl.ErrLimit)
			great++
			continue
		}
		checkTripleOf(t, digits, rest, want, impl.ErrNone)
	}
	if great < 400 || great > 3600 {
		t.Errorf("%d of the triples are too great", great)
	}
}

// With pairs of 0 ahead, the number that is too great is made on the way.
func TestTriplesAtTheLimit(t *testing.T) {
	cases := []struct {
		pair []int64
		rest impl.Triple
		code int64
	}{
		{[]int64{0, 1000}, impl.Triple{0, 0, 1000}, impl.ErrNone},
		{[]int64{0, 1000}, impl.Triple{0, 1, 1000}, impl.ErrLimit},
		{[]int64{0, 1}, impl.Triple{0, top - 1, 1}, impl.ErrNone},
		{[]int64{0, 1}, impl.Triple{0, top, 1}, impl.ErrLimit},
		{[]int64{0, 1}, impl.Triple{0, 0, top}, impl.ErrNone},
		{[]int64{0, 1}, impl.Triple{0, 1, top}, impl.ErrLimit},
		{[]int64{0, top}, impl.Triple{0, 0, 1}, impl.ErrNone},
		{[]int64{0, top}, impl.Triple{0, 1, 1}, impl.ErrLimit},
		{[]int64{1000, 0}, impl.Triple{0, 5, 1000}, impl.ErrNone},
		{[]int64{1000, 0}, impl.Triple{0, 5, 1001}, impl.ErrLimit},
		{[]int64{9901, 0}, impl.Triple{0, 0, 101}, impl.ErrLimit},
		{[]int64{top, 0}, impl.Triple{0, 0, 2}, impl.ErrLimit},
		{[]int64{top, top}, impl.Triple{0, top, top}, impl.ErrLimit},
	}
	for _, c := range cases {
		made := impl.Triple{c.rest[2], c.pair[0] * c.rest[2], c.rest[1] + c.pair[1]*c.rest[2]}
		for ahead := range 60 {
			digits := append(repeatPair(0, 0, ahead), c.pair)
			want := impl.Triple{}
			if c.code == impl.ErrNone {
				want = impl.Triple{made[(2*ahead)%3], made[(2*ahead+1)%3], made[(2*ahead+2)%3]}
			}
			checkTripleOf(t, digits, c.rest, want, c.code)
		}
	}
	// Behind the second pair, a first number is not 0.
	checkTripleOf(t, [][]int64{{1, 0}, {0, 0}}, impl.Triple{0, 1, top - 1}, impl.Triple{1, top, 0}, impl.ErrNone)
	checkTripleOf(t, [][]int64{{1, 0}, {0, 0}}, impl.Triple{0, 1, top}, impl.Triple{}, impl.ErrLimit)
	// Numbers that an int64 does not hold, were one to go on.
	for _, pair := range [][]int64{{top, top}, {top, 1}, {1, top}} {
		for n := 2; n <= 60; n++ {
			checkTripleOf(t, repeatPair(pair[0], pair[1], n), impl.Triple{0, top, top}, impl.Triple{}, impl.ErrLimit)
		}
	}
}

// badDigits are no digits: by the size of a list, by a number, or as they are too many.
func badDigits() [][][]int64 {
	list := [][][]int64{
		{{}}, {nil}, {{1}}, {{1, 2, 3}}, {{1, 2}, {1}}, {{1}, {1, 2}}, {{1, 2}, {}}, {{1, 2}, {1, 2, 0}, {1, 2}}, {{1, -1}}, {{-1, 1}}, {{0, 0}, {0, -1}},
		repeatPair(0, 0, 61), repeatPair(1, 1, 61), repeatPair(0, 0, 1000), append(repeatPair(0, 0, 59), []int64{1}), append([][]int64{{1, 2, 3}}, repeatPair(0, 0, 59)...),
	}
	for _, n := range tooGreat {
		list = append(list, [][]int64{{n, 1}}, [][]int64{{1, n}}, [][]int64{{1, 1}, {n, 0}}, [][]int64{{0, n}, {1, 1}}, append(repeatPair(1, 1, 59), []int64{n, n}))
	}
	return list
}

func TestErrorsOfTripleOfDigits(t *testing.T) {
	someDigits := append(badDigits(), nil, [][]int64{{3, 2}, {1, 2}}, repeatPair(top, top, 60))
	for _, rest := range badTriples() {
		for _, digits := range someDigits {
			checkTripleOf(t, digits, rest, impl.Triple{}, impl.ErrInvalid)
		}
	}
	for _, rest := range []impl.Triple{{1, 0, 0}, {1, 2, 3}, {top, 0, 0}, {top, top, top}, {5, 0, 1}} {
		for _, digits := range someDigits {
			checkTripleOf(t, digits, rest, impl.Triple{}, impl.ErrRange)
		}
	}
	for _, rest := range []impl.Triple{{0, 0, 1}, {0, 1, 0}, {0, 3, 5}, {0, top, top}} {
		for _, digits := range badDigits() {
			checkTripleOf(t, digits, rest, impl.Triple{}, impl.ErrRange)
		}
	}
}
