package tests

import (
	"fmt"
	"slices"
	"testing"

	"loop.example/g01297/impl"
)

func TestMatrixOfRun(t *testing.T) {
	for _, x := range sortedTriples(9) {
		for rule := range int64(4) {
			run, squares := runByHand(x, rule, 300)
			for n := range len(run) + 2 {
				checkSquare(t, x, rule, int64(n), squares[min(n, len(squares)-1)])
			}
			checkSquare(t, x, rule, 300, squares[len(squares)-1])
		}
	}
}

func checkSquare(t *testing.T, x impl.Triple, rule int64, n int64, want impl.Square) {
	t.Helper()
	m, code := impl.MatrixOfRun(x, rule, n)
	check(t, fmt.Sprintf("MatrixOfRun(%v, %d, %d)", x, rule, n), m, code, want, impl.ErrNone)
}

func TestMatricesByHand(t *testing.T) {
	cases := []struct {
		of   impl.Triple
		rule int64
		n    int64
		want impl.Square
	}{
		{impl.Triple{7, 5, 2}, 0, 0, unitSquare},
		{impl.Triple{7, 5, 2}, 0, 1, impl.Square{{1, 1, 0}, {1, 0, 0}, {0, 0, 1}}},
		{impl.Triple{7, 5, 2}, 1, 1, impl.Square{{1, 0, 1}, {0, 1, 0}, {0, 0, 1}}},
		{impl.Triple{7, 5, 2}, 2, 1, impl.Square{{1, 1, 1}, {1, 0, 1}, {0, 0, 1}}},
		{impl.Triple{7, 5, 2}, 3, 1, impl.Square{{1, 0, 1}, {0, 1, 1}, {0, 0, 1}}},
		{impl.Triple{7, 5, 2}, 0, 2, impl.Square{{1, 2, 0}, {1, 1, 0}, {0, 0, 1}}},
		// Equal numbers stay in the order in which they stand.
		{impl.Triple{1, 1, 1}, 0, 1, impl.Square{{1, 0, 1}, {1, 0, 0}, {0, 1, 0}}},
		{impl.Triple{1, 1, 1}, 1, 1, impl.Square{{0, 1, 1}, {1, 0, 0}, {0, 1, 0}}},
		{impl.Triple{1, 1, 1}, 2, 1, impl.Square{{1, 1, 1}, {1, 0, 1}, {1, 0, 0}}},
		{impl.Triple{1, 1, 1}, 3, 1, impl.Square{{1, 1, 0}, {1, 0, 1}, {1, 0, 0}}},
		{impl.Triple{2, 1, 1}, 0, 1, impl.Square{{1, 1, 0}, {0, 1, 0}, {0, 0, 1}}},
		{impl.Triple{2, 2, 1}, 2, 1, impl.Square{{1, 1, 1}, {1, 1, 0}, {0, 1, 0}}},
		// Ended ahead of the first step, and ahead of the last one.
		{impl.Triple{9, 4, 0}, 1, 5, unitSquare},
		{impl.Triple{9, 4, 0}, 3, 300, unitSquare},
		{impl.Triple{9, 0, 0}, 2, 1, unitSquare},
		{impl.Triple{2, 1, 0}, 0, 300, impl.Square{{2, 1, 0}, {1, 0, 0}, {0, 0, 1}}},
	}
	for _, c := range cases {
		checkSquare(t, c.of, c.rule, c.n, c.want)
	}
}

func TestMatricesLeadEndsBack(t *testing.T) {
	for _, x := range slices.Concat(sortedTriples(9), greatTriples(200)) {
		for rule := range int64(4) {
			for _, n := range []int64{0, 1, 2, 3, 5, 8, 13, 50, 300} {
				run, code := impl.RunTriple(x, rule, n)
				if code != impl.ErrNone {
					t.Fatalf("RunTriple(%v, %d, %d): code %d", x, rule, n, code)
				}
				m, code := impl.MatrixOfRun(x, rule, n)
				if code == impl.ErrLimit && rule == 2 {
					continue
				}
				if d := determinantOfSquare(m); d != 1 && d != -1 {
					t.Errorf("MatrixOfRun(%v, %d, %d) = %v, %d has the determinant %d", x, rule, n, m, code, d)
				}
				got, code := impl.ApplySquare(m, run[len(run)-1])
				check(t, fmt.Sprintf("what leads back to %v by the rule %d, by %d steps", x, rule, n), got, code, x, impl.ErrNone)
			}
		}
	}
}

func TestGreatMatricesOfRuns(t *testing.T) {
	found := map[int64]int{}
	for _, x := range greatTriples(300) {
		for rule := range int64(4) {
			run, squares := runByHand(x, rule, 300)
			for _, n := range []int{1, 5, 20, 30, 40, 60, 100, 200, 300} {
				want := squares[min(n, len(run)-1)]
				if greatestOfSquare(want) <= top {
					checkSquare(t, x, rule, int64(n), want)
					continue
				}
				m, code := impl.MatrixOfRun(x, rule, int64(n))
				check(t, fmt.Sprintf("MatrixOfRun(%v, %d, %d)", x, rule, n), m, code, impl.Square{}, impl.ErrLimit)
				found[rule]++
			}
		}
	}
	if len(found) != 1 || found[2] == 0 {
		t.Errorf("matrices by the rule 2 alone are too great, and not %v", found)
	}
}

// Up to one step less, no number is too great.
func TestMatricesAtTheLimit(t *testing.T) {
	cases := []struct {
		of       impl.Triple
		steps    int64
		greatest int64
	}{
		{impl.Triple{236234, 132180, 0}, 52, top},
		{impl.Triple{250368, 2019, 0}, 250, top},
		{impl.Triple{288478, 11100, 0}, 142, top},
		{impl.Triple{318818, 233080, 0}, 45, top},
		{impl.Triple{170411, 115027, 0}, 239, top + 1},
		{impl.Triple{207781, 140252, 0}, 239, top + 1},
		{impl.Triple{212517, 58523, 0}, 45, top + 1},
	}
	for _, c := range cases {
		run, squares := runByHand(c.of, 2, 300)
		if greatest := greatestOfSquare(squares[c.steps]); greatest != c.greatest {
			t.Fatalf("%v has %d as its greatest number behind %d steps", c.of, greatest, c.steps)
		}
		checkSquare(t, c.of, 2, c.steps-1, squares[c.steps-1])
		if c.greatest == top {
			checkSquare(t, c.of, 2, c.steps, squares[c.steps])
		}
		for n := c.steps; n <= 300; n++ {
			if greatestOfSquare(squares[min(int(n), len(run)-1)]) > top {
				m, code := impl.MatrixOfRun(c.of, 2, n)
				check(t, fmt.Sprintf("MatrixOfRun(%v, 2, %d)", c.of, n), m, code, impl.Square{}, impl.ErrLimit)
			}
		}
	}
	// What leads to 1, 0, 0 has the triple as its first column.
	m, code := impl.MatrixOfRun(impl.Triple{top, 618033, 381966}, 0, 300)
	if code != impl.ErrNone || m[0][0] != top || m[1][0] != 618033 || m[2][0] != 381966 {
		t.Errorf("MatrixOfRun = %v, %d", m, code)
	}
}

func TestApplySquare(t *testing.T) {
	squares := []impl.Square{
		unitSquare, {{1, 1, 0}, {1, 0, 0}, {0, 0, 1}}, {{1, 2, 3}, {4, 5, 6}, {7, 8, 9}}, {{0, 0, 0}, {0, 0, 0}, {0, 0, 1}},
		{{0, 1, 0}, {0, 0, 0}, {0, 0, 0}}, {{12, 0, 5}, {0, 0, 0}, {3, 11, 0}}, {},
	}
	for _, m := range squares {
		for _, x := range gridTriples(5) {
			want, wantCode := timesTriple(m, x), int64(impl.ErrNone)
			if want == (impl.Triple{}) {
				wantCode = impl.ErrRange
			}
			got, code := impl.ApplySquare(m, x)
			check(t, fmt.Sprintf("ApplySquare(%v, %v)", m, x), got, code, want, wantCode)
		}
	}
}

func TestSumsAtTheLimit(t *testing.T) {
	cases := []struct {
		m    impl.Square
		of   impl.Triple
		want impl.Triple
		code int64
	}{
		{impl.Square{{top, 0, 0}, {0, top, 0}, {0, 0, top}}, impl.Triple{1, 1, 1}, impl.Triple{top, top, top}, impl.ErrNone},
		{unitSquare, impl.Triple{top, top, top}, impl.Triple{top, top, top}, impl.ErrNone},
		{impl.Square{{1, 1, 1}, {0, 0, 0}, {0, 0, 0}}, impl.Triple{333333, 333333, 333334}, impl.Triple{top, 0, 0}, impl.ErrNone},
		{impl.Square{{1, 1, 1}, {0, 0, 0}, {0, 0, 0}}, impl.Triple{333334, 333333, 333334}, impl.Triple{}, impl.ErrLimit},
		{impl.Square{{0, 0, 1}, {333, 666, 1}, {0, 0, 0}}, impl.Triple{1001, 1001, 1}, impl.Triple{1, top, 0}, impl.ErrNone},
		{impl.Square{{0, 0, 1}, {333, 666, 2}, {0, 0, 0}}, impl.Triple{1001, 1001, 1}, impl.Triple{}, impl.ErrLimit},
		{impl.Square{{0, 0, 1}, {1, 0, 0}, {1000, 1, 0}}, impl.Triple{1000, 1, 7}, impl.Triple{}, impl.ErrLimit},
		{impl.Square{{top, 0, 0}, {0, 0, 0}, {0, 0, 0}}, impl.Triple{0, top, top}, impl.Triple{}, impl.ErrRange},
		{impl.Square{{top, top, top}, {top, top, top}, {top, top, top}}, impl.Triple{top, top, top}, impl.Triple{}, impl.ErrLimit},
		{impl.Square{{top, 0, 0}, {0, 0, 0}, {0, 0, 0}}, impl.Triple{2, 0, 0}, impl.Triple{}, impl.ErrLimit},
		{impl.Square{}, impl.Triple{1, 2, 3}, impl.Triple{}, impl.ErrRange},
	}
	for _, c := range cases {
		got, code := impl.ApplySquare(c.m, c.of)
		check(t, fmt.Sprintf("ApplySquare(%v, %v)", c.m, c.of), got, code, c.want, c.code)
	}
}

// badSquares have one number each that is less than 0 or too great.
func badSquares() []impl.Square {
	var list []impl.Square
	for _, n := range append([]int64{-1}, tooGreat...) {
		for i := range 9 {
			for _, m := range []impl.Square{unitSquare, {}, {{1, 2, 3}, {4, 5, 6}, {7, 8, 9}}} {
				m[i/3][i%3] = n
				list = append(list, m)
			}
		}
	}
	return list
}

func TestErrorsOfApplySquare(t *testing.T) {
	for _, x := range badTriples() {
		for _, m := range append(badSquares(), unitSquare, impl.Square{}) {
			got, code := impl.ApplySquare(m, x)
			check(t, fmt.Sprintf("ApplySquare(%v, %v)", m, x), got, code, impl.Triple{}, impl.ErrInvalid)
		}
	}
	for _, x := range append(unsortedTriples(2), impl.Triple{top, top, top}, impl.Triple{1, 0, 0}, impl.Triple{3, 2, 1}) {
		for _, m := range badSquares() {
			got, code := impl.ApplySquare(m, x)
			check(t, fmt.Sprintf("ApplySquare(%v, %v)", m, x), got, code, impl.Triple{}, impl.ErrRange)
		}
	}
}
