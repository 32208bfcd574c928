package tests

import (
	"slices"
	"testing"

	"loop.example/g01297/impl"
)

var unitSquare = impl.Square{{1, 0, 0}, {0, 1, 0}, {0, 0, 1}}

// told are the rows by which the rules make their numbers, before these are sorted again.
var told = [4]impl.Square{
	{{1, -1, 0}, {0, 1, 0}, {0, 0, 1}},
	{{1, 0, -1}, {0, 1, 0}, {0, 0, 1}},
	{{1, -1, 0}, {0, 1, -1}, {0, 0, 1}},
	{{1, 0, -1}, {0, 1, -1}, {0, 0, 1}},
}

// badRules and badSteps are numbers that no rule has, and that tell no steps of a run.
func badRules() []int64 { return append([]int64{-1, 4, 5}, tooGreat...) }

func badSteps() []int64 { return append([]int64{-1, 301, 302}, tooGreat...) }

// gridTriples are all triples with numbers up to n, in all orders.
func gridTriples(n int64) []impl.Triple {
	var list []impl.Triple
	for a := range n + 1 {
		for b := range n + 1 {
			for c := range n + 1 {
				if a+b+c > 0 {
					list = append(list, impl.Triple{a, b, c})
				}
			}
		}
	}
	return list
}

func doNotAscend(t impl.Triple) bool { return t[0] >= t[1] && t[1] >= t[2] }

func sortedTriples(n int64) []impl.Triple {
	return slices.DeleteFunc(gridTriples(n), func(t impl.Triple) bool { return !doNotAscend(t) })
}

func unsortedTriples(n int64) []impl.Triple {
	list := slices.DeleteFunc(gridTriples(n), doNotAscend)
	return append(list, impl.Triple{top - 1, top, 0}, impl.Triple{0, top, 0}, impl.Triple{0, 0, top}, impl.Triple{top, 0, 1}, impl.Triple{top, top - 1, top}, impl.Triple{0, 0, 1}, impl.Triple{1, 0, 1})
}

// badTriples are no triples: by one number or by more, or as all numbers are 0.
func badTriples() []impl.Triple {
	list := []impl.Triple{{}, {-1, 0, 0}, {0, 0, -1}, {5, 3, -1}, {5, -1, 3}, {-1, 5, 3}, {5, -3, -3}, {-2, -2, -2}, {-1, -2, -3}, {top, top, -1}}
	for _, n := range tooGreat {
		list = append(list, impl.Triple{n, 2, 1}, impl.Triple{2, n, 1}, impl.Triple{2, 1, n}, impl.Triple{n, n, n}, impl.Triple{n, 0, 0}, impl.Triple{n, n, 0})
	}
	return list
}

// greatTriples are sorted triples with numbers up to MaxCoord, of all sizes.
func greatTriples(n int) []impl.Triple {
	list := []impl.Triple{
		{top, 0, 0}, {top, top, 0}, {top, top, top}, {top, 1, 0}, {top, 1, 1}, {top, top, 1}, {top, top - 1, 0}, {top, top - 1, top - 1},
		{top, top - 1, top - 2}, {top, top / 2, 1}, {top, 618034, 381966}, {top, 754878, 569840}, {832040, 514229, 317811}, {832040, 514229, 0},
	}
	next := numbersFrom(7)
	for len(list) < n {
		a := next(top) + 1
		b := next(a + 1)
		list = append(list, impl.Triple{a, b, next(b + 1)}, impl.Triple{a, a - b, next(a-b+1) / (1 + next(300))})
	}
	return list
}

func timesTriple(m impl.Square, t impl.Triple) impl.Triple {
	var sums impl.Triple
	for i := range m {
		sums[i] = m[i][0]*t[0] + m[i][1]*t[1] + m[i][2]*t[2]
	}
	return sums
}

func timesSquare(m impl.Square, n impl.Square) impl.Square {
	var product impl.Square
	for i := range m {
		for j := range m {
			product[i][j] = m[i][0]*n[0][j] + m[i][1]*n[1][j] + m[i][2]*n[2][j]
		}
	}
	return product
}

// minor is what is left of m without a row and a column, with its sign, counted around.
func minor(m impl.Square, i int, j int) int64 {
	p, q, r, s := (i+1)%3, (i+2)%3, (j+1)%3, (j+2)%3
	return m[p][r]*m[q][s] - m[p][s]*m[q][r]
}

func determinantOfSquare(m impl.Square) int64 {
	return m[0][0]*minor(m, 0, 0) + m[0][1]*minor(m, 0, 1) + m[0][2]*minor(m, 0, 2)
}

// inverseSquare is that of a matrix with the determinant 1 or -1.
func inverseSquare(m impl.Square) impl.Square {
	var inverse impl.Square
	for i := range m {
		for j := range m {
			inverse[j][i] = minor(m, i, j) * determinantOfSquare(m)
		}
	}
	return inverse
}

// stepByHand is what a rule makes of a sorted triple, with the matrix that leads to it: numbers change
// places, and rows with them, as long as one is less than the one behind it.
func stepByHand(t impl.Triple, rule int64) (impl.Triple, impl.Square) {
	m := told[rule]
	made := timesTriple(m, t)
	for range 2 {
		for i := range 2 {
			if made[i] < made[i+1] {
				made[i], made[i+1] = made[i+1], made[i]
				m[i], m[i+1] = m[i+1], m[i]
			}
		}
	}
	return made, m
}

// runByHand goes on until a step leaves a triple, or for n steps, with the matrices of the steps.
func runByHand(t impl.Triple, rule int64, n int) ([]impl.Triple, []impl.Square) {
	run, squares := []impl.Triple{t}, []impl.Square{unitSquare}
	for len(run) <= n {
		next, m := stepByHand(run[len(run)-1], rule)
		if next == run[len(run)-1] {
			break
		}
		run = append(run, next)
		squares = append(squares, timesSquare(squares[len(squares)-1], inverseSquare(m)))
	}
	return run, squares
}

func greatestOfSquare(m impl.Square) int64 {
	return max(slices.Max(m[0][:]), slices.Max(m[1][:]), slices.Max(m[2][:]))
}

// lengthByHand is 301 for all lengths that are greater than MaxRun.
func lengthByHand(t impl.Triple, rule int64) int64 {
	run, _ := runByHand(t, rule, 301)
	return int64(len(run)) - 1
}

func checkDigits(t *testing.T, x impl.Triple, digits [][]int64, rest impl.Triple, code int64, want [][]int64, wantRest impl.Triple, wantCode int64) {
	t.Helper()
	if !slices.EqualFunc(digits, want, slices.Equal) || rest != wantRest || code != wantCode {
		t.Errorf("DigitsOf(%v) = %v, %v, %d; want %v, %v, %d", x, digits, rest, code, want, wantRest, wantCode)
	}
}
