package tests

import (
	"math"
	"slices"
	"strings"

	"loop.example/g01297/impl"
)

// far is a number too great for any matrix, at which products made by hand stay.
const far = 1 << 40

// allWords are all words of at most n letters.
func allWords(n int) []string {
	list := []string{""}
	for i := 0; len(list[i]) < n; i++ {
		list = append(list, list[i]+"L", list[i]+"R")
	}
	return list
}

// longWords are words of all sizes up to MaxWord, most of them with long runs.
func longWords(n int) []string {
	var list []string
	numbers := numbersFrom(6)
	next := func(m int) int { return int(numbers(int64(m))) }
	for len(list) < n {
		word, size, run := "", 1+next(impl.MaxWord), 1+next(60)
		for letter := next(2); len(word) < size; letter = 1 - letter {
			word += strings.Repeat("LR"[letter:letter+1], min(1+next(run), size-len(word)))
		}
		list = append(list, word)
	}
	return list
}

// badWords are texts that are no words: with other bytes, or with too many letters.
func badWords() []string {
	list := []string{
		strings.Repeat("L", 201), strings.Repeat("R", 201), strings.Repeat("LR", 100) + "L", strings.Repeat("R", 199) + "LL",
		strings.Repeat("RL", 5000), strings.Repeat("L", 200) + " ", strings.Repeat("L", 199) + "x", "x" + strings.Repeat("RL", 99),
		"LΛ", "Ł", "ＬＲ", "L R", "LR\n", " ", "lr", "RLr", strings.Repeat("x", 201),
	}
	for b := range 256 {
		if one := string([]byte{byte(b)}); one != "L" && one != "R" {
			list = append(list, one, one+"RL", "RL"+one, "RL"+one+"LR", one+"LR"+one)
		}
	}
	return list
}

// turnOver has L for R, and R for L.
func turnOver(word string) string { return strings.NewReplacer("L", "R", "R", "L").Replace(word) }

// matrixByHand adds columns, letter by letter.
func matrixByHand(word string) impl.Matrix {
	m := unit
	for _, letter := range word {
		for i := range m {
			if letter == 'L' {
				m[i][0] = min(m[i][0]+m[i][1], far)
			} else {
				m[i][1] = min(m[i][0]+m[i][1], far)
			}
		}
	}
	return m
}

func greatestNumber(m impl.Matrix) int64 { return max(m[0][0], m[0][1], m[1][0], m[1][1]) }

// completion is the least x and y of at least 0 for which p y - q x is 1, for p of at least 1.
func completion(p int64, q int64) (int64, int64) {
	if q == 0 {
		return 0, 1
	}
	if p > q {
		k := (p - 1) / q
		x, y := completion(p-k*q, q)
		return x + k*y, y
	}
	k := q / p
	x, y := completion(p, q-k*p)
	return x, y + k*x
}

// greatMatrices are matrices with the determinant 1 and no number less than 0, with p as the
// greatest number, at each of the four places.
func greatMatrices(p int64, q int64) []impl.Matrix {
	x, y := completion(p, q)
	m := impl.Matrix{{p, x}, {q, y}}
	// The other column of q and p, upside down, and p in it the greatest number.
	v, w := completion(q, p)
	n := impl.Matrix{{q, v}, {p, w}}
	return []impl.Matrix{m, n, {{m[1][1], m[1][0]}, {m[0][1], m[0][0]}}, {{n[1][1], n[1][0]}, {n[0][1], n[0][0]}}}
}

// lettersOfMatrix is how many letters the word of a matrix has, run by run.
func lettersOfMatrix(m impl.Matrix) int64 {
	upper, lower := m[0][0]+m[0][1], m[1][0]+m[1][1]
	letters := int64(0)
	for upper != lower {
		if upper < lower {
			upper, lower = lower, upper
		}
		k := (upper - 1) / lower
		letters += k
		upper -= k * lower
	}
	return letters
}

// turnsOf are all turns of a word.
func turnsOf(word string) []string {
	list := []string{word}
	for i := range word {
		list = append(list, word[i:]+word[:i])
	}
	return list
}

// runLengths are the lengths of the runs of a word.
func runLengths(word string) []int64 {
	var runs []int64
	for i := range word {
		if i == 0 || word[i] != word[i-1] {
			runs = append(runs, 0)
		}
		runs[len(runs)-1]++
	}
	return runs
}

// periodByHand is the least list of lengths of runs of all turns that cut no run and begin with R.
func periodByHand(word string) []int64 {
	var least []int64
	for _, turn := range turnsOf(word) {
		if !strings.HasPrefix(turn, "R") || !strings.HasSuffix(turn, "L") {
			continue
		}
		if runs := runLengths(turn); least == nil || slices.Compare(runs, least) < 0 {
			least = runs
		}
	}
	return least
}

// exactDiscriminant fits for numbers of up to some thousand millions.
func exactDiscriminant(x impl.Form) int64 { return x.B*x.B - 4*x.A*x.C }

func isSquare(d int64) bool {
	root := int64(math.Round(math.Sqrt(float64(d))))
	return root*root == d
}

// canBeDiscriminant reports whether forms may have d, which is 0 or 1 by 4, as their discriminant.
func canBeDiscriminant(d int64) bool { return 0 < d && d <= 4000 && !isSquare(d) }

// gridForms are all forms with numbers in -n..n.
func gridForms(n int64) []impl.Form {
	var list []impl.Form
	for _, p := range gridPoints(n) {
		for c := -n; c <= n; c++ {
			if x := (impl.Form{A: p[0], B: p[1], C: c}); canBeDiscriminant(exactDiscriminant(x)) {
				list = append(list, x)
			}
		}
	}
	return list
}

// formsWithC have c as C, and B in -MaxCoord..MaxCoord, and as many others are left out each time as
// step tells.
func formsWithC(c int64, step int) []impl.Form {
	var list []impl.Form
	for b := int64(-top); b <= top; b++ {
		if d := b * b % (4 * c); canBeDiscriminant(d) && (b*b-d)/(4*c) <= top {
			list = append(list, impl.Form{A: (b*b - d) / (4 * c), B: b, C: c})
		}
	}
	return everyFew(list, step)
}

// formsWithB have b as B, and A from that number on with which C is no greater than MaxCoord.
func formsWithB(b int64, step int) []impl.Form {
	var list []impl.Form
	for a := b * b / (4 * top); a <= top; a++ {
		if d := b * b % (4 * a); canBeDiscriminant(d) && (b*b-d)/(4*a) <= top {
			list = append(list, impl.Form{A: a, B: b, C: (b*b - d) / (4 * a)})
		}
	}
	return everyFew(list, step)
}

func everyFew[T any](list []T, step int) []T {
	var few []T
	for i := 0; i < len(list); i += step {
		few = append(few, list[i])
	}
	return few
}

// greatForms have exactly MaxCoord as a number, in all places and with both signs.
func greatForms() []impl.Form {
	var list []impl.Form
	for _, x := range slices.Concat(formsWithC(top, 60), formsWithB(top, 60)) {
		list = append(list, x, impl.Form{A: x.C, B: x.B, C: x.A}, impl.Form{A: -x.A, B: x.B, C: -x.C}, impl.Form{A: x.A, B: -x.B, C: x.C}, impl.Form{A: -x.C, B: -x.B, C: -x.A})
	}
	return list
}

// badForms are no forms: by a number, or by the discriminant.
func badForms() []impl.Form {
	list := []impl.Form{
		{}, {A: 1}, {B: 1}, {C: 1}, {A: 1, C: 1}, {A: 1, B: 1, C: 1}, {A: 1, B: 2, C: 1}, {A: -1, B: 2, C: -1}, {A: 1, B: 3, C: 2},
		{A: 1, B: 0, C: -1}, {A: 1, B: 1, C: -2}, {A: 0, B: 5, C: 7}, {A: 7, B: 5, C: 0}, {A: 0, B: 63, C: 0}, {A: 1, B: 61, C: -62},
		// Discriminants greater than MaxDisc, that less one among them by a square and by none.
		{A: 1, B: 1, C: -1000}, {A: 1, B: 0, C: -1001}, {A: 1, B: 2, C: -1000}, {A: 1, B: 63, C: -8}, {A: 1, B: 64, C: -1}, {A: 1, B: 3, C: -998},
		{A: top, B: top, C: -top}, {A: top, B: top, C: top}, {A: -top, B: -top, C: top}, {A: top, B: 0, C: -1}, {A: 0, B: top, C: 0}, {B: top - 1, C: top},
		// Numbers that are too great, with discriminants that would do.
		{A: 1, B: 2002, C: 1001*1001 - 2}, {A: 1001*1001 - 2, B: 2002, C: 1}, {A: 1, B: -2002, C: 1001*1001 - 2}, {A: -1, B: 2002, C: 2 - 1001*1001},
		// Numbers with which a discriminant of 5 or 8 would come out, were it held in an int64.
		{A: 1<<62 + 1, B: 1, C: -1}, {A: 1, B: 1, C: -1<<62 - 1}, {A: 1, B: math.MinInt64 + 1, C: -1}, {A: 1, B: 1 << 62, C: -2}, {A: 1<<31 + 1, B: 1, C: 1<<31 - 1},
	}
	for _, n := range tooGreat {
		list = append(list, impl.Form{A: n, B: 1, C: -1}, impl.Form{A: 1, B: n, C: -1}, impl.Form{A: 1, B: 1, C: n}, impl.Form{A: n, B: n, C: n})
	}
	for _, x := range slices.Concat(formsWithC(top+1, 90), formsWithB(top+1, 90)) {
		list = append(list, x, impl.Form{A: x.C, B: x.B, C: x.A}, impl.Form{A: -x.A, B: -x.B, C: -x.C})
	}
	return list
}

// rootByFloat is the greatest whole number with a square less than d, no square.
func rootByFloat(d int64) int64 { return int64(math.Sqrt(float64(d))) }

// isReducedByHand asks that the root of D less 2 |A|, taken without its sign, is less than B, and B
// less than that root.
func isReducedByHand(x impl.Form) bool {
	d, a := exactDiscriminant(x), 2*max(x.A, -x.A)
	sum, difference := x.B+a, a-x.B
	return x.B > 0 && x.B*x.B < d && d < sum*sum && (difference < 0 || difference*difference < d)
}

// nextByHand tries all numbers b.
func nextByHand(x impl.Form) (impl.Form, int) {
	d, size := exactDiscriminant(x), max(x.C, -x.C)
	w := rootByFloat(d)
	from, to := w-2*size+1, w
	if size > w {
		from, to = 1-size, size
	}
	var next impl.Form
	found := 0
	for b := from; b <= to; b++ {
		if (b+x.B)%(2*size) == 0 {
			next = impl.Form{A: x.C, B: b, C: (b*b - d) / (4 * x.C)}
			found++
		}
	}
	return next, found
}

// cycleByHand goes on from a form to the first reduced one, and around from there.
func cycleByHand(x impl.Form) []impl.Form {
	for !isReducedByHand(x) {
		x, _ = nextByHand(x)
	}
	cycle := []impl.Form{x}
	for {
		next, _ := nextByHand(cycle[len(cycle)-1])
		if next == x {
			return cycle
		}
		cycle = append(cycle, next)
	}
}

// reducedByHand looks at all numbers A and B that are not too great by far.
func reducedByHand(d int64) []impl.Form {
	var list []impl.Form
	for a := int64(-70); a <= 70; a++ {
		for b := int64(1); b <= 64; b++ {
			if a == 0 || (b*b-d)%(4*a) != 0 {
				continue
			}
			if x := (impl.Form{A: a, B: b, C: (b*b - d) / (4 * a)}); isReducedByHand(x) {
				list = append(list, x)
			}
		}
	}
	return list
}

// movedForm is x with k times the second number of a point added to the first one, and with the
// numbers changed, and one of them times -1.
func movedForm(x impl.Form, k int64) impl.Form {
	moved := impl.Form{A: x.A, B: x.B + 2*k*x.A, C: x.A*k*k + x.B*k + x.C}
	return impl.Form{A: moved.C, B: -moved.B, C: moved.A}
}
