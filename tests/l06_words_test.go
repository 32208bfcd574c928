package tests

import (
	"strings"
	"testing"

	"loop.example/g01297/impl"
)

func TestMatrixOfWord(t *testing.T) {
	none := impl.Matrix{}
	cases := []struct {
		word string
		want impl.Matrix
		code int64
	}{
		{"", unit, impl.ErrNone},
		{"L", impl.Matrix{{1, 0}, {1, 1}}, impl.ErrNone},
		{"R", impl.Matrix{{1, 1}, {0, 1}}, impl.ErrNone},
		{"RL", impl.Matrix{{2, 1}, {1, 1}}, impl.ErrNone},
		{"LR", impl.Matrix{{1, 1}, {1, 2}}, impl.ErrNone},
		{"RRLRL", impl.Matrix{{8, 5}, {3, 2}}, impl.ErrNone},
		// Exactly MaxWord letters, and one more.
		{strings.Repeat("R", 200), impl.Matrix{{1, 200}, {0, 1}}, impl.ErrNone},
		{strings.Repeat("L", 200), impl.Matrix{{1, 0}, {200, 1}}, impl.ErrNone},
		{strings.Repeat("R", 100) + strings.Repeat("L", 100), impl.Matrix{{10001, 100}, {100, 1}}, impl.ErrNone},
		{strings.Repeat("L", 199) + "R", impl.Matrix{{1, 1}, {199, 200}}, impl.ErrNone},
		{strings.Repeat("R", 201), none, impl.ErrRange},
		{strings.Repeat("L", 201), none, impl.ErrRange},
		{strings.Repeat("RL", 101), none, impl.ErrRange},
		// The greatest numbers that letters by turns lead to, and greater ones.
		{strings.Repeat("RL", 14), impl.Matrix{{514229, 317811}, {317811, 196418}}, impl.ErrNone},
		{strings.Repeat("RL", 14) + "R", impl.Matrix{{514229, 832040}, {317811, 514229}}, impl.ErrNone},
		{strings.Repeat("LR", 14) + "L", impl.Matrix{{514229, 317811}, {832040, 514229}}, impl.ErrNone},
		{strings.Repeat("RL", 15), none, impl.ErrLimit},
		{strings.Repeat("LR", 15), none, impl.ErrLimit},
		{strings.Repeat("RL", 100), none, impl.ErrLimit},
		{strings.Repeat("RRL", 66), none, impl.ErrLimit},
		{strings.Repeat("LR", 33) + strings.Repeat("L", 130), none, impl.ErrLimit},
	}
	for _, c := range cases {
		got, code := impl.MatrixOfWord(c.word)
		check(t, "MatrixOfWord "+c.word, got, code, c.want, c.code)
	}
}

func TestTextsThatAreNoWords(t *testing.T) {
	for _, text := range badWords() {
		m, code := impl.MatrixOfWord(text)
		check(t, "MatrixOfWord "+text, m, code, impl.Matrix{}, impl.ErrRange)
		list, code := impl.PeriodOf(text)
		checkList(t, "PeriodOf "+text, list, code, nil, impl.ErrRange)
		for _, other := range []string{"", "RL", strings.Repeat("L", 200), text} {
			are, code := impl.AreTurns(text, other)
			check(t, "AreTurns "+text, are, code, false, impl.ErrRange)
			are, code = impl.AreTurns(other, text)
			check(t, "AreTurns "+other, are, code, false, impl.ErrRange)
		}
	}
}

// checkWord holds the matrix of a word against that made by hand, and the word of it against the word.
func checkWord(t *testing.T, word string) {
	t.Helper()
	want := matrixByHand(word)
	got, code := impl.MatrixOfWord(word)
	if greatestNumber(want) > top {
		check(t, "MatrixOfWord "+word, got, code, impl.Matrix{}, impl.ErrLimit)
		return
	}
	check(t, "MatrixOfWord "+word, got, code, want, impl.ErrNone)
	back, code := impl.WordOfMatrix(got)
	check(t, "WordOfMatrix", back, code, word, impl.ErrNone)
}

func TestWordsComeBackFromTheirMatrices(t *testing.T) {
	for _, word := range allWords(12) {
		checkWord(t, word)
	}
	fitting := 0
	for _, word := range longWords(5000) {
		checkWord(t, word)
		if greatestNumber(matrixByHand(word)) <= top {
			fitting++
		}
	}
	if fitting < 500 || fitting > 4500 {
		t.Errorf("%d of the long words have a matrix", fitting)
	}
	for a := range 201 {
		checkWord(t, strings.Repeat("L", a)+strings.Repeat("R", 200-a))
		checkWord(t, strings.Repeat("R", a)+strings.Repeat("L", 200-a))
		checkWord(t, strings.Repeat("R", a))
		checkWord(t, strings.Repeat("L", a))
	}
}

// TestWordsOfTheGreatestMatrices looks for words to exactly MaxCoord, and to one more, at all places.
func TestWordsOfTheGreatestMatrices(t *testing.T) {
	fitting, tooLong := 0, 0
	for q := int64(1); q < top; q += 331 {
		if exactDivisor(top, q) != 1 {
			continue
		}
		for _, m := range greatMatrices(top, q) {
			word, code := impl.WordOfMatrix(m)
			if lettersOfMatrix(m) > 200 {
				check(t, "WordOfMatrix", word, code, "", impl.ErrLimit)
				tooLong++
				continue
			}
			check(t, "the matrix of its word", matrixByHand(word), code, m, impl.ErrNone)
			checkWord(t, word)
			fitting++
		}
	}
	if fitting < 1000 || tooLong < 20 {
		t.Errorf("%d words, and %d too long", fitting, tooLong)
	}
	greater := 0
	for q := int64(1); q < 300; q++ {
		for _, k := range []int64{6, 7, 8, 9, 10} {
			// A column that is k times another one, and one more: the last run is a long one.
			p := int64(top + 1)
			if q*3331+k < p && exactDivisor(p, q*3331+k) == 1 {
				greater += checkGreaterThanCoord(t, p, q*3331+k)
			}
		}
	}
	if greater < 1000 {
		t.Errorf("%d words to numbers that are too great", greater)
	}
}

// checkGreaterThanCoord finds the words with p, greater than MaxCoord, by those of the matrices ahead
// of their last letters, whose numbers are no greater.
func checkGreaterThanCoord(t *testing.T, p int64, q int64) int {
	t.Helper()
	found := 0
	for _, m := range greatMatrices(p, q) {
		last := "L"
		if m[0][0]+m[1][0] < m[0][1]+m[1][1] {
			last = "R"
		}
		from, to := strings.Index("RL", last), strings.Index("LR", last)
		for i := range m {
			m[i][to] -= m[i][from]
		}
		word, code := impl.WordOfMatrix(m)
		if code != impl.ErrNone || len(word) == impl.MaxWord {
			continue
		}
		found++
		if greatestNumber(matrixByHand(word+last)) != p {
			t.Errorf("the greatest number of %s is not %d", word+last, p)
		}
		checkWord(t, word+last)
	}
	return found
}

func TestWordOfMatrix(t *testing.T) {
	cases := []struct {
		m    impl.Matrix
		want string
		code int64
	}{
		{impl.Matrix{{2, 1}, {1, 1}}, "RL", impl.ErrNone},
		{unit, "", impl.ErrNone},
		{impl.Matrix{{8, 5}, {3, 2}}, "RRLRL", impl.ErrNone},
		// Exactly MaxWord letters, and more.
		{impl.Matrix{{1, 200}, {0, 1}}, strings.Repeat("R", 200), impl.ErrNone},
		{impl.Matrix{{1, 0}, {200, 1}}, strings.Repeat("L", 200), impl.ErrNone},
		{impl.Matrix{{1, 201}, {0, 1}}, "", impl.ErrLimit},
		{impl.Matrix{{1, 0}, {201, 1}}, "", impl.ErrLimit},
		{impl.Matrix{{10001, 100}, {100, 1}}, strings.Repeat("R", 100) + strings.Repeat("L", 100), impl.ErrNone},
		{impl.Matrix{{10101, 100}, {101, 1}}, "", impl.ErrLimit},
		{impl.Matrix{{1, 1}, {199, 200}}, strings.Repeat("L", 199) + "R", impl.ErrNone},
		{impl.Matrix{{1, 1}, {200, 201}}, "", impl.ErrLimit},
		{impl.Matrix{{1, top}, {0, 1}}, "", impl.ErrLimit},
		{impl.Matrix{{1, 0}, {top, 1}}, "", impl.ErrLimit},
		{impl.Matrix{{top, top - 1}, {1, 1}}, "", impl.ErrLimit},
		{impl.Matrix{{1, 1}, {top - 1, top}}, "", impl.ErrLimit},
		// A determinant other than 1, also where a number is less than 0.
		{impl.Matrix{{0, 1}, {1, 0}}, "", impl.ErrState},
		{impl.Matrix{{1, 1}, {1, 0}}, "", impl.ErrState},
		{impl.Matrix{}, "", impl.ErrState},
		{impl.Matrix{{1, 1}, {1, 1}}, "", impl.ErrState},
		{impl.Matrix{{2, 0}, {0, 1}}, "", impl.ErrState},
		{impl.Matrix{{top, top}, {top, top}}, "", impl.ErrState},
		{impl.Matrix{{top, 1}, {1, top}}, "", impl.ErrState},
		{impl.Matrix{{1, -1}, {1, 1}}, "", impl.ErrState},
		// The determinant 1, and numbers less than 0, one of them or more.
		{impl.Matrix{{-1, 0}, {0, -1}}, "", impl.ErrState},
		{impl.Matrix{{1, -1}, {0, 1}}, "", impl.ErrState},
		{impl.Matrix{{1, 0}, {-1, 1}}, "", impl.ErrState},
		{impl.Matrix{{0, 1}, {-1, 0}}, "", impl.ErrState},
		{impl.Matrix{{0, 1}, {-1, 5}}, "", impl.ErrState},
		{impl.Matrix{{5, -1}, {1, 0}}, "", impl.ErrState},
		{impl.Matrix{{-1, 2}, {-1, 1}}, "", impl.ErrState},
		{impl.Matrix{{1, 2}, {-1, -1}}, "", impl.ErrState},
		{impl.Matrix{{1, -top}, {0, 1}}, "", impl.ErrState},
		{impl.Matrix{{1, 0}, {-top, 1}}, "", impl.ErrState},
	}
	for _, c := range cases {
		got, code := impl.WordOfMatrix(c.m)
		check(t, "WordOfMatrix", got, code, c.want, c.code)
	}
}

func TestWordsOfAllSmallMatrices(t *testing.T) {
	for _, m := range gridMatrices(4) {
		got, code := impl.WordOfMatrix(m)
		if exactDeterminant(m[0], m[1]) != 1 || min(m[0][0], m[0][1], m[1][0], m[1][1]) < 0 {
			check(t, "WordOfMatrix", got, code, "", impl.ErrState)
			continue
		}
		check(t, "the matrix of its word", matrixByHand(got), code, m, impl.ErrNone)
	}
}

// TestProductsOfWords holds the matrix of two words, one behind the other, against the product.
func TestProductsOfWords(t *testing.T) {
	words := allWords(5)
	for _, v := range words {
		for _, w := range words {
			m, _ := impl.MatrixOfWord(v)
			n, _ := impl.MatrixOfWord(w)
			want, wantCode := impl.MultiplyMatrices(m, n)
			got, code := impl.MatrixOfWord(v + w)
			check(t, "MatrixOfWord", got, code, want, wantCode)
		}
	}
}
