package tests

import (
	"slices"
	"strings"
	"testing"

	"loop.example/g01297/impl"
)

func TestPeriodOf(t *testing.T) {
	cases := []struct {
		word string
		want []int64
		code int64
	}{
		{"RL", []int64{1, 1}, impl.ErrNone},
		{"LR", []int64{1, 1}, impl.ErrNone},
		// The last run and the first one have the same letter.
		{"LRRL", []int64{2, 2}, impl.ErrNone},
		{"RLLLRR", []int64{3, 3}, impl.ErrNone},
		{"RLR", []int64{2, 1}, impl.ErrNone},
		{"LRL", []int64{1, 2}, impl.ErrNone},
		{"RLRLLR", []int64{1, 2, 2, 1}, impl.ErrNone},
		// A shorter word again and again.
		{"RLRLRL", []int64{1, 1, 1, 1, 1, 1}, impl.ErrNone},
		{"RRLRRLRRL", []int64{2, 1, 2, 1, 2, 1}, impl.ErrNone},
		{"LRRLLRRL", []int64{2, 2, 2, 2}, impl.ErrNone},
		// The least list begins with a run of R, though one that begins with a run of L would be less.
		{"RRRL", []int64{3, 1}, impl.ErrNone},
		{"RRRLRRLLL", []int64{2, 3, 3, 1}, impl.ErrNone},
		{"RRLRRRLLRL", []int64{1, 1, 2, 1, 3, 2}, impl.ErrNone},
		{"RLLRLRLLRLL", []int64{1, 1, 1, 2, 1, 2, 1, 2}, impl.ErrNone},
		// Exactly MaxWord letters.
		{strings.Repeat("R", 199) + "L", []int64{199, 1}, impl.ErrNone},
		{strings.Repeat("L", 100) + "R" + strings.Repeat("L", 99), []int64{1, 199}, impl.ErrNone},
		{strings.Repeat("LR", 100), slices.Repeat([]int64{1}, 200), impl.ErrNone},
		// One letter alone, or none.
		{"", nil, impl.ErrState},
		{"L", nil, impl.ErrState},
		{"R", nil, impl.ErrState},
		{"LL", nil, impl.ErrState},
		{"RRR", nil, impl.ErrState},
		{strings.Repeat("L", 200), nil, impl.ErrState},
		{strings.Repeat("R", 200), nil, impl.ErrState},
		// No word, and one letter alone.
		{strings.Repeat("L", 201), nil, impl.ErrRange},
		{"LLx", nil, impl.ErrRange},
	}
	for _, c := range cases {
		got, code := impl.PeriodOf(c.word)
		checkList(t, "PeriodOf "+c.word, got, code, c.want, c.code)
	}
}

func hasBothLetters(word string) bool {
	return strings.Contains(word, "L") && strings.Contains(word, "R")
}

// checkPeriod holds the period of a word against that made by hand, and the word of it against the
// word: they are turns of each other, and have the same period.
func checkPeriod(t *testing.T, word string) {
	t.Helper()
	got, code := impl.PeriodOf(word)
	if !hasBothLetters(word) {
		checkList(t, "PeriodOf "+word, got, code, nil, impl.ErrState)
		return
	}
	checkList(t, "PeriodOf "+word, got, code, periodByHand(word), impl.ErrNone)
	made, code := impl.WordOfPeriod(got)
	if code != impl.ErrNone || !slices.Contains(turnsOf(word), made) {
		t.Errorf("WordOfPeriod(%v) = %s, %d; want a turn of %s", got, made, code, word)
	}
	are, code := impl.AreTurns(made, word)
	check(t, "AreTurns", are, code, true, impl.ErrNone)
	again, code := impl.PeriodOf(made)
	checkList(t, "PeriodOf "+made, again, code, got, impl.ErrNone)
}

func TestPeriodsOfManyWords(t *testing.T) {
	for _, word := range allWords(13) {
		checkPeriod(t, word)
	}
	for _, word := range longWords(300) {
		checkPeriod(t, word)
		for _, turn := range everyFew(turnsOf(word), 7) {
			checkPeriod(t, turn)
		}
	}
	for _, word := range allWords(6)[1:] {
		for n := 2; n*len(word) <= 200; n += 9 {
			checkPeriod(t, strings.Repeat(word, n))
		}
	}
}

func TestWordOfPeriod(t *testing.T) {
	cases := []struct {
		list []int64
		want string
		code int64
	}{
		{[]int64{1, 1}, "RL", impl.ErrNone},
		{[]int64{2, 3}, "RRLLL", impl.ErrNone},
		{[]int64{3, 1, 1, 2}, "RRRLRLL", impl.ErrNone},
		{[]int64{5, 1, 4, 1, 3, 2}, "RRRRRLRRRRLRRRLL", impl.ErrNone},
		// A sum of exactly MaxWord, and of one more.
		{[]int64{199, 1}, strings.Repeat("R", 199) + "L", impl.ErrNone},
		{[]int64{1, 199}, "R" + strings.Repeat("L", 199), impl.ErrNone},
		{[]int64{100, 100}, strings.Repeat("R", 100) + strings.Repeat("L", 100), impl.ErrNone},
		{slices.Repeat([]int64{1}, 200), strings.Repeat("RL", 100), impl.ErrNone},
		{slices.Repeat([]int64{50}, 4), strings.Repeat(strings.Repeat("R", 50)+strings.Repeat("L", 50), 2), impl.ErrNone},
		{[]int64{200, 1}, "", impl.ErrRange},
		{[]int64{1, 200}, "", impl.ErrRange},
		{[]int64{100, 101}, "", impl.ErrRange},
		{[]int64{50, 50, 50, 51}, "", impl.ErrRange},
		{[]int64{51, 50, 50, 50}, "", impl.ErrRange},
		{slices.Repeat([]int64{1}, 202), "", impl.ErrRange},
		{append(slices.Repeat([]int64{1}, 199), 2), "", impl.ErrRange},
		{slices.Repeat([]int64{1}, 10000), "", impl.ErrRange},
		// No numbers, and odd numbers of them.
		{nil, "", impl.ErrRange},
		{[]int64{}, "", impl.ErrRange},
		{[]int64{1}, "", impl.ErrRange},
		{[]int64{200}, "", impl.ErrRange},
		{[]int64{1, 2, 3}, "", impl.ErrRange},
		{slices.Repeat([]int64{1}, 199), "", impl.ErrRange},
		// Numbers less than 1, at the first place, the last one, and between.
		{[]int64{0, 1}, "", impl.ErrRange},
		{[]int64{1, 0}, "", impl.ErrRange},
		{[]int64{0, 0}, "", impl.ErrRange},
		{[]int64{-1, 3}, "", impl.ErrRange},
		{[]int64{3, -1}, "", impl.ErrRange},
		{[]int64{1, 1, 0, 1}, "", impl.ErrRange},
		{[]int64{1, -5, 6, 1}, "", impl.ErrRange},
		{[]int64{201, -1}, "", impl.ErrRange},
	}
	for _, c := range cases {
		got, code := impl.WordOfPeriod(c.list)
		check(t, "WordOfPeriod", got, code, c.want, c.code)
	}
}

// TestNoPeriodOfGreatNumbers has sums that would come out small, were they held in an int64.
func TestNoPeriodOfGreatNumbers(t *testing.T) {
	for _, n := range tooGreat {
		for _, list := range [][]int64{{n, 1}, {1, n}, {n, n}, {n, -n}, {1, 1, n, 1}, {n, n, n, n}, {n, n, 1, 3}, {n, 2, n, 2}, {1, n, 2, n}} {
			got, code := impl.WordOfPeriod(list)
			check(t, "WordOfPeriod", got, code, "", impl.ErrRange)
		}
	}
}

func TestPeriodsLeaveListsAsTheyAre(t *testing.T) {
	room := []int64{2, 1, 3, 1, 7, 7}
	got, code := impl.WordOfPeriod(room[:4])
	check(t, "WordOfPeriod", got, code, "RRLRRRL", impl.ErrNone)
	checkList(t, "the list", room, code, []int64{2, 1, 3, 1, 7, 7}, impl.ErrNone)
}

func TestAreTurns(t *testing.T) {
	all := strings.Repeat("L", 200)
	cases := []struct {
		v, w string
		want bool
	}{
		{"", "", true},
		{"L", "L", true},
		{"RRL", "RRL", true},
		{"RRL", "RLR", true},
		{"RRL", "LRR", true},
		{"LRRL", "RRLL", true},
		{all, all, true},
		{strings.Repeat("LR", 100), strings.Repeat("RL", 100), true},
		{all[1:] + "R", all[:100] + "R" + all[101:], true},
		// Different lengths.
		{"", "L", false},
		{"L", "", false},
		{"RL", "RLRL", false},
		{"RLRL", "RL", false},
		{"L", "LL", false},
		{"LL", "L", false},
		{"RRL", "RR", false},
		{all, all[1:], false},
		// The same letters, or others.
		{"RRLL", "RLRL", false},
		{"RLLRL" + "RLRLL", "RLLRL" + "LRRLL", false},
		{"RRLRLL", "RRLLRL", false},
		{"RRL", "LLR", false},
		{"L", "R", false},
		{"RRRL", "RRLL", false},
	}
	for _, c := range cases {
		got, code := impl.AreTurns(c.v, c.w)
		check(t, "AreTurns "+c.v+" "+c.w, got, code, c.want, impl.ErrNone)
	}
}

// TestTurnsHaveTheSamePeriod looks at all pairs of short words.
func TestTurnsHaveTheSamePeriod(t *testing.T) {
	words := allWords(7)
	for _, v := range words {
		turns, period := turnsOf(v), periodByHand(v)
		for _, w := range words {
			want := slices.Contains(turns, w)
			got, code := impl.AreTurns(v, w)
			check(t, "AreTurns "+v+" "+w, got, code, want, impl.ErrNone)
			if hasBothLetters(v) && hasBothLetters(w) && want != slices.Equal(period, periodByHand(w)) {
				t.Errorf("the periods of %s and %s are %v and %v", v, w, period, periodByHand(w))
			}
		}
	}
}

// TestTurnsHaveConjugateMatrices leads the matrix of a word to that of each turn by what is put behind.
func TestTurnsHaveConjugateMatrices(t *testing.T) {
	for _, word := range allWords(9) {
		m, _ := impl.MatrixOfWord(word)
		for i := range word {
			u, _ := impl.MatrixOfWord(word[:i])
			want, _ := impl.MatrixOfWord(word[i:] + word[:i])
			got, code := impl.ConjugateMatrix(m, u)
			check(t, "ConjugateMatrix", got, code, want, impl.ErrNone)
		}
	}
}
