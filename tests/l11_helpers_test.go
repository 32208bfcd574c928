package tests

import (
	"slices"
	"strconv"
	"strings"
	"testing"

	"loop.example/g01297/impl"
)

// freshDesk is the new desk, as the chapter tells it.
var freshDesk = impl.Desk{
	First: impl.Point{1, 0}, Second: impl.Point{2, 5}, Matrix: impl.Matrix{{2, 1}, {1, 1}}, Form: impl.Form{A: 1, B: 1, C: -1},
}

// allCommands has what each command asks for: words (?) and numbers (#).
var allCommands = map[string]string{
	"first": "?", "second": "?", "swap": "", "plus": "#", "primitive": "", "mate": "", "apply": "", "reduce": "",
	"matrix": "####", "word": "?", "square": "", "inverse": "", "form": "###", "take": "", "next": "",
	"show": "", "other": "", "rows": "", "look": "", "determinant": "", "length": "", "sine": "", "cosine": "", "corner": "", "right": "",
	"sail": "", "sequence": "", "norm": "", "type": "", "letters": "", "period": "?", "cycle": "", "class": "#",
	"expand": "##", "best": "###", "nearest": "###", "order": "###", "shapes": "#", "reset": "",
}

// linesThatDo are lines, one for each command, that the new desk executes.
var linesThatDo = []string{
	"first 3,-4", "second -7,0", "swap", "plus 3", "primitive", "mate", "apply", "reduce",
	"matrix 1 -2 0 7", "word RRL", "square", "inverse", "form 1 0 -2", "take", "next",
	"show", "other", "rows", "look", "determinant", "length", "sine", "cosine", "corner", "right",
	"sail", "sequence", "norm", "type", "letters", "period LRRL", "cycle", "class 12",
	"expand 7 5", "best 7 5 5", "nearest 7 5 4", "order 2 5 3", "shapes 2", "reset",
}

func commandOf(line string) string {
	command, _, _ := strings.Cut(line, " ")
	return command
}

func withPoints(a impl.Point, b impl.Point) impl.Desk {
	d := freshDesk
	d.First, d.Second = a, b
	return d
}

func withMatrix(m impl.Matrix) impl.Desk {
	d := freshDesk
	d.Matrix = m
	return d
}

func withForm(x impl.Form) impl.Desk {
	d := freshDesk
	d.Form = x
	return d
}

func checkLine(t *testing.T, d impl.Desk, line string, want impl.Desk, wantOutput string) {
	t.Helper()
	if got, output := impl.RunLine(d, line); got != want || output != wantOutput {
		t.Errorf("RunLine(%v, %s) = %v, %s; want %v, %s", d, shortened(line), got, shortened(output), want, shortened(wantOutput))
	}
}

// checkAnswer is for lines that change nothing.
func checkAnswer(t *testing.T, d impl.Desk, line string, want string) {
	t.Helper()
	checkLine(t, d, line, d, want)
}

func checkWrong(t *testing.T, d impl.Desk, line string) {
	t.Helper()
	checkAnswer(t, d, line, "error")
}

func shortened(text string) string {
	if len(text) > 200 {
		return strconv.Quote(text[:200]) + " .. of " + strconv.Itoa(len(text)) + " bytes"
	}
	return strconv.Quote(text)
}

// badDesks are no desks, by one part each, and by all of them.
func badDesks() []impl.Desk {
	var list []impl.Desk
	for _, a := range badPoints() {
		list = append(list, withPoints(a, freshDesk.Second), withPoints(freshDesk.First, a))
	}
	for _, m := range badMatrices() {
		list = append(list, withMatrix(m))
	}
	for _, x := range badForms() {
		list = append(list, withForm(x))
	}
	return append(list, impl.Desk{}, impl.Desk{First: badPoints()[0], Second: badPoints()[1], Matrix: badMatrices()[0], Form: badForms()[1]})
}

// manyDesks have points that are corners, angles and none, matrices of all kinds, and forms, with small
// numbers and with great ones.
func manyDesks(n int, seed uint64) []impl.Desk {
	next := numbersFrom(seed)
	points := slices.Concat(gridPoints(2), somePoints(next, 20, 9), somePoints(next, 20, top), []impl.Point{
		{top, top}, {top, -top}, {-top, 1}, {1 - top, top}, {-100000, 500000}, {1, 2000}, {1, 1999}, {0, 1}, {1, 0}, {1, 0},
	})
	matrices := slices.Concat(unimodularMatrices(2), gridMatrices(1), []impl.Matrix{
		unit, {{1, 200}, {0, 1}}, {{1, 0}, {201, 1}}, {{top, 1}, {-1, 0}}, {{top, top}, {top, -top}}, {{63, 1}, {62, 1}}, {{64, 1}, {63, 1}}, {{-3, 1}, {-1, 0}},
	})
	forms := slices.Concat(gridForms(4), greatForms())
	var list []impl.Desk
	for range n {
		list = append(list, impl.Desk{First: anyOf(next, points), Second: anyOf(next, points), Matrix: anyOf(next, matrices), Form: anyOf(next, forms)})
	}
	return list
}

func anyOf[T any](next func(int64) int64, list []T) T { return list[next(int64(len(list)))] }

// manyLines are lines that are right, or nearly so.
func manyLines(n int, seed uint64) []string {
	texts := []string{
		"1,2", "-3,0", "1000000,-1000000", "1000001,0", "1,2,3", "RL", "LLRRL", "R", "LRx", "7", "", "none",
		strings.Repeat("RL", 14), strings.Repeat("RL", 15), strings.Repeat("R", 200), strings.Repeat("R", 201),
	}
	numbers := []string{
		"12", "-3", "200", "201", "500", "501", "100000", "1000000", "1000001", "-1000000", "999999999", "1000000000", "01", "-0", "+1", "x", "",
	}
	next := numbersFrom(seed)
	number := func() string {
		if next(3) > 0 {
			return strconv.FormatInt(next(15)-4, 10)
		}
		return anyOf(next, numbers)
	}
	var lines []string
	for range n {
		line := commandOf(anyOf(next, linesThatDo))
		for _, asked := range allCommands[line] {
			if asked == '?' {
				line += " " + anyOf(next, texts)
			} else {
				line += " " + number()
			}
		}
		if next(20) == 0 {
			line += " " + number()
		}
		lines = append(lines, line)
	}
	return lines
}
