package tests

import (
	"fmt"
	"strings"
	"testing"

	"loop.example/g01297/impl"
)

func TestEachCommandHasALine(t *testing.T) {
	if len(linesThatDo) != len(allCommands) {
		t.Errorf("%d lines for %d commands", len(linesThatDo), len(allCommands))
	}
	for _, line := range linesThatDo {
		if asked, ok := allCommands[commandOf(line)]; !ok || strings.Count(line, " ") != len(asked) {
			t.Errorf("%q is no line of %q", line, asked)
		}
	}
}

func TestLinesThatChangePoints(t *testing.T) {
	cases := []struct {
		a, b       impl.Point
		line       string
		newA, newB impl.Point
		output     string
	}{
		{impl.Point{1, 0}, impl.Point{2, 5}, "first 3,-4", impl.Point{3, -4}, impl.Point{2, 5}, "3,-4"},
		{impl.Point{1, 0}, impl.Point{2, 5}, "first 0,0", impl.Point{0, 0}, impl.Point{2, 5}, "0,0"},
		{impl.Point{1, 0}, impl.Point{2, 5}, "first -1000000,1000000", impl.Point{-top, top}, impl.Point{2, 5}, "-1000000,1000000"},
		{impl.Point{1, 0}, impl.Point{2, 5}, "second -7,0", impl.Point{1, 0}, impl.Point{-7, 0}, "-7,0"},
		{impl.Point{1, 0}, impl.Point{2, 5}, "second 1000000,-1000000", impl.Point{1, 0}, impl.Point{top, -top}, "1000000,-1000000"},
		{impl.Point{1, 0}, impl.Point{2, 5}, "swap", impl.Point{2, 5}, impl.Point{1, 0}, "2,5"},
		{impl.Point{-3, 4}, impl.Point{-3, 4}, "swap", impl.Point{-3, 4}, impl.Point{-3, 4}, "-3,4"},
		{impl.Point{1, 0}, impl.Point{2, 5}, "plus 3", impl.Point{7, 15}, impl.Point{2, 5}, "7,15"},
		{impl.Point{1, 0}, impl.Point{2, 5}, "plus -1", impl.Point{-1, -5}, impl.Point{2, 5}, "-1,-5"},
		{impl.Point{1, 0}, impl.Point{2, 5}, "plus 0", impl.Point{1, 0}, impl.Point{2, 5}, "1,0"},
		{impl.Point{0, 0}, impl.Point{1, -1}, "plus 1000000", impl.Point{top, -top}, impl.Point{1, -1}, "1000000,-1000000"},
		{impl.Point{0, 0}, impl.Point{1, -1}, "plus -1000000", impl.Point{-top, top}, impl.Point{1, -1}, "-1000000,1000000"},
		{impl.Point{6, -4}, impl.Point{2, 5}, "primitive", impl.Point{3, -2}, impl.Point{2, 5}, "3,-2"},
		{impl.Point{0, -7}, impl.Point{0, 0}, "primitive", impl.Point{0, -1}, impl.Point{0, 0}, "0,-1"},
		{impl.Point{3, 2}, impl.Point{6, 4}, "mate", impl.Point{1, 1}, impl.Point{6, 4}, "1,1"},
		{impl.Point{1, 0}, impl.Point{2, 5}, "mate", impl.Point{0, 1}, impl.Point{2, 5}, "0,1"},
		{impl.Point{0, 1}, impl.Point{2, 5}, "mate", impl.Point{-1, 0}, impl.Point{2, 5}, "-1,0"},
		{impl.Point{1, 0}, impl.Point{2, 5}, "apply", impl.Point{2, 1}, impl.Point{2, 5}, "2,1"},
		{impl.Point{-3, 7}, impl.Point{2, 5}, "apply", impl.Point{1, 4}, impl.Point{2, 5}, "1,4"},
		{impl.Point{1, 0}, impl.Point{2, 5}, "reduce", impl.Point{1, 0}, impl.Point{0, 5}, "1,0;0,5"},
		{impl.Point{5, 0}, impl.Point{2, 1}, "reduce", impl.Point{2, 1}, impl.Point{1, -2}, "2,1;1,-2"},
		{impl.Point{top, top}, impl.Point{top, top - 1}, "reduce", impl.Point{0, 1}, impl.Point{top, 0}, "0,1;1000000,0"},
	}
	for _, c := range cases {
		checkLine(t, withPoints(c.a, c.b), c.line, withPoints(c.newA, c.newB), c.output)
	}
}

func TestLinesThatChangeMatrices(t *testing.T) {
	cases := []struct {
		m      impl.Matrix
		line   string
		want   impl.Matrix
		output string
	}{
		{unit, "matrix 1 -2 0 7", impl.Matrix{{1, -2}, {0, 7}}, "1 -2 0 7"},
		{unit, "matrix 0 0 0 0", impl.Matrix{}, "0 0 0 0"},
		{unit, "matrix 1000000 -1000000 -1000000 1000000", impl.Matrix{{top, -top}, {-top, top}}, "1000000 -1000000 -1000000 1000000"},
		{unit, "word RRL", impl.Matrix{{3, 2}, {1, 1}}, "3 2 1 1"},
		{unit, "word R", impl.Matrix{{1, 1}, {0, 1}}, "1 1 0 1"},
		{unit, "word " + strings.Repeat("L", 200), impl.Matrix{{1, 0}, {200, 1}}, "1 0 200 1"},
		{impl.Matrix{{2, 1}, {1, 1}}, "square", impl.Matrix{{5, 3}, {3, 2}}, "5 3 3 2"},
		{impl.Matrix{{0, -1}, {1, 0}}, "square", impl.Matrix{{-1, 0}, {0, -1}}, "-1 0 0 -1"},
		{impl.Matrix{{1000, 0}, {0, -1000}}, "square", impl.Matrix{{top, 0}, {0, top}}, "1000000 0 0 1000000"},
		{impl.Matrix{{2, 1}, {1, 1}}, "inverse", impl.Matrix{{1, -1}, {-1, 2}}, "1 -1 -1 2"},
		{impl.Matrix{{3, 2}, {2, 1}}, "inverse", impl.Matrix{{-1, 2}, {2, -3}}, "-1 2 2 -3"},
	}
	for _, c := range cases {
		checkLine(t, withMatrix(c.m), c.line, withMatrix(c.want), c.output)
	}
}

// A blank at the end has the empty word behind it, and this is a word of chapter 6.
func TestTheEmptyWord(t *testing.T) {
	checkLine(t, freshDesk, "word ", withMatrix(unit), "1 0 0 1")
	checkAnswer(t, withMatrix(unit), "letters", "none")
	for _, line := range []string{"period ", "first ", "second ", "plus ", "class ", "shapes ", "form 1 1 ", "order 2 5 ", "expand  5"} {
		checkWrong(t, freshDesk, line)
	}
}

func TestLinesThatChangeForms(t *testing.T) {
	cases := []struct {
		x      impl.Form
		line   string
		want   impl.Form
		output string
	}{
		{freshDesk.Form, "form 1 0 -2", impl.Form{A: 1, B: 0, C: -2}, "1 0 -2"},
		{freshDesk.Form, "form -1 5 -3", impl.Form{A: -1, B: 5, C: -3}, "-1 5 -3"},
		{freshDesk.Form, "form 1 0 -999", impl.Form{A: 1, B: 0, C: -999}, "1 0 -999"},
		{impl.Form{A: 1, B: 0, C: -2}, "take", impl.Form{A: 1, B: -1, C: -1}, "1 -1 -1"},
		{impl.Form{A: 1, B: 1, C: -1}, "next", impl.Form{A: -1, B: 1, C: 1}, "-1 1 1"},
		{impl.Form{A: -1, B: 1, C: 1}, "next", impl.Form{A: 1, B: 1, C: -1}, "1 1 -1"},
		{impl.Form{A: 1, B: 0, C: -2}, "next", impl.Form{A: -2, B: 0, C: 1}, "-2 0 1"},
	}
	for _, c := range cases {
		checkLine(t, withForm(c.x), c.line, withForm(c.want), c.output)
	}
}

func TestLinesThatShow(t *testing.T) {
	d := impl.Desk{First: impl.Point{-3, 7}, Second: impl.Point{0, -12}, Matrix: impl.Matrix{{1, -2}, {30, 4}}, Form: impl.Form{A: -1, B: 5, C: -3}}
	checkAnswer(t, d, "show", "-3,7")
	checkAnswer(t, d, "other", "0,-12")
	checkAnswer(t, d, "rows", "1 -2 30 4")
	checkAnswer(t, d, "look", "-1 5 -3")
}

func TestQuestionsOfPoints(t *testing.T) {
	cases := []struct {
		a, b   impl.Point
		line   string
		output string
	}{
		{impl.Point{1, 0}, impl.Point{2, 5}, "determinant", "5"},
		{impl.Point{2, 5}, impl.Point{1, 0}, "determinant", "-5"},
		{impl.Point{2, 4}, impl.Point{1, 2}, "determinant", "0"},
		{impl.Point{top, top}, impl.Point{-top, top}, "determinant", "2000000000000"},
		{impl.Point{1, 0}, impl.Point{2, 5}, "length", "1"},
		{impl.Point{1, 1}, impl.Point{-5, 10}, "length", "3"},
		{impl.Point{1, 1}, impl.Point{1, 1}, "length", "0"},
		{impl.Point{1, 0}, impl.Point{2, 5}, "sine", "5"},
		{impl.Point{2, 5}, impl.Point{1, 0}, "sine", "5"},
		{impl.Point{1, 0}, impl.Point{1, top}, "sine", "1000000"},
		{impl.Point{1, 0}, impl.Point{2, 5}, "cosine", "2"},
		{impl.Point{2, 5}, impl.Point{1, 0}, "cosine", "3"},
		{impl.Point{1, 0}, impl.Point{2, 5}, "corner", "2 1 1"},
		{impl.Point{2, 5}, impl.Point{1, 0}, "corner", "1 1 2"},
		{impl.Point{1, 0}, impl.Point{0, 1}, "corner", "1"},
		{impl.Point{1, 0}, impl.Point{2, 5}, "right", "no"},
		{impl.Point{1, 0}, impl.Point{1, 2}, "right", "yes"},
		{impl.Point{0, -1}, impl.Point{1, 0}, "right", "yes"},
		{impl.Point{top, top - 1}, impl.Point{1 - top, top}, "right", "no"},
		{impl.Point{1, 0}, impl.Point{2, 5}, "sail", "1,0;1,1;1,2;2,5"},
		{impl.Point{1, 0}, impl.Point{0, 1}, "sail", "1,0;0,1"},
		{impl.Point{-1, 1}, impl.Point{-1, -1}, "sail", "-1,1;-1,0;-1,-1"},
		{impl.Point{1, 0}, impl.Point{2, 5}, "sequence", "2 1 1"},
		{impl.Point{1, 0}, impl.Point{0, 1}, "sequence", "1"},
		{impl.Point{1, 0}, impl.Point{2, 5}, "norm", "1"},
		{impl.Point{-3, 4}, impl.Point{2, 5}, "norm", "25"},
		{impl.Point{0, 0}, impl.Point{2, 5}, "norm", "0"},
		{impl.Point{top, -top}, impl.Point{2, 5}, "norm", "2000000000000"},
	}
	for _, c := range cases {
		checkAnswer(t, withPoints(c.a, c.b), c.line, c.output)
	}
}

// Sails may have more than the MaxPoints points that PointsText takes.
func TestLongSails(t *testing.T) {
	for _, n := range []int64{98, 99, 100, 101, 500, impl.MaxSail - 1} {
		want := "1,0"
		for i := range n {
			want += fmt.Sprintf(";1,%d", i+1)
		}
		checkAnswer(t, withPoints(impl.Point{1, 0}, impl.Point{1, n}), "sail", want)
		checkAnswer(t, withPoints(impl.Point{1, 0}, impl.Point{1, n}), "sequence", fmt.Sprint(n))
	}
}

func TestQuestionsOfMatricesAndForms(t *testing.T) {
	matrices := []struct {
		m             impl.Matrix
		kind, letters string
	}{
		{impl.Matrix{{2, 1}, {1, 1}}, "2", "RL"},
		{impl.Matrix{{1, 0}, {1, 1}}, "1", "L"},
		{unit, "1", "none"},
		{impl.Matrix{{0, -1}, {1, 0}}, "0", "error"},
		{impl.Matrix{{-2, -1}, {-1, -1}}, "2", "error"},
		{impl.Matrix{{1, 200}, {0, 1}}, "1", strings.Repeat("R", 200)},
	}
	for _, c := range matrices {
		checkAnswer(t, withMatrix(c.m), "type", c.kind)
		checkAnswer(t, withMatrix(c.m), "letters", c.letters)
	}
	forms := []struct {
		x     impl.Form
		cycle string
	}{
		{impl.Form{A: 1, B: 1, C: -1}, "2"},
		{impl.Form{A: 1, B: 0, C: -2}, "2"},
		{impl.Form{A: 1, B: 6, C: 7}, "2"},
	}
	for _, c := range forms {
		checkAnswer(t, withForm(c.x), "cycle", c.cycle)
	}
}

func TestQuestionsOfWordsAndNumbers(t *testing.T) {
	cases := [][2]string{
		{"period LRRL", "2 2"}, {"period RL", "1 1"}, {"period LRRLRL", "1 2 2 1"}, {"period " + strings.Repeat("L", 199) + "R", "1 199"},
		{"class 5", "1"}, {"class 12", "2"}, {"class 20", "2"},
		{"expand 7 5", "1 2 2"}, {"expand -7 3", "-3 1 2"}, {"expand 0 5", "0"}, {"expand 1000000 1", "1000000"}, {"expand -1000000 1000000", "-1"},
		{"best 7 5 5", "1,1;3,2;7,5"}, {"best -1 2 1", "-1,1"}, {"best 0 7 100000", "0,1"},
		{"nearest 7 5 4", "4,3"}, {"nearest 0 1 1", "0,1"}, {"nearest -7 5 100000", "-7,5"},
		{"order 2 5 3", "0 1 2"}, {"order 3 5 5", "0 2 4 1 3"}, {"order 1 2 1", "0"}, {"order 0 2 3", "0 1 2"},
		{"shapes 1", "1"}, {"shapes 2", "1"}, {"shapes 4", "3"},
	}
	for _, c := range cases {
		checkAnswer(t, freshDesk, c[0], c[1])
	}
	upward := "0"
	for k := 1; k < impl.MaxSteps; k++ {
		upward += fmt.Sprintf(" %d", k)
	}
	checkAnswer(t, freshDesk, "order 1 1000000 500", upward)
}

func TestReset(t *testing.T) {
	for _, d := range append(manyDesks(50, 110), freshDesk) {
		checkLine(t, d, "reset", freshDesk, "ok")
	}
}

// Each line is executed on the desk that the line before it has left.
func TestLinesThatFollow(t *testing.T) {
	d := freshDesk
	for _, c := range [][2]string{
		{"swap", "2,5"}, {"apply", "9,7"}, {"apply", "25,16"}, {"plus -5", "20,16"}, {"primitive", "5,4"}, {"mate", "1,1"}, {"mate", "0,1"}, {"fly", "error"},
		{"second 3,1", "3,1"}, {"determinant", "-3"}, {"reduce", "0,1;3,0"}, {"length", "1"}, {"word RRL", "3 2 1 1"}, {"take", "1 -2 -2"}, {"cycle", "2"},
		{"next", "-2 2 1"}, {"inverse", "1 -2 -1 3"}, {"square", "3 -8 -4 11"}, {"letters", "error"}, {"inverse", "11 8 4 3"}, {"letters", "RRLRRL"},
		{"apply", "8,3"}, {"norm", "73"}, {"matrix 1 1 1 1", "1 1 1 1"}, {"inverse", "error"}, {"apply", "11,11"}, {"corner", "error"}, {"first 1,-1", "1,-1"},
		{"second 1,1", "1,1"}, {"right", "yes"}, {"sail", "1,-1;1,0;1,1"}, {"sequence", "2"}, {"form 2 2 -3", "2 2 -3"}, {"look", "2 2 -3"}, {"show", "1,-1"}, {"other", "1,1"}, {"rows", "1 1 1 1"},
	} {
		next, output := impl.RunLine(d, c[0])
		if output != c[1] {
			t.Errorf("%q on %v: %q; want %q", c[0], d, output, c[1])
		}
		d = next
	}
	want := impl.Desk{First: impl.Point{1, -1}, Second: impl.Point{1, 1}, Matrix: impl.Matrix{{1, 1}, {1, 1}}, Form: impl.Form{A: 2, B: 2, C: -3}}
	if d != want {
		t.Errorf("the desk is %v; want %v", d, want)
	}
	checkLine(t, d, "reset", freshDesk, "ok")
}

// What lines do that ask for numbers alone does not depend on the desk: a few desks are enough for them.
func TestLinesOnManyDesks(t *testing.T) {
	lines := append(manyLines(600, 113), linesThatDo...)
	done, wrong := map[string]int{}, map[string]int{}
	for i, d := range append(manyDesks(150, 112), freshDesk) {
		for _, line := range lines {
			if command := commandOf(line); i > 10 && strings.Contains("class expand best nearest order shapes", command) {
				continue
			}
			want, wantOutput := lineByHand(d, line)
			checkLine(t, d, line, want, wantOutput)
			if wantOutput == "error" {
				wrong[commandOf(line)]++
			} else {
				done[commandOf(line)]++
			}
		}
	}
	for command := range allCommands {
		never := strings.Contains("swap next show other rows look determinant length norm cycle reset", command)
		if done[command] < 5 || !never && wrong[command] < 5 {
			t.Errorf("%s: done %d times, and wrong %d times", command, done[command], wrong[command])
		}
	}
}

// The lines of each chain begin on a new desk, which they change on and on.
func TestChainsOfLines(t *testing.T) {
	for i := range uint64(60) {
		d, text, outputs := freshDesk, "", ""
		for _, line := range manyLines(impl.MaxLines, 1000+i) {
			want, wantOutput := lineByHand(d, line)
			checkLine(t, d, line, want, wantOutput)
			next, output := impl.RunLine(d, line)
			if !impl.IsDesk(next) || output == "error" && next != d {
				t.Errorf("RunLine(%v, %q) = %v, %q", d, line, next, output)
			}
			d, text, outputs = next, text+line+"\n", outputs+output+"\n"
		}
		if len(text) <= impl.MaxConsole {
			checkConsole(t, text, outputs, d)
		}
	}
}
