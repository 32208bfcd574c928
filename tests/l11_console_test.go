package tests

import (
	"strings"
	"testing"

	"loop.example/g01297/impl"
)

// checkConsole looks at the outputs of a text, and at the desk after it.
func checkConsole(t *testing.T, text string, want string, wantDesk impl.Desk) {
	t.Helper()
	if got := impl.Console(text); got != want {
		t.Errorf("Console(%s) = %s; want %s", shortened(text), shortened(got), shortened(want))
	}
	if d, ok := impl.DeskAfter(text); d != wantDesk || !ok {
		t.Errorf("DeskAfter(%s) = %v, %v; want %v", shortened(text), d, ok, wantDesk)
	}
}

func checkRefused(t *testing.T, text string) {
	t.Helper()
	if got := impl.Console(text); got != "" {
		t.Errorf("Console(%s) = %s", shortened(text), shortened(got))
	}
	if d, ok := impl.DeskAfter(text); d != (impl.Desk{}) || ok {
		t.Errorf("DeskAfter(%s) = %v, %v", shortened(text), d, ok)
	}
}

func TestLimitsOfTheConsole(t *testing.T) {
	if impl.MaxConsole != 4000 || impl.MaxLines != 40 {
		t.Errorf("MaxConsole is %d, and MaxLines %d", impl.MaxConsole, impl.MaxLines)
	}
}

func TestConsole(t *testing.T) {
	checkConsole(t, "corner\n", "2 1 1\n", freshDesk)
	checkConsole(t, "swap\nplus 1\nshow\nother\n", "2,5\n3,5\n3,5\n1,0\n", withPoints(impl.Point{3, 5}, impl.Point{1, 0}))
	checkConsole(t, "word RRL\nletters\ntake\ncycle\nlook\n", "3 2 1 1\nRRL\n1 -2 -2\n2\n1 -2 -2\n", impl.Desk{
		First: impl.Point{1, 0}, Second: impl.Point{2, 5}, Matrix: impl.Matrix{{3, 2}, {1, 1}}, Form: impl.Form{A: 1, B: -2, C: -2},
	})
	checkConsole(t, "word \nletters\n", "1 0 0 1\nnone\n", withMatrix(unit))
	checkConsole(t, "first 7,7\nreset\nshow\n", "7,7\nok\n1,0\n", freshDesk)
	checkConsole(t, "fly\nfirst 0,0\nprimitive\nmate\nshow\n", "error\n0,0\nerror\nerror\n0,0\n", withPoints(impl.Point{0, 0}, impl.Point{2, 5}))
}

func TestEachLineOnTheConsole(t *testing.T) {
	for _, line := range linesThatDo {
		want, output := lineByHand(freshDesk, line)
		checkConsole(t, line, output+"\n", want)
		checkConsole(t, line+"\n", output+"\n", want)
		checkConsole(t, line+"\nfly\n\n"+line+" \n", output+"\nerror\nerror\n", want)
	}
}

// Each text begins with the new desk, whatever the one before it did.
func TestTextsKeepNothing(t *testing.T) {
	for range 3 {
		checkConsole(t, "show\nfirst 4,4", "1,0\n4,4\n", withPoints(impl.Point{4, 4}, impl.Point{2, 5}))
		checkConsole(t, "other\nsquare\nrows", "2,5\n5 3 3 2\n5 3 3 2\n", withMatrix(impl.Matrix{{5, 3}, {3, 2}}))
	}
}

func TestLastLinesWithoutNewline(t *testing.T) {
	checkConsole(t, "corner", "2 1 1\n", freshDesk)
	checkConsole(t, "swap\nshow", "2,5\n2,5\n", withPoints(impl.Point{2, 5}, impl.Point{1, 0}))
	checkConsole(t, "show\nfly", "1,0\nerror\n", freshDesk)
}

func TestEmptyTexts(t *testing.T) {
	for n := range impl.MaxLines + 1 {
		checkConsole(t, strings.Repeat("\n", n), "", freshDesk)
	}
	checkConsole(t, "\n\nshow\n\n\nother\n\n", "1,0\n2,5\n", freshDesk)
	checkConsole(t, "\n\nshow", "1,0\n", freshDesk)
	// A line with blanks alone is not empty.
	checkConsole(t, " ", "error\n", freshDesk)
	checkConsole(t, " \n\n  \n", "error\nerror\n", freshDesk)
	checkConsole(t, "\r\n\t\n", "error\nerror\n", freshDesk)
}

func TestNumbersOfLines(t *testing.T) {
	for _, line := range []string{"show", "", "fly"} {
		output := map[string]string{"show": "1,0\n", "": "", "fly": "error\n"}[line]
		for n := 1; n <= impl.MaxLines; n++ {
			checkConsole(t, strings.Repeat(line+"\n", n), strings.Repeat(output, n), freshDesk)
			checkConsole(t, strings.Repeat(line+"\n", n-1)+"other", strings.Repeat(output, n-1)+"2,5\n", freshDesk)
		}
		for n := impl.MaxLines; n <= impl.MaxLines+3; n++ {
			checkRefused(t, strings.Repeat(line+"\n", n+1))
			checkRefused(t, strings.Repeat(line+"\n", n)+"other")
			checkRefused(t, strings.Repeat(line+"\n", n)+" ")
		}
		checkRefused(t, strings.Repeat(line+"\n", 3000/(len(line)+1)))
	}
	// Empty lines count, wherever they stand.
	for i := range impl.MaxLines {
		text := strings.Repeat("\n", i) + "show\n" + strings.Repeat("\n", impl.MaxLines-1-i)
		checkConsole(t, text, "1,0\n", freshDesk)
		checkRefused(t, text+"\n")
		checkRefused(t, "\n"+text)
		checkRefused(t, text+"show")
	}
}

func TestNumbersOfBytes(t *testing.T) {
	most := impl.MaxConsole
	checkConsole(t, strings.Repeat("x", most), "error\n", freshDesk)
	checkConsole(t, strings.Repeat("x", most-1)+"\n", "error\n", freshDesk)
	checkConsole(t, "swap\n"+strings.Repeat(" ", most-5), "2,5\nerror\n", withPoints(impl.Point{2, 5}, impl.Point{1, 0}))
	checkConsole(t, strings.Repeat("y", most-6)+"\nother", "error\n2,5\n", freshDesk)
	checkRefused(t, strings.Repeat("x", most+1))
	checkRefused(t, strings.Repeat("x", most)+"\n")
	checkRefused(t, "swap\n"+strings.Repeat(" ", most-4))
	checkRefused(t, strings.Repeat("y", most-5)+"\nother")
	checkRefused(t, strings.Repeat("x", 3*most))
	// As many lines as may be, of as many bytes as may be.
	line := "word " + strings.Repeat("R", 94) + "\n"
	text := strings.Repeat(line, impl.MaxLines)
	checkConsole(t, text, strings.Repeat("1 94 0 1\n", impl.MaxLines), withMatrix(impl.Matrix{{1, 94}, {0, 1}}))
	checkRefused(t, "R"+text)
	checkRefused(t, text+"\n")
	checkRefused(t, text+"R")
	// Bytes count, not letters.
	checkConsole(t, strings.Repeat("é", most/2), "error\n", freshDesk)
	checkRefused(t, strings.Repeat("é", most/2)+"e")
	checkRefused(t, strings.Repeat("é", most))
	checkConsole(t, strings.Repeat("\xff", most), "error\n", freshDesk)
	checkRefused(t, strings.Repeat("\xff", most+1))
}

// Only a newline ends a line.
func TestOtherBytesOnTheConsole(t *testing.T) {
	for b := range 256 {
		one := string([]byte{byte(b)})
		switch one {
		case "\n":
			checkConsole(t, "show"+one+"other"+one, "1,0\n2,5\n", freshDesk)
		default:
			checkConsole(t, "show"+one+"other"+one, "error\n", freshDesk)
			checkConsole(t, "swap\nshow"+one+"\nshow\n", "2,5\nerror\n2,5\n", withPoints(impl.Point{2, 5}, impl.Point{1, 0}))
			checkConsole(t, one, "error\n", freshDesk)
		}
	}
	checkConsole(t, "show\r\nother\r\n", "error\nerror\n", freshDesk)
	checkConsole(t, "show\r\nother", "error\n2,5\n", freshDesk)
	checkConsole(t, "show\u2028other\u0085show", "error\n", freshDesk)
	checkConsole(t, "swap\x00\n\ufeffswap\nswap\n", "error\nerror\n2,5\n", withPoints(impl.Point{2, 5}, impl.Point{1, 0}))
}

func TestWrongLinesOnTheConsoleChangeNothing(t *testing.T) {
	wrong := []string{"fly", "plus", "plus 01", "plus 1000001", "swap ", " swap", "first 1;2", "matrix 1 2 3 1000001", "form 1 2 1", "word RLx", "class 4", "reset now", "word  RL"}
	for _, before := range []string{"first 4,2", "second 0,0", "matrix 2 0 0 2", "form 1 0 -2"} {
		d, output := lineByHand(freshDesk, before)
		text, want := before+"\n", output+"\n"
		for _, line := range wrong {
			text, want = text+line+"\n", want+"error\n"
		}
		checkConsole(t, text, want, d)
		checkConsole(t, text+"show\nother\nrows\nlook\n", want+pointsByHand(d.First)+"\n"+pointsByHand(d.Second)+"\n"+bare(d.Matrix)+"\n"+bare(d.Form)+"\n", d)
	}
}
