package tests

import (
	"strings"
	"testing"

	"loop.example/g01297/impl"
)

// changedDesk differs from the new one in each part, and executes linesThatDo, too.
var changedDesk = impl.Desk{
	First: impl.Point{2, -3}, Second: impl.Point{-1, 4}, Matrix: impl.Matrix{{3, 2}, {1, 1}}, Form: impl.Form{A: -1, B: 5, C: -3},
}

func TestLinesThatDo(t *testing.T) {
	for _, d := range []impl.Desk{freshDesk, changedDesk} {
		for _, line := range linesThatDo {
			if _, output := impl.RunLine(d, line); output == "error" || output == "" {
				t.Errorf("RunLine(%v, %q) has the output %q", d, line, output)
			}
		}
	}
}

func TestLinesWithTooManyWords(t *testing.T) {
	for _, d := range []impl.Desk{freshDesk, changedDesk} {
		for _, line := range linesThatDo {
			for _, more := range []string{" ", "  ", " 1", " 1 ", " x", " RL", " 1,2", " show", " " + line, "\t", " \t"} {
				checkWrong(t, d, line+more)
			}
			checkWrong(t, d, " "+line)
			checkWrong(t, d, "  "+line)
			checkWrong(t, d, " "+line+" ")
			for i := range len(line) {
				if line[i] == ' ' {
					checkWrong(t, d, line[:i]+" "+line[i:])
				}
			}
		}
	}
}

// A word missing at the end, or in front, is no other line, but for the word behind "word".
func TestLinesWithTooFewWords(t *testing.T) {
	for _, d := range []impl.Desk{freshDesk, changedDesk} {
		for _, line := range linesThatDo {
			for i := range len(line) {
				if line[i] != ' ' {
					continue
				}
				checkWrong(t, d, line[:i])
				checkWrong(t, d, line[i+1:])
				if line[:i] != "word" {
					checkWrong(t, d, line[:i+1])
				}
			}
		}
	}
}

func TestEmptyLines(t *testing.T) {
	for _, d := range []impl.Desk{freshDesk, changedDesk} {
		for _, line := range []string{"", " ", "  ", strings.Repeat(" ", 100), "\t", "\r", "\n", "\n\n", "\x00"} {
			checkWrong(t, d, line)
		}
	}
}

func TestCommandsThatAreNone(t *testing.T) {
	for _, d := range []impl.Desk{freshDesk, changedDesk} {
		for _, line := range linesThatDo {
			command := commandOf(line)
			rest := line[len(command):]
			checkWrong(t, d, strings.ToUpper(command)+rest)
			checkWrong(t, d, strings.ToUpper(command[:1])+command[1:]+rest)
			for i := range len(command) {
				checkWrong(t, d, command[:i]+rest)
				checkWrong(t, d, command[:i]+" "+command[i:]+rest)
				// The end of "cosine" is one.
				if _, ok := allCommands[command[i+1:]]; !ok {
					checkWrong(t, d, command[i+1:]+rest)
				}
			}
			for _, more := range []string{"s", "x", ":", ",", ";", "\x00", "-"} {
				checkWrong(t, d, command+more+rest)
				checkWrong(t, d, more+command+rest)
			}
		}
		for _, line := range []string{"fly", "error", "ok", "yes", "none", "help", "0", "1", "1,2", "RL", "desk", "back", "first,1,2", "first=1,2", "plus,1", "kind", "put", "A", "show;other", "show;"} {
			checkWrong(t, d, line)
		}
	}
}

// badNumberWords are no numbers, all of which are near to one.
func badNumberWords() []string {
	return []string{
		"", "-", "+", "01", "00", "-01", "-0", "+0", "+1", "--1", "-+1", "1-", "1+", "007", "-007", "0000000001", "000000000",
		"1.", ".1", "1.0", "1,", ",1", "1,0", "1e0", "1e3", "0x1", "0b1", "0o1", "1_0", "_1", "1x", "x1", "x", "one", "none", "I",
		"\t1", "1\t", "1\r", "\r1", "1\n", "\n1", "1\x00", "\x001", "\xff", "1\xff", "\u0661", "\uff11", "1\u00a0", "\u00a01", "\u22121", "/", ":", "1/1", "'1'", "\"1\"",
		"1000000000", "-1000000000", "1000000001", "9999999999", "-9999999999", "4294967296", "4294967297", "-4294967295", "4294967301",
		"9223372036854775807", "-9223372036854775808", "9223372036854775808", "18446744073709551616", "18446744073709551617", "18446744073709551621",
		strings.Repeat("1", 1000), strings.Repeat("0", 1000) + "1", "-" + strings.Repeat("9", 100),
	}
}

func TestNumbersThatAreNone(t *testing.T) {
	for _, line := range linesThatDo {
		words := strings.Split(line, " ")
		for i, asked := range allCommands[words[0]] {
			if asked == '?' {
				continue
			}
			for _, bad := range badNumberWords() {
				changed := strings.Split(line, " ")
				changed[i+1] = bad
				checkWrong(t, freshDesk, strings.Join(changed, " "))
				checkWrong(t, changedDesk, strings.Join(changed, " "))
			}
		}
	}
}

// A minus and nine digits make a number, though no function takes so great a one.
func TestGreatNumbers(t *testing.T) {
	for _, line := range linesThatDo {
		words := strings.Split(line, " ")
		for i, asked := range allCommands[words[0]] {
			if asked == '?' {
				continue
			}
			for _, great := range []string{"1000001", "-1000001", "10000000", "100000000", "999999999", "-999999999", "123456789", "-123456789"} {
				changed := strings.Split(line, " ")
				changed[i+1] = great
				checkWrong(t, freshDesk, strings.Join(changed, " "))
			}
		}
	}
}

func TestTextsThatAreNone(t *testing.T) {
	for _, d := range []impl.Desk{freshDesk, changedDesk} {
		for _, text := range append(badTexts(), "RL", ";", "1,2;3,4", "none", "-") {
			checkWrong(t, d, "first "+text)
			checkWrong(t, d, "second "+text)
		}
		for _, text := range badWords() {
			checkWrong(t, d, "period "+text)
			checkWrong(t, d, "word "+text)
		}
	}
}

func TestMatricesAndFormsThatAreNone(t *testing.T) {
	for _, d := range []impl.Desk{freshDesk, changedDesk} {
		for _, m := range badMatrices() {
			checkWrong(t, d, "matrix "+bare(m))
		}
		for _, x := range badForms() {
			checkWrong(t, d, "form "+bare(x))
		}
	}
}

// The new desk may have other parts for a line that is wrong by the code of its function.
func TestLinesOfOtherCodes(t *testing.T) {
	origin, edge := impl.Point{0, 0}, impl.Point{top, top}
	cases := []struct {
		d     impl.Desk
		lines []string
	}{
		// ErrRange.
		{freshDesk, []string{"plus 1000001", "plus -1000001", "word RLX", "word rl", "word " + strings.Repeat("R", 201), "period RLX", "period " + strings.Repeat("RL", 101)}},
		{freshDesk, []string{"class 0", "class -5", "class 4001", "class 1000000", "shapes 0", "shapes -1", "shapes 201", "expand 1000001 1", "expand -1000001 1", "expand 1 0", "expand 1 -1", "expand 1 1000001"}},
		{freshDesk, []string{"best 1000001 1 1", "best 1 0 1", "best 1 1000001 1", "best 1 1 0", "best 1 1 -1", "best 1 1 100001", "nearest -1000001 1 1", "nearest 1 0 1", "nearest 1 -1 1", "nearest 1 1 0", "nearest 1 1 100001"}},
		{freshDesk, []string{"order 1000001 2 1", "order 1 1 1", "order 1 0 1", "order 1 -2 1", "order 1 1000001 1", "order 1 2 0", "order 1 2 -1", "order 1 2 501"}},
		// ErrLimit.
		{withPoints(edge, impl.Point{1, 0}), []string{"plus 1", "plus 1000000", "apply"}},
		{withPoints(impl.Point{1 - top, 0}, impl.Point{-1, 0}), []string{"plus 2"}},
		{freshDesk, []string{"plus 1000000", "plus -1000000", "word " + strings.Repeat("RL", 15), "word " + strings.Repeat("RRRRRRRRRRL", 7)}},
		{withMatrix(impl.Matrix{{1001, 0}, {0, 1}}), []string{"square"}},
		{withMatrix(impl.Matrix{{1, 0}, {201, 1}}), []string{"letters"}},
		{withMatrix(impl.Matrix{{1, top}, {0, 1}}), []string{"letters", "square"}},
		{withPoints(impl.Point{1, 1}, impl.Point{-1, top}), []string{"sine", "cosine", "corner"}},
		{withPoints(impl.Point{1, 0}, impl.Point{1, impl.MaxSail}), []string{"sail", "sequence"}},
		// ErrState.
		{withPoints(origin, impl.Point{2, 5}), []string{"primitive", "mate", "reduce"}},
		{withPoints(impl.Point{2, 4}, impl.Point{1, 2}), []string{"mate", "reduce"}},
		{withPoints(impl.Point{2, 5}, origin), []string{"reduce"}},
		{withPoints(origin, origin), []string{"primitive", "mate", "reduce"}},
		{withMatrix(impl.Matrix{{2, 0}, {0, 1}}), []string{"inverse", "take", "type", "letters"}},
		{withMatrix(impl.Matrix{{0, 1}, {1, 0}}), []string{"take", "type", "letters"}},
		{withMatrix(impl.Matrix{}), []string{"inverse", "take", "type", "letters"}},
		{withMatrix(unit), []string{"take"}},
		{withMatrix(impl.Matrix{{0, -1}, {1, 0}}), []string{"take", "letters"}},
		{withMatrix(impl.Matrix{{64, 63}, {1, 1}}), []string{"take"}},
		{withMatrix(impl.Matrix{{2, -1}, {-1, 1}}), []string{"letters"}},
		{freshDesk, []string{"period R", "period LL", "period " + strings.Repeat("L", 200), "class 1", "class 4", "class 9", "class 3969", "class 2", "class 3", "class 6", "class 7", "class 3999"}},
		// ErrSyntax.
		{freshDesk, []string{"first 1", "first x", "first 1000001,0", "second 1,2,3", "second +1,2"}},
	}
	for _, c := range cases {
		for _, line := range c.lines {
			checkWrong(t, c.d, line)
		}
	}
}

func TestPointsThatAreNoCorner(t *testing.T) {
	for _, x := range badCorners() {
		if d := withPoints(x.First, x.Second); impl.IsPoint(x.First) && impl.IsPoint(x.Second) {
			for _, line := range []string{"sine", "cosine", "corner", "right", "sail", "sequence"} {
				checkWrong(t, d, line)
			}
		}
	}
	// A corner with a negative determinant is no angle.
	d := withPoints(impl.Point{2, 5}, impl.Point{1, 0})
	checkWrong(t, d, "sail")
	checkWrong(t, d, "sequence")
	checkAnswer(t, d, "sine", "5")
	// A corner with a sine greater than MaxCoord may be right, or not.
	d = withPoints(impl.Point{top, top - 1}, impl.Point{1 - top, top})
	checkWrong(t, d, "sine")
	checkAnswer(t, d, "right", "no")
}

// Reduced pairs may have numbers greater than those of points, and a line leads to a desk.
func TestReductionsThatLeadToNoDesk(t *testing.T) {
	for _, x := range [][2]impl.Point{
		{{-100000, 500000}, {top, top}}, {{top, top}, {-100000, 500000}}, {{-500000, 950000}, {550000, top}}, {{550000, top}, {-500000, 950000}},
	} {
		pair, code := impl.ReducePair(x[0], x[1])
		if code != impl.ErrNone || impl.IsPoint(pair[0]) && impl.IsPoint(pair[1]) {
			t.Errorf("ReducePair(%v, %v) = %v, %d", x[0], x[1], pair, code)
		}
		checkWrong(t, withPoints(x[0], x[1]), "reduce")
	}
}

// Only the blank parts words, and no other byte does.
func TestOtherBytes(t *testing.T) {
	for b := range 256 {
		one := string([]byte{byte(b)})
		if one == " " {
			continue
		}
		for _, line := range []string{"show" + one, one + "show", "sh" + one + "ow", "plus" + one + "1", "expand 7" + one + "5", one} {
			checkWrong(t, freshDesk, line)
		}
		if one < "0" || one > "9" {
			checkWrong(t, freshDesk, "plus 1"+one)
			checkWrong(t, freshDesk, "first 1,2"+one)
			if one != "-" {
				checkWrong(t, freshDesk, "plus "+one+"1")
			}
		}
	}
	for _, line := range []string{"\u00a0show", "show\u2003", "ſhow", "ｓhow", "plus\u00a01", "plus ١", "première", "\ufeffshow"} {
		checkWrong(t, freshDesk, line)
	}
}

func TestVeryLongLines(t *testing.T) {
	for _, line := range []string{strings.Repeat("x", 1000000), strings.Repeat(" ", 100000), "plus " + strings.Repeat("1", 100000), "first " + strings.Repeat("1,", 100000), "word " + strings.Repeat("R", 1000000), "show" + strings.Repeat(" show", 50000)} {
		checkWrong(t, freshDesk, line)
	}
}
