package tests

import (
	"fmt"
	"regexp"
	"strconv"
	"strings"

	"loop.example/g01297/impl"
)

var numberOfLine = regexp.MustCompile(`^(0|-?[1-9][0-9]{0,8})$`)

// lineByHand executes a line by the table of the chapter, with what the functions return that it names.
func lineByHand(d impl.Desk, line string) (impl.Desk, string) {
	words := splitByHand(line)
	asked, ok := allCommands[words[0]]
	if !ok || len(asked) != len(words)-1 {
		return d, "error"
	}
	var numbers []int64
	for i, sign := range asked {
		if sign == '#' && !numberOfLine.MatchString(words[i+1]) {
			return d, "error"
		}
		n, _ := strconv.ParseInt(words[i+1], 10, 64)
		numbers = append(numbers, n)
	}
	for _, execute := range []func(impl.Desk, []string, []int64) (impl.Desk, string, int64){pointLineByHand, partLineByHand, questionByHand, numberLineByHand} {
		if next, output, code := execute(d, words, numbers); code == impl.ErrNone && impl.IsDesk(next) {
			return next, output
		}
	}
	return d, "error"
}

func splitByHand(line string) []string {
	words := []string{""}
	for i := range len(line) {
		if line[i] == ' ' {
			words = append(words, "")
		} else {
			words[len(words)-1] += line[i : i+1]
		}
	}
	return words
}

// bare puts numbers, lists of them and structs of them without the signs around them.
func bare(x any) string {
	return strings.NewReplacer("[", "", "]", "", "{", "", "}", "").Replace(fmt.Sprint(x))
}

func pointsByHand(list ...impl.Point) string {
	text := ""
	for _, a := range list {
		text += fmt.Sprintf(";%d,%d", a[0], a[1])
	}
	return strings.TrimPrefix(text, ";")
}

func pointLineByHand(d impl.Desk, words []string, numbers []int64) (impl.Desk, string, int64) {
	var code int64
	switch words[0] {
	case "first":
		d.First, code = impl.ParsePoint(words[1])
	case "second":
		d.Second, code = impl.ParsePoint(words[1])
		return d, pointsByHand(d.Second), code
	case "swap":
		d.First, d.Second = d.Second, d.First
	case "plus":
		d.First, code = impl.AddPoints(d.First, d.Second, numbers[0])
	case "primitive":
		d.First, code = impl.PrimitiveOf(d.First)
	case "mate":
		d.First, code = impl.MateOf(d.First)
	case "apply":
		d.First, code = impl.ApplyMatrix(d.Matrix, d.First)
	case "reduce":
		pair, code := impl.ReducePair(d.First, d.Second)
		if code == impl.ErrNone {
			d.First, d.Second = pair[0], pair[1]
		}
		return d, pointsByHand(pair...), code
	case "show":
	case "other":
		return d, pointsByHand(d.Second), code
	default:
		code = impl.ErrNotFound
	}
	return d, pointsByHand(d.First), code
}

func partLineByHand(d impl.Desk, words []string, numbers []int64) (impl.Desk, string, int64) {
	var code int64
	switch words[0] {
	case "matrix":
		d.Matrix = impl.Matrix{{numbers[0], numbers[1]}, {numbers[2], numbers[3]}}
	case "word":
		d.Matrix, code = impl.MatrixOfWord(words[1])
	case "square":
		d.Matrix, code = impl.MultiplyMatrices(d.Matrix, d.Matrix)
	case "inverse":
		d.Matrix, code = impl.InverseMatrix(d.Matrix)
	case "rows":
	case "form":
		d.Form = impl.Form{A: numbers[0], B: numbers[1], C: numbers[2]}
		return d, bare(d.Form), code
	case "take":
		d.Form, code = impl.FormOfMatrix(d.Matrix)
		return d, bare(d.Form), code
	case "next":
		d.Form, code = impl.NextForm(d.Form)
		return d, bare(d.Form), code
	case "look":
		return d, bare(d.Form), code
	case "reset":
		return freshDesk, "ok", code
	default:
		code = impl.ErrNotFound
	}
	return d, bare(d.Matrix), code
}

func questionByHand(d impl.Desk, words []string, _ []int64) (impl.Desk, string, int64) {
	x := impl.Corner{First: d.First, Second: d.Second}
	var answer any
	var code int64
	switch words[0] {
	case "determinant":
		answer, code = impl.DeterminantOf(d.First, d.Second)
	case "length":
		answer, code = impl.LengthOf(d.First, d.Second)
	case "sine":
		answer, code = impl.SineOf(x)
	case "cosine":
		answer, code = impl.CosineOf(x)
	case "corner":
		answer, code = impl.ExpansionOfCorner(x)
	case "right":
		yes, code := impl.IsRightCorner(x)
		return d, map[bool]string{true: "yes", false: "no"}[yes], code
	case "sail":
		points, code := impl.SailPoints(d.First, d.Second)
		return d, pointsByHand(points...), code
	case "sequence":
		answer, code = impl.SequenceOf(d.First, d.Second)
	case "norm":
		answer, code = impl.NormOf(d.First)
	case "type":
		answer, code = impl.TypeOfMatrix(d.Matrix)
	case "letters":
		if d.Matrix == unit {
			return d, "none", code
		}
		answer, code = impl.WordOfMatrix(d.Matrix)
	case "period":
		answer, code = impl.PeriodOf(words[1])
	case "cycle":
		forms, code := impl.CycleOfForm(d.Form)
		return d, bare(len(forms)), code
	default:
		code = impl.ErrNotFound
	}
	return d, bare(answer), code
}

func numberLineByHand(d impl.Desk, words []string, n []int64) (impl.Desk, string, int64) {
	var answer any
	var code int64
	switch words[0] {
	case "class":
		answer, code = impl.ClassNumber(n[0])
	case "expand":
		answer, code = impl.ExpandFraction(n[0], n[1])
	case "best":
		points, code := impl.BestOfSecond(n[0], n[1], n[2])
		return d, pointsByHand(points...), code
	case "nearest":
		a, code := impl.NearestFraction(n[0], n[1], n[2])
		return d, pointsByHand(a), code
	case "order":
		answer, code = impl.OrderOfMultiples(n[0], n[1], n[2])
	case "shapes":
		shapes, code := impl.TrianglesOfArea(n[0])
		return d, bare(len(shapes)), code
	default:
		code = impl.ErrNotFound
	}
	return d, bare(answer), code
}
