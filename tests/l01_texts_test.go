package tests

import (
	"slices"
	"strconv"
	"strings"
	"testing"

	"loop.example/g01297/impl"
)

func TestPointText(t *testing.T) {
	texts := map[impl.Point]string{
		{}: "0,0", {-3, 0}: "-3,0", {12, -40}: "12,-40", {top, -top}: "1000000,-1000000",
	}
	for a, want := range texts {
		got, code := impl.PointText(a)
		check(t, "PointText", got, code, want, impl.ErrNone)
		back, code := impl.ParsePoint(want)
		check(t, "ParsePoint "+strconv.Quote(want), back, code, a, impl.ErrNone)
	}
	for _, bad := range badPoints() {
		got, code := impl.PointText(bad)
		check(t, "PointText", got, code, "", impl.ErrInvalid)
	}
}

func TestPointsComeBackFromTheirTexts(t *testing.T) {
	all := append(gridPoints(11), impl.Point{top, top}, impl.Point{-top, 1 - top}, impl.Point{100, -1000})
	for _, a := range all {
		text, _ := impl.PointText(a)
		back, code := impl.ParsePoint(text)
		check(t, "ParsePoint "+strconv.Quote(text), back, code, a, impl.ErrNone)
	}
	for list := range slices.Chunk(all, 7) {
		text, code := impl.PointsText(list)
		check(t, "PointsText", strings.Count(text, ";"), code, len(list)-1, impl.ErrNone)
		back, code := impl.ParsePoints(text)
		checkList(t, "ParsePoints "+strconv.Quote(text), back, code, list, impl.ErrNone)
	}
}

// badTexts are texts of no point, all of which are near to one.
func badTexts() []string {
	return []string{
		"1", "1,", ",1", ",", "1,2,", ",1,2", "1,2,3", "1,,2", "-0,1", "1,-0", "01,2", "1,00", "-01,2",
		"+1,2", "1,+2", "--1,2", "-,1", "1,-", " 1,2", "1, 2", "1,2 ", "1 ,2", "1,2\n", "1.0,2", "1e3,2",
		"0x1,2", "1_0,2", "a,b", "1,2a", "\x00,1", "1,\xff", "\u0661,1", "1;2", "1,2;", ";1,2",
		"1000001,0", "0,-1000001", "9223372036854775807,0", "-9223372036854775808,0",
		"9223372036854775808,1", "18446744073709551617,1", "1," + strings.Repeat("1", 1000),
		strings.Repeat("0", 1000) + ",1", strings.Repeat("-", 1000), strings.Repeat("1,", 1000),
	}
}

func TestTextsOfNoPoint(t *testing.T) {
	for _, text := range append(badTexts(), "", ";", "1,2;3,4") {
		got, code := impl.ParsePoint(text)
		check(t, "ParsePoint "+strconv.Quote(text), got, code, impl.Point{}, impl.ErrSyntax)
	}
	for _, text := range badTexts() {
		for _, line := range []string{text, "1,2;" + text, text + ";3,4", "1,2;" + text + ";3,4"} {
			got, code := impl.ParsePoints(line)
			checkList(t, "ParsePoints "+strconv.Quote(line), got, code, nil, impl.ErrSyntax)
		}
	}
	for _, line := range []string{";", ";;", "1,2;;3,4", ";1,2", "1,2;", "1,2 ;3,4", "1,2; 3,4", "1,2\n3,4", " "} {
		got, code := impl.ParsePoints(line)
		checkList(t, "ParsePoints "+strconv.Quote(line), got, code, nil, impl.ErrSyntax)
	}
}

func TestPointsText(t *testing.T) {
	for _, none := range [][]impl.Point{nil, {}} {
		text, code := impl.PointsText(none)
		check(t, "PointsText of none", text, code, "", impl.ErrNone)
	}
	list, code := impl.ParsePoints("")
	checkList(t, "ParsePoints of nothing", list, code, nil, impl.ErrNone)
	text, code := impl.PointsText([]impl.Point{{1, 2}, {0, -4}, {1, 2}})
	check(t, "PointsText", text, code, "1,2;0,-4;1,2", impl.ErrNone)
	text, code = impl.PointsText([]impl.Point{{}})
	check(t, "PointsText", text, code, "0,0", impl.ErrNone)
}

func TestAsManyPointsAsMayBe(t *testing.T) {
	list := slices.Repeat([]impl.Point{{-top, top}}, impl.MaxPoints)
	want := strings.Repeat("-1000000,1000000;", impl.MaxPoints-1) + "-1000000,1000000"
	text, code := impl.PointsText(list)
	check(t, "PointsText", text, code, want, impl.ErrNone)
	back, code := impl.ParsePoints(want)
	checkList(t, "ParsePoints", back, code, list, impl.ErrNone)

	text, code = impl.PointsText(append(list, impl.Point{}))
	check(t, "PointsText of one too many", text, code, "", impl.ErrRange)
	back, code = impl.ParsePoints(want + ";0,0")
	checkList(t, "ParsePoints of one too many", back, code, nil, impl.ErrSyntax)
}

func TestPointsTextOfNoPoints(t *testing.T) {
	for _, bad := range badPoints() {
		for _, n := range []int{1, 2, impl.MaxPoints, impl.MaxPoints + 1} {
			for _, i := range []int{0, n - 1} {
				list := make([]impl.Point, n)
				list[i] = bad
				text, code := impl.PointsText(list)
				check(t, "PointsText", text, code, "", impl.ErrInvalid)
			}
		}
	}
}

func TestPointsAreNotTouched(t *testing.T) {
	memory := []impl.Point{{4, 2}, {0, -1}, {9, 9}}
	impl.PointsText(memory[:2])
	if !slices.Equal(memory, []impl.Point{{4, 2}, {0, -1}, {9, 9}}) {
		t.Errorf("PointsText leaves %v", memory)
	}
}
