package tests

import (
	"testing"

	"loop.example/g01297/impl"
)

func TestNewDesk(t *testing.T) {
	if d := impl.NewDesk(); d != freshDesk || !impl.IsDesk(d) {
		t.Errorf("NewDesk() = %v", d)
	}
	checkAnswer(t, impl.NewDesk(), "corner", "2 1 1")
}

func TestIsDesk(t *testing.T) {
	desks := append(manyDesks(200, 120), freshDesk, changedDesk)
	for _, x := range gridForms(6) {
		desks = append(desks, withForm(x))
	}
	for _, x := range greatForms() {
		desks = append(desks, withForm(x))
	}
	desks = append(desks,
		withPoints(impl.Point{}, impl.Point{}), withPoints(impl.Point{top, top}, impl.Point{-top, -top}), withMatrix(impl.Matrix{}),
		withMatrix(impl.Matrix{{top, -top}, {-top, top}}), withForm(impl.Form{A: 1, B: 0, C: -1000}), withForm(impl.Form{A: -1000, B: 0, C: 1}))
	for _, d := range desks {
		if !impl.IsDesk(d) {
			t.Errorf("%v is no desk", d)
		}
	}
	for _, d := range badDesks() {
		if impl.IsDesk(d) {
			t.Errorf("%v is a desk", d)
		}
	}
}

func TestLinesOnNoDesk(t *testing.T) {
	lines := append([]string{"", " ", "fly", "show ", "plus 01", "first x", "\n"}, linesThatDo...)
	for _, d := range badDesks() {
		for _, line := range lines {
			checkLine(t, d, line, impl.Desk{}, "")
		}
	}
}
