package tests

import (
	"math"
	"slices"
	"testing"

	"loop.example/g01297/impl"
)

func TestAngleOfSequence(t *testing.T) {
	cases := []struct {
		list []int64
		b    impl.Point
	}{
		{[]int64{1}, impl.Point{1, 1}},
		{[]int64{2}, impl.Point{1, 2}},
		{[]int64{impl.MaxSail - 1}, impl.Point{1, impl.MaxSail - 1}},
		{[]int64{2, 1, 1}, impl.Point{2, 5}},
		{[]int64{1, 1, 1}, impl.Point{2, 3}},
		{[]int64{1, 1, 2}, impl.Point{3, 5}},
		{[]int64{2, 5, 3}, impl.Point{16, 35}},
		{[]int64{1, 2, 3, 4, 5}, impl.Point{157, 225}},
		{[]int64{999, 1000, 1}, impl.Point{1001, top}},
		{[]int64{1, 999998, 1}, impl.Point{top - 1, top}},
		{[]int64{1200, 1, 799}, impl.Point{800, 960799}},
		{slices.Repeat([]int64{1}, 29), impl.Point{514229, 832040}},
	}
	for _, c := range cases {
		got, code := impl.AngleOfSequence(c.list)
		checkList(t, "AngleOfSequence", got, code, []impl.Point{{1, 0}, c.b}, impl.ErrNone)
	}
}

func TestSequencesLeadBackToAnglesWithTheSameSequence(t *testing.T) {
	for _, list := range sequences(4) {
		p, q := exactFold(list)
		got, code := impl.AngleOfSequence(list)
		checkList(t, "AngleOfSequence", got, code, []impl.Point{{1, 0}, {q, p}}, impl.ErrNone)
		again, code := impl.SequenceOf(got[0], got[1])
		checkList(t, "SequenceOf the angle of a sequence", again, code, list, impl.ErrNone)
	}
	for _, x := range slices.Concat(gridAngles(7), greatAngles()) {
		list, code := impl.SequenceOf(x[0], x[1])
		check(t, "SequenceOf", len(list)%2, code, 1, impl.ErrNone)
		p, q := exactFold(list)
		got, code := impl.AngleOfSequence(list)
		if p > top {
			checkList(t, "AngleOfSequence", got, code, nil, impl.ErrLimit)
			continue
		}
		checkList(t, "AngleOfSequence", got, code, []impl.Point{{1, 0}, {q, p}}, impl.ErrNone)
		again, code := impl.SequenceOf(got[0], got[1])
		checkList(t, "SequenceOf the angle of a sequence", again, code, list, impl.ErrNone)
	}
}

func TestFractionsOfSequencesHaveTheDeterminant(t *testing.T) {
	for _, x := range slices.Concat(gridAngles(7), greatAngles()) {
		d, _ := impl.DeterminantOf(x[0], x[1])
		list, code := impl.SequenceOf(x[0], x[1])
		p, _ := exactFold(list)
		check(t, "SequenceOf", p, code, d, impl.ErrNone)
		p, q, code := impl.FractionOf(list)
		if slices.Max(list) > top {
			check(t, "FractionOf a sequence", impl.Point{p, q}, code, impl.Point{}, impl.ErrRange)
			continue
		}
		if d > top {
			check(t, "FractionOf a sequence", impl.Point{p, q}, code, impl.Point{}, impl.ErrLimit)
			continue
		}
		check(t, "FractionOf a sequence", p, code, d, impl.ErrNone)
		// It is the long expansion of the corner as well.
		long, code := impl.ExpansionOfCorner(impl.Corner{First: x[0], Second: x[1]})
		checkList(t, "ExpansionOfCorner", long, code, list, impl.ErrNone)
	}
}

func TestListsThatAreNoSequences(t *testing.T) {
	lists := [][]int64{
		nil, {}, {0}, {-1}, {1, 1}, {2, 5}, {0, 1}, {1, 2, 3, 4}, {0, 1, 1}, {1, 0, 1}, {1, 1, 0}, {-1, 1, 1}, {1, -1, 1},
		{1, 1, -1}, {2, 1, 1, 1, 0}, {2, 1, 0, 1, 1}, {-2, -1, -1}, {1 - top}, {math.MinInt64}, {1, math.MinInt64, 1},
		{1, math.MinInt64 + 1, 1}, {1, 1, math.MinInt64}, {math.MaxInt64, 1}, {math.MaxInt64, math.MaxInt64},
		// The points, or the sail, would be too great also.
		{math.MaxInt64, 0, 1}, {math.MaxInt64, 1, 0}, {0, math.MaxInt64, 1}, {impl.MaxSail, 1, -1}, {top, top}, {top + 1, 0, top + 1},
	}
	for _, n := range []int{impl.MaxTerms, impl.MaxTerms + 1, impl.MaxTerms + 2, 1001} {
		lists = append(lists, slices.Repeat([]int64{1}, n), slices.Repeat([]int64{math.MaxInt64}, n), make([]int64, n))
	}
	for _, n := range []int{3, 31, impl.MaxTerms - 1} {
		for i := range n {
			list := slices.Repeat([]int64{top}, n)
			list[i] = 0
			lists = append(lists, list)
		}
	}
	for _, list := range lists {
		got, code := impl.AngleOfSequence(list)
		checkList(t, "AngleOfSequence", got, code, nil, impl.ErrRange)
	}
}

func TestSequencesThatAreTooGreat(t *testing.T) {
	lists := [][]int64{
		// One point too many.
		{impl.MaxSail}, {1200, 1, 800}, {801, 1, 1199}, {1998, 400, 2}, {1, 1, 1998, 1, 1}, {1, 400, 1999},
		// A number of the last point exceeds MaxCoord by one, or by more.
		{1000, 999, 1}, {1, 999999, 1}, {1, 1, 1998, 1, 300}, {1, top, 1}, {999, 1001, 1}, {9, 9, 9, 9, 9, 9, 9},
		slices.Repeat([]int64{1}, 31), slices.Repeat([]int64{1}, impl.MaxTerms-1), slices.Repeat([]int64{top}, impl.MaxTerms-1),
		{top}, {top + 1}, {top, top, top}, {1, 1, top}, {1, 1, 1, 1, 1998},
	}
	for _, n := range []int64{top + 1, 1 << 31, 1 << 32, 1<<32 - 1, 1<<32 - 2, 1 << 62, 1<<62 - 2, 1<<62 + 1, math.MaxInt64 - 2, math.MaxInt64 - 1, math.MaxInt64} {
		lists = append(lists, []int64{n}, []int64{n, 1, 1}, []int64{1, n, 1}, []int64{2, n, 1}, []int64{1, 1, n}, []int64{n, n, n},
			[]int64{1, 1, 1, n, 1}, []int64{1, 2, 1, n, 1}, []int64{1, 2, 1, 1, n}, slices.Repeat([]int64{n}, impl.MaxTerms-1))
	}
	for _, list := range lists {
		got, code := impl.AngleOfSequence(list)
		checkList(t, "AngleOfSequence", got, code, nil, impl.ErrLimit)
	}
}

func TestSequencesAreNotTouched(t *testing.T) {
	memory := []int64{2, 1, 1, 7, 8}
	for range 2 {
		points, code := impl.AngleOfSequence(memory[:3])
		checkList(t, "AngleOfSequence", points, code, []impl.Point{{1, 0}, {2, 5}}, impl.ErrNone)
		points[0], points[1] = impl.Point{}, impl.Point{}
		list, code := impl.SequenceOf(impl.Point{1, 0}, impl.Point{2, 5})
		checkList(t, "SequenceOf", list, code, []int64{2, 1, 1}, impl.ErrNone)
		list[0] = 99
	}
	if !slices.Equal(memory, []int64{2, 1, 1, 7, 8}) {
		t.Errorf("AngleOfSequence leaves %v", memory)
	}
}
