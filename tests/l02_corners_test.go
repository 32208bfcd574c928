package tests

import (
	"testing"

	"loop.example/g01297/impl"
)

func TestIsCorner(t *testing.T) {
	isCorner := map[impl.Corner]bool{}
	for _, x := range gridCorners(4) {
		isCorner[x] = true
	}
	for _, a := range gridPoints(4) {
		for _, b := range gridPoints(4) {
			x := impl.Corner{First: a, Second: b}
			if got := impl.IsCorner(x); got != isCorner[x] {
				t.Errorf("IsCorner(%v) is %v", x, got)
			}
		}
	}
	for _, x := range append(greatCorners(), wideCorners()...) {
		if !impl.IsCorner(x) {
			t.Errorf("IsCorner(%v) is false", x)
		}
	}
	for _, x := range badCorners() {
		if impl.IsCorner(x) {
			t.Errorf("IsCorner(%v) is true", x)
		}
	}
}

func TestCornersAreAskedFirst(t *testing.T) {
	wide := wideCorners()[0]
	for _, bad := range badCorners() {
		n, code := impl.SineOf(bad)
		check(t, "SineOf", n, code, 0, impl.ErrInvalid)
		n, code = impl.CosineOf(bad)
		check(t, "CosineOf", n, code, 0, impl.ErrInvalid)
		list, code := impl.ExpansionOfCorner(bad)
		checkList(t, "ExpansionOfCorner", list, code, nil, impl.ErrInvalid)
		x, code := impl.NormalCorner(bad)
		check(t, "NormalCorner", x, code, impl.Corner{}, impl.ErrInvalid)
		x, code = impl.TransposeCorner(bad)
		check(t, "TransposeCorner", x, code, impl.Corner{}, impl.ErrInvalid)
		x, code = impl.AdjacentCorner(bad)
		check(t, "AdjacentCorner", x, code, impl.Corner{}, impl.ErrInvalid)
		is, code := impl.IsRightCorner(bad)
		check(t, "IsRightCorner", is, code, false, impl.ErrInvalid)
		for _, good := range []impl.Corner{corner(1, 0, 2, 5), wide, bad} {
			is, code = impl.AreEqualCorners(bad, good)
			check(t, "AreEqualCorners", is, code, false, impl.ErrInvalid)
			is, code = impl.AreEqualCorners(good, bad)
			check(t, "AreEqualCorners", is, code, false, impl.ErrInvalid)
		}
	}
}

func TestSinesAndCosines(t *testing.T) {
	cases := []struct {
		x            impl.Corner
		sine, cosine int64
	}{
		{corner(1, 0, 2, 5), 5, 2},
		{corner(2, 5, 1, 0), 5, 3},
		{corner(1, 0, 2, -5), 5, 2},
		{corner(1, 0, -2, 5), 5, 3},
		{corner(1, 0, 0, 1), 1, 1},
		{corner(0, 1, 1, 0), 1, 1},
		{corner(0, -1, -1, 7), 1, 1},
		{corner(1, 0, 1, 2), 2, 1},
		{corner(1, 1, -1, 1), 2, 1},
		{corner(0, 1, 3, 1), 3, 1},
		{corner(0, -1, 3, 1), 3, 2},
		{corner(1, 0, 1, top), top, 1},
		{corner(1, 0, -1, -top), top, top - 1},
		{corner(1, 1, -1, top-1), top, top - 1},
		{corner(999999, -1, -top, 1), 1, 1},
		{corner(1, 0, 514229, 832040), 832040, 514229},
	}
	for _, c := range cases {
		got, code := impl.SineOf(c.x)
		check(t, "SineOf", got, code, c.sine, impl.ErrNone)
		got, code = impl.CosineOf(c.x)
		check(t, "CosineOf", got, code, c.cosine, impl.ErrNone)
	}
}

func TestSinesAndCosinesAreAsDefined(t *testing.T) {
	for _, x := range append(gridCorners(6), greatCorners()...) {
		got, code := impl.SineOf(x)
		check(t, "SineOf", got, code, exactSine(x), impl.ErrNone)
		got, code = impl.CosineOf(x)
		check(t, "CosineOf", got, code, cosineByCounting(x), impl.ErrNone)
	}
}

func TestSinesThatAreTooGreat(t *testing.T) {
	for _, x := range wideCorners() {
		n, code := impl.SineOf(x)
		check(t, "SineOf", n, code, 0, impl.ErrLimit)
		n, code = impl.CosineOf(x)
		check(t, "CosineOf", n, code, 0, impl.ErrLimit)
		list, code := impl.ExpansionOfCorner(x)
		checkList(t, "ExpansionOfCorner", list, code, nil, impl.ErrLimit)
		form, code := impl.NormalCorner(x)
		check(t, "NormalCorner", form, code, impl.Corner{}, impl.ErrLimit)
		y, code := impl.TransposeCorner(x)
		check(t, "TransposeCorner", y, code, impl.Corner{First: x.Second, Second: x.First}, impl.ErrNone)
		y, code = impl.AdjacentCorner(x)
		check(t, "AdjacentCorner", y, code, corner(x.Second[0], x.Second[1], -x.First[0], -x.First[1]), impl.ErrNone)
	}
}

func TestNormalCorner(t *testing.T) {
	for _, x := range append(gridCorners(5), greatCorners()...) {
		form, code := impl.NormalCorner(x)
		check(t, "NormalCorner", form, code, corner(1, 0, cosineByCounting(x), exactSine(x)), impl.ErrNone)
		again, code := impl.NormalCorner(form)
		check(t, "NormalCorner of a normal corner", again, code, form, impl.ErrNone)
		same, code := impl.AreEqualCorners(x, form)
		check(t, "AreEqualCorners", same, code, true, impl.ErrNone)
		if !equalByMatrix(x, form) {
			t.Errorf("NormalCorner(%v) = %v: no unimodular matrix leads there", x, form)
		}
	}
}

func TestAreEqualCorners(t *testing.T) {
	all := append(gridCorners(3), greatCorners()...)
	for _, x := range all {
		for _, y := range all {
			got, code := impl.AreEqualCorners(x, y)
			check(t, "AreEqualCorners", got, code, equalByMatrix(x, y), impl.ErrNone)
		}
	}
}

func TestEqualCornersOfGreatSines(t *testing.T) {
	wide := wideCorners()
	cases := []struct {
		x, y impl.Corner
		want bool
	}{
		// The sine is MaxCoord.
		{corner(1, 1, -1, top-1), corner(1, 0, top-1, top), true},
		{corner(1, 1, -1, top-1), corner(1, 0, 1, top), false},
		// It exceeds MaxCoord by one.
		{corner(1, 1, -1, top), corner(1, 1, top, -1), true},
		{corner(1, 1, -1, top), corner(1, 2, -1, top-1), true},
		{corner(1, 1, -1, top), corner(1, 2, -2, top-3), false},
		{corner(1, 1, -1, top), corner(1, 1, -1, top-1), false},
		{corner(1, 1, -1, top), corner(1, 0, top-1, top), false},
		// The greatest ones of all, whose squares no int64 has.
		{corner(top, top-1, 1-top, top), corner(top-1, top, top, 1-top), true},
		{corner(top, top-1, 1-top, top), corner(top, 1-top, 1-top, -top), true},
		{corner(top, top-1, 1-top, top), corner(top-1, -top, top, top-1), true},
		{corner(top, top-1, 1-top, top), corner(1-top, top, top, top-1), false},
	}
	for _, c := range cases {
		if equalByMatrix(c.x, c.y) != c.want {
			t.Fatalf("the case %v is wrong", c)
		}
		got, code := impl.AreEqualCorners(c.x, c.y)
		check(t, "AreEqualCorners", got, code, c.want, impl.ErrNone)
		got, code = impl.AreEqualCorners(c.y, c.x)
		check(t, "AreEqualCorners", got, code, c.want, impl.ErrNone)
	}
	for _, x := range wide {
		got, code := impl.AreEqualCorners(x, x)
		check(t, "AreEqualCorners", got, code, true, impl.ErrNone)
	}
}

func TestTransposedCosinesAreInverse(t *testing.T) {
	for _, x := range append(gridCorners(6), greatCorners()...) {
		y, code := impl.TransposeCorner(x)
		check(t, "TransposeCorner", y, code, impl.Corner{First: x.Second, Second: x.First}, impl.ErrNone)
		sine, _ := impl.SineOf(x)
		cosine, _ := impl.CosineOf(x)
		other, code := impl.CosineOf(y)
		check(t, "CosineOf the transposed corner", (cosine*other-1)%sine, code, 0, impl.ErrNone)
		back, code := impl.TransposeCorner(y)
		check(t, "TransposeCorner", back, code, x, impl.ErrNone)
	}
}

func TestAdjacentCornersHaveTheSameSine(t *testing.T) {
	for _, x := range append(gridCorners(6), greatCorners()...) {
		y, code := impl.AdjacentCorner(x)
		check(t, "AdjacentCorner", y, code, corner(x.Second[0], x.Second[1], -x.First[0], -x.First[1]), impl.ErrNone)
		want, _ := impl.SineOf(x)
		got, code := impl.SineOf(y)
		check(t, "SineOf the adjacent corner", got, code, want, impl.ErrNone)
	}
}

func TestIsRightCorner(t *testing.T) {
	cases := map[impl.Corner]bool{
		corner(1, 0, 0, 1): true, corner(0, 1, 1, 0): true, corner(1, 0, 1, 2): true, corner(1, 1, -1, 1): true,
		corner(1, 0, 1, 3): false,
		corner(1, 0, 2, 5): false, // equal to its adjacent corner only
		corner(1, 0, 3, 8): false, // equal to its transposed corner only
		// Sines of MaxCoord, and by one greater, with either one of the two.
		corner(1, 1, -1, top-1): false, corner(1, 0, 1, top): false, corner(1, 0, 3, top): false,
		corner(1, 1, -1, top): false, corner(1, 1, 1000, -999001): false, corner(1, 2, -2, top-3): false,
		corner(top, top-1, 1-top, top): false, corner(top, top-1, top-1, top-2): true,
	}
	for x, want := range cases {
		got, code := impl.IsRightCorner(x)
		check(t, "IsRightCorner", got, code, want, impl.ErrNone)
	}
}

func TestRightCornersAreAsDefined(t *testing.T) {
	all := append(gridCorners(6), greatCorners()...)
	for _, x := range append(all, wideCorners()...) {
		adjacent := corner(x.Second[0], x.Second[1], -x.First[0], -x.First[1])
		want := equalByMatrix(x, impl.Corner{First: x.Second, Second: x.First}) && equalByMatrix(x, adjacent)
		got, code := impl.IsRightCorner(x)
		check(t, "IsRightCorner", got, code, want, impl.ErrNone)
	}
}
