package tests

import (
	"fmt"
	"slices"
	"testing"

	"loop.example/g01297/impl"
)

// boxedCones are those of someCones with boxes of at most MaxBox spots.
func boxedCones() []impl.Cone {
	list := slices.Concat(someCones(), manyCones(300, 6))
	return slices.DeleteFunc(list, func(c impl.Cone) bool { return sizeByHand(c) > 400 })
}

func TestBoxOf(t *testing.T) {
	cases := []struct {
		of   impl.Cone
		want []impl.Spot
	}{
		{impl.Cone{{1, 0, 0}, {0, 1, 0}, {1, 1, 2}}, []impl.Spot{{0, 0, 0}, {1, 1, 1}}},
		{impl.Cone{{1, 0, 0}, {0, 1, 0}, {0, 0, 1}}, []impl.Spot{{0, 0, 0}}},
		{impl.Cone{{0, 1, 0}, {1, 0, 0}, {0, 0, 1}}, []impl.Spot{{0, 0, 0}}},
		{impl.Cone{{-2, 0, 0}, {0, 2, 0}, {0, 0, -1}}, []impl.Spot{{-1, 0, 0}, {-1, 1, 0}, {0, 0, 0}, {0, 1, 0}}},
		{impl.Cone{{1, 0, 0}, {0, 1, 0}, {1, 1, 3}}, []impl.Spot{{0, 0, 0}, {1, 1, 1}, {1, 1, 2}}},
		{impl.Cone{{-1, 0, 0}, {0, 1, 0}, {-1, -1, -3}}, []impl.Spot{{-1, 0, -2}, {-1, 0, -1}, {0, 0, 0}}},
		{impl.Cone{{1, 0, 0}, {2, 5, 0}, {0, 0, 1}}, []impl.Spot{{0, 0, 0}, {1, 1, 0}, {1, 2, 0}, {2, 3, 0}, {2, 4, 0}}},
	}
	for _, c := range cases {
		got, code := impl.BoxOf(c.of)
		checkList(t, fmt.Sprintf("BoxOf(%v)", c.of), got, code, c.want, impl.ErrNone)
	}
}

func TestBoxesAreAsDefined(t *testing.T) {
	sizes, greatest := map[int64]int{}, int64(0)
	for _, c := range boxedCones() {
		want := boxByHand(c)
		got, code := impl.BoxOf(c)
		checkList(t, fmt.Sprintf("BoxOf(%v)", c), got, code, want, impl.ErrNone)
		sizes[int64(len(want))]++
		for _, a := range want {
			greatest = max(greatest, slices.Max(a[:]), -slices.Min(a[:]))
		}
	}
	if sizes[1] == 0 || sizes[400] == 0 || greatest <= 20 {
		t.Errorf("the boxes have %v spots, with numbers up to %d", sizes, greatest)
	}
}

func TestBoxesHaveAsManySpotsAsTheDeterminantTells(t *testing.T) {
	for _, c := range slices.Concat(boxedCones(), manyCones(2000, 5), manyCones(2000, 10)) {
		d, _ := impl.DeterminantOfSpots(c[0], c[1], c[2])
		box, code := impl.BoxOf(c)
		if max(d, -d) > 400 {
			checkList(t, fmt.Sprintf("BoxOf(%v)", c), box, code, nil, impl.ErrLimit)
			continue
		}
		check(t, fmt.Sprintf("the number of spots of BoxOf(%v)", c), int64(len(box)), code, max(d, -d), impl.ErrNone)
	}
}

func TestBoxesOfRaysInAllOrders(t *testing.T) {
	for _, c := range append(fullCones(), impl.Cone{{1, 0, 0}, {0, 1, 0}, {1, 1, 3}}, impl.Cone{{3, 1, 0}, {0, 3, 2}, {-2, 0, 4}}) {
		box, _ := impl.BoxOf(c)
		basis, _ := impl.HilbertBasis(c)
		for _, order := range ordersOf(3) {
			turned := impl.Cone{c[order[0]], c[order[1]], c[order[2]]}
			got, code := impl.BoxOf(turned)
			checkList(t, fmt.Sprintf("BoxOf(%v)", turned), got, code, box, impl.ErrNone)
			got, code = impl.HilbertBasis(turned)
			checkList(t, fmt.Sprintf("HilbertBasis(%v)", turned), got, code, basis, impl.ErrNone)
		}
	}
}

func TestHilbertBasis(t *testing.T) {
	units := []impl.Spot{{0, 0, 1}, {0, 1, 0}, {1, 0, 0}}
	cases := []struct {
		of   impl.Cone
		want []impl.Spot
	}{
		{impl.Cone{{1, 0, 0}, {0, 1, 0}, {1, 1, 2}}, []impl.Spot{{0, 1, 0}, {1, 0, 0}, {1, 1, 1}, {1, 1, 2}}},
		{impl.Cone{{1, 0, 0}, {0, 1, 0}, {1, 1, 3}}, []impl.Spot{{0, 1, 0}, {1, 0, 0}, {1, 1, 1}, {1, 1, 2}, {1, 1, 3}}},
		// Regular cones, and such with rays that are not primitive.
		{impl.Cone{{1, 0, 0}, {0, 1, 0}, {0, 0, 1}}, units},
		{impl.Cone{{1, 0, 0}, {0, 0, 1}, {0, 1, 0}}, units},
		{impl.Cone{{20, 0, 0}, {0, 20, 0}, {0, 0, 1}}, units},
		{impl.Cone{{2, 0, 0}, {0, 3, 0}, {0, 0, -5}}, []impl.Spot{{0, 0, -1}, {0, 1, 0}, {1, 0, 0}}},
		{impl.Cone{{2, 0, 0}, {0, 2, 0}, {2, 2, 4}}, []impl.Spot{{0, 1, 0}, {1, 0, 0}, {1, 1, 1}, {1, 1, 2}}},
		{impl.Cone{{1, 0, 0}, {0, 5, 0}, {3, 3, 6}}, []impl.Spot{{0, 1, 0}, {1, 0, 0}, {1, 1, 1}, {1, 1, 2}}},
		// Of the box, 2, 3, 0 is the sum of two different spots, and 2, 4, 0 of two equal ones.
		{impl.Cone{{1, 0, 0}, {2, 5, 0}, {0, 0, 1}}, []impl.Spot{{0, 0, 1}, {1, 0, 0}, {1, 1, 0}, {1, 2, 0}, {2, 5, 0}}},
		{impl.Cone{{-2, -5, 0}, {-1, 0, 0}, {0, 0, 7}}, []impl.Spot{{-2, -5, 0}, {-1, -2, 0}, {-1, -1, 0}, {-1, 0, 0}, {0, 0, 1}}},
	}
	for _, c := range cases {
		got, code := impl.HilbertBasis(c.of)
		checkList(t, fmt.Sprintf("HilbertBasis(%v)", c.of), got, code, c.want, impl.ErrNone)
	}
}

// basisByHand holds all spots of a part of the cone against each other. Spots behind it have a part
// that is a ray.
func basisByHand(c impl.Cone) []impl.Spot {
	isPart := map[impl.Spot]bool{}
	piece := pieceByHand(c, 2, 2*sizeByHand(c))
	for _, a := range piece {
		isPart[a] = a != impl.Spot{}
	}
	return slices.DeleteFunc(slices.Clone(piece), func(a impl.Spot) bool {
		isSum := slices.ContainsFunc(piece, func(b impl.Spot) bool { return isPart[b] && isPart[minusSpot(a, b)] })
		return isSum || !isPart[a]
	})
}

func TestHilbertBasesAreAsDefined(t *testing.T) {
	list := slices.DeleteFunc(slices.Concat(manyCones(200, 2), manyCones(150, 4)), func(c impl.Cone) bool { return sizeByHand(c) > 40 })
	for _, c := range list {
		got, code := impl.HilbertBasis(c)
		checkList(t, fmt.Sprintf("HilbertBasis(%v)", c), got, code, basisByHand(c), impl.ErrNone)
	}
}

// A list of spots of the cone is the basis if none is another one and a spot of the cone together, but
// each other spot of the cone is so: then it is a sum of spots of the list.
func TestHilbertBasesAreInTheConeAndMakeAllSpots(t *testing.T) {
	for _, c := range slices.Concat(fullCones(), everyFew(boxedCones(), 3)) {
		basis, code := impl.HilbertBasis(c)
		if code != impl.ErrNone || !slices.IsSortedFunc(basis, func(a, b impl.Spot) int { return slices.Compare(a[:], b[:]) }) {
			t.Fatalf("HilbertBasis(%v) = %v, %d", c, basis, code)
		}
		for i, a := range basis {
			in, _ := impl.IsInCone(c, a)
			if impl.IsSpot(a) && !in || !isInByHand(c, a) || a == (impl.Spot{}) || i > 0 && a == basis[i-1] || hasPart(c, basis, a) {
				t.Errorf("HilbertBasis(%v): %v should not be in it", c, a)
			}
		}
		for _, a := range pieceByHand(c, 1, sizeByHand(c)) {
			if a != (impl.Spot{}) && !slices.Contains(basis, a) && !hasPart(c, basis, a) {
				t.Errorf("HilbertBasis(%v): %v should be in it", c, a)
			}
		}
	}
}

func hasPart(c impl.Cone, list []impl.Spot, a impl.Spot) bool {
	return slices.ContainsFunc(list, func(b impl.Spot) bool { return a != b && isInByHand(c, minusSpot(a, b)) })
}

func TestRegularConesHaveThreeSpotsAsHilbertBasis(t *testing.T) {
	for _, c := range slices.Concat(regularCones(), manyCones(3000, 2)) {
		if regular, _ := impl.IsRegularCone(c); !regular {
			continue
		}
		want := c[:]
		slices.SortFunc(want, func(a, b impl.Spot) int { return slices.Compare(a[:], b[:]) })
		got, code := impl.HilbertBasis(c)
		checkList(t, fmt.Sprintf("HilbertBasis(%v)", c), got, code, want, impl.ErrNone)
	}
}

// The spots of a cone with an upright ray, but for this one, are those of the sail of its foot.
func TestHilbertBasesOfUprightConesAreSails(t *testing.T) {
	for q := int64(1); q <= 20; q++ {
		for p := int64(-20); p <= 20; p++ {
			if divisorByCounting(p, q) != 1 {
				continue
			}
			points, code := impl.SailPoints(impl.Point{1, 0}, impl.Point{p, q})
			if code != impl.ErrNone {
				t.Fatalf("SailPoints(1, 0; %d, %d): code %d", p, q, code)
			}
			want := []impl.Spot{{0, 0, -1}}
			for _, a := range points {
				want = append(want, impl.Spot{a[0], a[1], 0})
			}
			slices.SortFunc(want, func(a, b impl.Spot) int { return slices.Compare(a[:], b[:]) })
			c := impl.Cone{{1, 0, 0}, {p, q, 0}, {0, 0, -20}}
			got, code := impl.HilbertBasis(c)
			checkList(t, fmt.Sprintf("HilbertBasis(%v)", c), got, code, want, impl.ErrNone)
		}
	}
}

func TestTooGreatBoxes(t *testing.T) {
	for _, c := range fullCones() {
		if d := sizeByHand(c); d != 400 {
			t.Errorf("%v has the determinant %d", c, d)
		}
		if box, code := impl.BoxOf(c); len(box) != 400 || code != impl.ErrNone {
			t.Errorf("BoxOf(%v) has %d spots, code %d", c, len(box), code)
		}
	}
	for _, c := range tooGreatCones() {
		box, code := impl.BoxOf(c)
		checkList(t, fmt.Sprintf("BoxOf(%v)", c), box, code, nil, impl.ErrLimit)
		basis, code := impl.HilbertBasis(c)
		checkList(t, fmt.Sprintf("HilbertBasis(%v)", c), basis, code, nil, impl.ErrLimit)
	}
}

func TestBoxesAndBasesAreNew(t *testing.T) {
	for _, c := range []impl.Cone{{{1, 0, 0}, {0, 1, 0}, {1, 1, 3}}, {{1, 0, 0}, {0, 1, 0}, {0, 0, 1}}, {{1, 0, 0}, {7, 20, 0}, {3, 11, 20}}} {
		checkNew(t, func() ([]impl.Spot, int64) { return impl.BoxOf(c) })
		checkNew(t, func() ([]impl.Spot, int64) { return impl.HilbertBasis(c) })
	}
}
