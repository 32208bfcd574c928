package tests

import (
	"fmt"
	"slices"
	"testing"

	"loop.example/g01297/impl"
)

// toldTetras are tetrahedra with their volumes and the numbers of their points.
var toldTetras = []struct {
	of     impl.Tetra
	volume int64
	count  int64
}{
	{impl.Tetra{{0, 0, 0}, {1, 0, 0}, {0, 1, 0}, {0, 0, 1}}, 1, 4},
	{impl.Tetra{{20, 20, 20}, {19, 20, 20}, {20, 19, 20}, {20, 20, 19}}, 1, 4},
	{impl.Tetra{{-20, -20, -20}, {-19, -20, -20}, {-20, -19, -20}, {-20, -20, -19}}, 1, 4},
	// Empty ones of a volume greater than 1.
	{impl.Tetra{{0, 0, 0}, {1, 0, 0}, {0, 1, 0}, {1, 1, 2}}, 2, 4},
	{impl.Tetra{{0, 0, 0}, {1, 0, 0}, {0, 1, 0}, {1, 1, 20}}, 20, 4},
	{impl.Tetra{{0, 0, -20}, {1, 0, -20}, {0, 1, -20}, {1, 1, 20}}, 40, 4},
	{impl.Tetra{{0, 0, 0}, {1, 0, 0}, {0, 0, 1}, {2, 5, 1}}, 5, 4},
	// With one point inside; on a side alone; on an edge alone.
	{impl.Tetra{{-1, -1, -1}, {1, 0, 0}, {0, 1, 0}, {0, 0, 1}}, 4, 5},
	{impl.Tetra{{-1, -1, 0}, {1, 0, 0}, {0, 1, 0}, {0, 0, 1}}, 3, 5},
	{impl.Tetra{{0, 0, 0}, {2, 0, 0}, {0, 1, 0}, {0, 0, 1}}, 2, 5},
	{impl.Tetra{{0, 0, 0}, {1, 0, 0}, {1, 2, 0}, {1, 0, 1}}, 2, 5},
	// Corners of cubes: 1 + 3 + 6 + .. points.
	{impl.Tetra{{0, 0, 0}, {2, 0, 0}, {0, 2, 0}, {0, 0, 2}}, 8, 10},
	{impl.Tetra{{0, 0, 0}, {3, 0, 0}, {0, 3, 0}, {0, 0, 3}}, 27, 20},
	{impl.Tetra{{0, 0, 0}, {-20, 0, 0}, {0, 20, 0}, {0, 0, -20}}, 8000, 1771},
	{impl.Tetra{{-20, -20, -20}, {20, -20, -20}, {-20, 20, -20}, {-20, -20, 20}}, 64000, 12341},
}

// turnedTetras are a tetrahedron with its spots in all orders.
func turnedTetras(x impl.Tetra) []impl.Tetra {
	var list []impl.Tetra
	for _, order := range ordersOf(4) {
		list = append(list, impl.Tetra{x[order[0]], x[order[1]], x[order[2]], x[order[3]]})
	}
	return list
}

func checkTetra(t *testing.T, x impl.Tetra, volume int64, count int64) {
	t.Helper()
	if !impl.IsTetra(x) {
		t.Errorf("%v is a tetrahedron", x)
	}
	got, code := impl.VolumeOf(x)
	check(t, fmt.Sprintf("VolumeOf(%v)", x), got, code, volume, impl.ErrNone)
	got, code = impl.CountSpots(x)
	check(t, fmt.Sprintf("CountSpots(%v)", x), got, code, count, impl.ErrNone)
	empty, code := impl.IsEmptyTetra(x)
	check(t, fmt.Sprintf("IsEmptyTetra(%v)", x), empty, code, count == 4, impl.ErrNone)
}

func TestTetrasInAllOrders(t *testing.T) {
	for _, c := range toldTetras {
		for _, x := range turnedTetras(c.of) {
			checkTetra(t, x, c.volume, c.count)
		}
	}
}

func TestSpotsOfTetrasAreCountedOneByOne(t *testing.T) {
	empty := 0
	for _, x := range slices.Concat(manyTetras(2000, 2), manyTetras(500, 4), manyTetras(40, 20)) {
		count := countByHand(x)
		checkTetra(t, x, volumeByHand(x), count)
		if count == 4 && volumeByHand(x) > 1 {
			empty++
		}
	}
	if empty == 0 {
		t.Error("none of the tetrahedra is empty and has a volume greater than 1")
	}
}

func TestTheGreatestTetra(t *testing.T) {
	x := impl.Tetra{{20, 20, 20}, {20, -20, -20}, {-20, 20, -20}, {-20, -20, 20}}
	checkTetra(t, x, 128000, countByHand(x))
}

// Of the sheets of these, and of the rows in them, some have one spot, and some none.
func TestThinTetras(t *testing.T) {
	for _, x := range []impl.Tetra{
		{{-20, -20, -20}, {20, 20, 20}, {20, 20, 19}, {20, 19, 20}}, {{-20, -20, -20}, {20, 20, 19}, {19, 20, 20}, {20, 19, 18}},
		{{-20, 20, 0}, {20, -20, 0}, {0, 0, 1}, {1, 0, 0}}, {{20, 0, -20}, {-20, 0, 20}, {0, 1, 0}, {1, 1, 0}}, {{0, 0, -20}, {0, 0, 20}, {1, 0, 3}, {0, 1, -3}},
	} {
		for _, turned := range turnedTetras(x) {
			checkTetra(t, turned, volumeByHand(x), countByHand(x))
		}
	}
}

func TestMatricesKeepTetras(t *testing.T) {
	for _, x := range manyTetras(20, 4) {
		volume, _ := impl.VolumeOf(x)
		count, _ := impl.CountSpots(x)
		for _, m := range spaceMatrices() {
			moved := x
			for i, a := range x {
				moved[i] = movedSpot(m, a)
			}
			checkTetra(t, moved, volume, count)
		}
	}
}

func TestIsTetra(t *testing.T) {
	for spots := range slices.Chunk(manySpots(20000, 1, 7), 4) {
		x := impl.Tetra(spots)
		if got, want := impl.IsTetra(x), volumeByHand(x) != 0; got != want {
			t.Errorf("IsTetra(%v) = %v", x, got)
		}
	}
	for _, x := range badTetras() {
		if impl.IsTetra(x) {
			t.Errorf("%v is no tetrahedron", x)
		}
	}
}

func TestErrorsOfTetras(t *testing.T) {
	for _, x := range badTetras() {
		volume, code := impl.VolumeOf(x)
		check(t, fmt.Sprintf("VolumeOf(%v)", x), volume, code, 0, impl.ErrInvalid)
		count, code := impl.CountSpots(x)
		check(t, fmt.Sprintf("CountSpots(%v)", x), count, code, 0, impl.ErrInvalid)
		empty, code := impl.IsEmptyTetra(x)
		check(t, fmt.Sprintf("IsEmptyTetra(%v)", x), empty, code, false, impl.ErrInvalid)
	}
}
