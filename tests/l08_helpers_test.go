package tests

import (
	"slices"

	"loop.example/g01297/impl"
)

// badSpotNumbers are numbers that no spot may have.
func badSpotNumbers() []int64 {
	return append([]int64{21, -21, 22, -22, 1 << 16, 1 << 20}, tooGreat...)
}

// badSpots are arrays that are no spots: by one number each, and by all of them.
func badSpots() []impl.Spot {
	var list []impl.Spot
	for _, n := range badSpotNumbers() {
		list = append(list, impl.Spot{n, 1, 2}, impl.Spot{1, n, 2}, impl.Spot{1, 2, n}, impl.Spot{n, 0, 0}, impl.Spot{n, n, n})
	}
	return list
}

// wideSpots have numbers of exactly MaxSpot, and 0.
func wideSpots() []impl.Spot {
	var list []impl.Spot
	for _, a := range gridSpots(1) {
		list = append(list, impl.Spot{20 * a[0], 20 * a[1], 20 * a[2]})
	}
	return list
}

// spotsByHand are all spots with numbers from those of least to those of greatest, ascending, which
// has tells.
func spotsByHand(least impl.Spot, greatest impl.Spot, has func(impl.Spot) bool) []impl.Spot {
	var list []impl.Spot
	for x := least[0]; x <= greatest[0]; x++ {
		for y := least[1]; y <= greatest[1]; y++ {
			for z := least[2]; z <= greatest[2]; z++ {
				if a := (impl.Spot{x, y, z}); has(a) {
					list = append(list, a)
				}
			}
		}
	}
	return list
}

// gridSpots are all spots with numbers in -n..n.
func gridSpots(n int64) []impl.Spot {
	return spotsByHand(impl.Spot{-n, -n, -n}, impl.Spot{n, n, n}, func(impl.Spot) bool { return true })
}

// manySpots are n spots with numbers up to limit in absolute value.
func manySpots(n int, limit int64, seed uint64) []impl.Spot {
	next := numbersFrom(seed)
	list := make([]impl.Spot, n)
	for i := range list {
		for j := range 3 {
			list[i][j] = next(2*limit+1) - limit
		}
	}
	return list
}

// manyCones are cones with numbers up to limit, of both signs of the determinant, made of 3 n spots.
func manyCones(n int, limit int64) []impl.Cone {
	var list []impl.Cone
	for rays := range slices.Chunk(manySpots(3*n, limit, 8), 3) {
		if c := impl.Cone(rays); signedSize(c) != 0 {
			list = append(list, c)
		}
	}
	return list
}

// manyTetras are tetrahedra with numbers up to limit, made of 4 n spots.
func manyTetras(n int, limit int64) []impl.Tetra {
	var list []impl.Tetra
	for spots := range slices.Chunk(manySpots(4*n, limit, 9), 4) {
		if x := impl.Tetra(spots); volumeByHand(x) != 0 {
			list = append(list, x)
		}
	}
	return list
}

// flatCones have rays whose determinant is 0: a ray that is 0, equal and opposite ones, multiples, and
// rays in a plane.
func flatCones() []impl.Cone {
	return []impl.Cone{
		{}, {{0, 0, 0}, {0, 1, 0}, {0, 0, 1}}, {{1, 0, 0}, {0, 0, 0}, {0, 0, 1}}, {{1, 0, 0}, {0, 1, 0}, {0, 0, 0}},
		{{1, 2, 3}, {1, 2, 3}, {0, 0, 1}}, {{1, 2, 3}, {0, 0, 1}, {1, 2, 3}}, {{0, 0, 1}, {1, 2, 3}, {1, 2, 3}},
		{{1, 2, 3}, {-1, -2, -3}, {0, 0, 1}}, {{1, 2, 3}, {2, 4, 6}, {0, 0, 1}}, {{1, 1, 1}, {1, 1, 1}, {1, 1, 1}},
		{{1, 0, 0}, {0, 1, 0}, {1, 1, 0}}, {{1, 2, 3}, {4, 5, 6}, {7, 8, 9}}, {{20, 20, 20}, {20, -20, 0}, {20, 0, 10}},
		{{20, 0, 0}, {0, 20, 0}, {20, 20, 0}}, {{20, 20, 20}, {-20, -20, -20}, {20, 0, 0}},
	}
}

// badCones are no cones: by one number that no spot may have, or by their determinant.
func badCones() []impl.Cone {
	list := flatCones()
	for _, good := range []impl.Cone{{{1, 0, 0}, {0, 1, 0}, {1, 1, 2}}, {{20, 0, 0}, {0, 20, 0}, {0, 0, 20}}} {
		for _, n := range badSpotNumbers() {
			for i := range 9 {
				c := good
				c[i/3][i%3] = n
				list = append(list, c)
			}
		}
	}
	return list
}

// flatTetras have the volume 0: with equal spots, with four on a line, and with four in a plane.
func flatTetras() []impl.Tetra {
	list := []impl.Tetra{
		{}, {{1, 1, 1}, {1, 1, 1}, {1, 1, 1}, {1, 1, 1}}, {{0, 0, 0}, {1, 2, 3}, {2, 4, 6}, {3, 6, 9}}, {{0, 0, 0}, {1, 2, 3}, {2, 4, 6}, {1, 0, 0}},
		{{0, 0, 5}, {1, 0, 5}, {0, 1, 5}, {3, -7, 5}}, {{1, 0, 0}, {0, 1, 0}, {0, 0, 1}, {-1, 1, 1}}, {{20, 20, 20}, {-20, 20, 20}, {20, -20, -20}, {-20, -20, -20}},
	}
	for i := range 4 {
		for j := range i {
			x := impl.Tetra{{0, 0, 0}, {1, 0, 0}, {0, 1, 0}, {0, 0, 1}}
			x[i] = x[j]
			list = append(list, x)
		}
	}
	return list
}

// badTetras are no tetrahedra: by one number that no spot may have, or by their volume.
func badTetras() []impl.Tetra {
	list := flatTetras()
	for _, n := range badSpotNumbers() {
		for i := range 12 {
			x := impl.Tetra{{0, 0, 0}, {1, 0, 0}, {0, 1, 0}, {1, 1, 2}}
			x[i/3][i%3] = n
			list = append(list, x)
		}
	}
	return list
}

func minusSpot(a impl.Spot, b impl.Spot) impl.Spot {
	return impl.Spot{a[0] - b[0], a[1] - b[1], a[2] - b[2]}
}

// determinantByHand adds the six products of three numbers, with their signs.
func determinantByHand(a impl.Spot, b impl.Spot, c impl.Spot) int64 {
	return a[0]*b[1]*c[2] + a[1]*b[2]*c[0] + a[2]*b[0]*c[1] - a[2]*b[1]*c[0] - a[1]*b[0]*c[2] - a[0]*b[2]*c[1]
}

func signedSize(c impl.Cone) int64 { return determinantByHand(c[0], c[1], c[2]) }

func volumeByHand(x impl.Tetra) int64 {
	d := determinantByHand(minusSpot(x[1], x[0]), minusSpot(x[2], x[0]), minusSpot(x[3], x[0]))
	return max(d, -d)
}

// coordinatesByHand puts a in the place of each ray.
func coordinatesByHand(c impl.Cone, a impl.Spot) []int64 {
	var list []int64
	for i := range c {
		with := c
		with[i] = a
		d := signedSize(with)
		if signedSize(c) < 0 {
			d = -d
		}
		list = append(list, d)
	}
	return list
}

func isInByHand(c impl.Cone, a impl.Spot) bool { return slices.Min(coordinatesByHand(c, a)) >= 0 }

// pieceByHand has the spots, ascending, whose coordinates are in 0..greatest, which is not greater
// than k |D|.
func pieceByHand(c impl.Cone, k int64, greatest int64) []impl.Spot {
	var low, high impl.Spot
	for _, ray := range c {
		for i, n := range ray {
			low[i] += min(0, k*n)
			high[i] += max(0, k*n)
		}
	}
	return spotsByHand(low, high, func(a impl.Spot) bool {
		list := coordinatesByHand(c, a)
		return slices.Min(list) >= 0 && slices.Max(list) <= greatest
	})
}

func sizeByHand(c impl.Cone) int64 { return max(signedSize(c), -signedSize(c)) }

func boxByHand(c impl.Cone) []impl.Spot { return pieceByHand(c, 1, sizeByHand(c)-1) }

// countByHand counts the spots with which the volumes of the four parts are that of the whole.
func countByHand(x impl.Tetra) int64 {
	low, high := x[0], x[0]
	for _, a := range x {
		for i, n := range a {
			low[i], high[i] = min(low[i], n), max(high[i], n)
		}
	}
	list := spotsByHand(low, high, func(a impl.Spot) bool {
		sum := int64(0)
		for i := range x {
			part := x
			part[i] = a
			sum += volumeByHand(part)
		}
		return sum == volumeByHand(x)
	})
	return int64(len(list))
}

// spaceMatrices are some of the matrices with numbers in -1..1 and the determinant 1 or -1.
func spaceMatrices() []impl.Square {
	var list []impl.Square
	rows := gridSpots(1)
	for _, a := range rows {
		for _, b := range rows {
			for _, c := range rows {
				if d := determinantByHand(a, b, c); d == 1 || d == -1 {
					list = append(list, impl.Square{a, b, c})
				}
			}
		}
	}
	return everyFew(list, 61)
}

func movedSpot(m impl.Square, a impl.Spot) impl.Spot {
	return impl.Spot(timesTriple(m, impl.Triple(a)))
}

// ordersOf are the lists of 0 to n - 1 in all orders.
func ordersOf(n int) [][]int {
	if n == 0 {
		return [][]int{nil}
	}
	var list [][]int
	for _, order := range ordersOf(n - 1) {
		for i := range n {
			list = append(list, slices.Insert(slices.Clone(order), i, n-1))
		}
	}
	return list
}
