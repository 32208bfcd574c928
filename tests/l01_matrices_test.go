package tests

import (
	"testing"

	"loop.example/g01297/impl"
)

var unit = impl.Matrix{{1, 0}, {0, 1}}

func TestIsMatrix(t *testing.T) {
	for _, m := range []impl.Matrix{{}, unit, {{top, -top}, {-top, top}}} {
		if !impl.IsMatrix(m) {
			t.Errorf("IsMatrix(%v) is false", m)
		}
	}
	for _, m := range badMatrices() {
		if impl.IsMatrix(m) {
			t.Errorf("IsMatrix(%v) is true", m)
		}
	}
}

func TestMatricesAreAskedFirst(t *testing.T) {
	for _, bad := range badMatrices() {
		d, code := impl.DeterminantOfMatrix(bad)
		check(t, "DeterminantOfMatrix", d, code, 0, impl.ErrInvalid)
		a, code := impl.ApplyMatrix(bad, impl.Point{})
		check(t, "ApplyMatrix", a, code, impl.Point{}, impl.ErrInvalid)
		m, code := impl.MultiplyMatrices(bad, impl.Matrix{})
		check(t, "MultiplyMatrices", m, code, impl.Matrix{}, impl.ErrInvalid)
		m, code = impl.MultiplyMatrices(impl.Matrix{}, bad)
		check(t, "MultiplyMatrices", m, code, impl.Matrix{}, impl.ErrInvalid)
		m, code = impl.InverseMatrix(bad)
		check(t, "InverseMatrix", m, code, impl.Matrix{}, impl.ErrInvalid)
	}
	for _, bad := range badPoints() {
		a, code := impl.ApplyMatrix(impl.Matrix{}, bad)
		check(t, "ApplyMatrix", a, code, impl.Point{}, impl.ErrInvalid)
	}
}

func TestDeterminantOfMatrix(t *testing.T) {
	cases := map[impl.Matrix]int64{
		{}:                         0,
		unit:                       1,
		{{0, 1}, {1, 0}}:           -1,
		{{2, 1}, {7, 5}}:           3,
		{{2, 7}, {1, 5}}:           3,
		{{2, 4}, {1, 2}}:           0,
		{{top, top}, {-top, top}}:  2 * top * top,
		{{-top, top}, {top, top}}:  -2 * top * top,
		{{top, -top}, {top, -top}}: 0,
	}
	for m, want := range cases {
		got, code := impl.DeterminantOfMatrix(m)
		check(t, "DeterminantOfMatrix", got, code, want, impl.ErrNone)
	}
}

func TestApplyMatrix(t *testing.T) {
	cases := []struct {
		m    impl.Matrix
		a    impl.Point
		want impl.Point
		code int64
	}{
		{impl.Matrix{{2, 3}, {5, 7}}, impl.Point{1, 0}, impl.Point{2, 5}, impl.ErrNone},
		{impl.Matrix{{2, 3}, {5, 7}}, impl.Point{-1, 1}, impl.Point{1, 2}, impl.ErrNone},
		{impl.Matrix{{top, top}, {top, top}}, impl.Point{}, impl.Point{}, impl.ErrNone},
		{unit, impl.Point{top, -top}, impl.Point{top, -top}, impl.ErrNone},
		{impl.Matrix{{1, 1}, {0, 1}}, impl.Point{top - 1, 1}, impl.Point{top, 1}, impl.ErrNone},
		{impl.Matrix{{1, 1}, {0, 1}}, impl.Point{top, 1}, impl.Point{}, impl.ErrLimit},
		{impl.Matrix{{0, 1}, {-1, -1}}, impl.Point{top, 1}, impl.Point{}, impl.ErrLimit},
		{impl.Matrix{{top, top}, {0, 0}}, impl.Point{top, top}, impl.Point{}, impl.ErrLimit},
	}
	for _, c := range cases {
		got, code := impl.ApplyMatrix(c.m, c.a)
		check(t, "ApplyMatrix", got, code, c.want, c.code)
	}
}

func TestMultiplyMatrices(t *testing.T) {
	for _, m := range gridMatrices(1) {
		for _, n := range gridMatrices(1) {
			product, code := impl.MultiplyMatrices(m, n)
			if code != impl.ErrNone {
				t.Fatalf("MultiplyMatrices(%v, %v): code %d", m, n, code)
			}
			for _, a := range []impl.Point{{1, 0}, {0, 1}, {5, -3}} {
				between, _ := impl.ApplyMatrix(n, a)
				want, _ := impl.ApplyMatrix(m, between)
				got, code := impl.ApplyMatrix(product, a)
				check(t, "ApplyMatrix of a product", got, code, want, impl.ErrNone)
			}
		}
	}
	cases := []struct {
		m, n, want impl.Matrix
		code       int64
	}{
		{impl.Matrix{{2, 1}, {1, 1}}, impl.Matrix{{0, 1}, {1, 0}}, impl.Matrix{{1, 2}, {1, 1}}, impl.ErrNone},
		{impl.Matrix{{1000, 0}, {0, -1000}}, impl.Matrix{{1000, 0}, {0, 1000}}, impl.Matrix{{top, 0}, {0, -top}}, impl.ErrNone},
		{impl.Matrix{{top, 1}, {0, 0}}, impl.Matrix{{1, 0}, {1, 0}}, impl.Matrix{}, impl.ErrLimit},
		{impl.Matrix{{0, 0}, {0, 0}}, impl.Matrix{{top, top}, {top, top}}, impl.Matrix{}, impl.ErrNone},
		{impl.Matrix{{top, 1}, {0, 0}}, impl.Matrix{{0, 1}, {0, 1}}, impl.Matrix{}, impl.ErrLimit},
		{impl.Matrix{{0, 0}, {-top, -1}}, impl.Matrix{{1, 0}, {1, 0}}, impl.Matrix{}, impl.ErrLimit},
		{impl.Matrix{{0, 0}, {-top, -1}}, impl.Matrix{{0, 1}, {0, 1}}, impl.Matrix{}, impl.ErrLimit},
		{impl.Matrix{{top, top}, {top, top}}, impl.Matrix{{top, top}, {top, top}}, impl.Matrix{}, impl.ErrLimit},
	}
	for _, c := range cases {
		got, code := impl.MultiplyMatrices(c.m, c.n)
		check(t, "MultiplyMatrices", got, code, c.want, c.code)
	}
}

func TestInversesLeadBack(t *testing.T) {
	great := []impl.Matrix{
		{{1, top}, {0, -1}}, {{-1, 0}, {-top, 1}}, {{top, top - 1}, {1, 1}}, {{832040, 514229}, {514229, 317811}},
	}
	for _, m := range append(unimodularMatrices(3), great...) {
		inverse, code := impl.InverseMatrix(m)
		check(t, "InverseMatrix", impl.IsMatrix(inverse), code, true, impl.ErrNone)
		if product := exactProduct(inverse, m); product != unit {
			t.Errorf("the inverse of %v is %v: the product is %v", m, inverse, product)
		}
		if product := exactProduct(m, inverse); product != unit {
			t.Errorf("the inverse of %v is %v: the product is %v", m, inverse, product)
		}
	}
}

// exactProduct multiplies without the limit that MultiplyMatrices has.
func exactProduct(m impl.Matrix, n impl.Matrix) impl.Matrix {
	var product impl.Matrix
	for i := range 2 {
		for j := range 2 {
			product[i][j] = m[i][0]*n[0][j] + m[i][1]*n[1][j]
		}
	}
	return product
}

func TestNoInverse(t *testing.T) {
	for _, m := range gridMatrices(2) {
		if d, _ := impl.DeterminantOfMatrix(m); d != 1 && d != -1 {
			got, code := impl.InverseMatrix(m)
			check(t, "InverseMatrix", got, code, impl.Matrix{}, impl.ErrState)
		}
	}
	got, code := impl.InverseMatrix(impl.Matrix{{top, top}, {-top, top}})
	check(t, "InverseMatrix", got, code, impl.Matrix{}, impl.ErrState)
}

func TestUnimodularMatricesKeepAreasAndLengths(t *testing.T) {
	points := []impl.Point{{}, {1, 0}, {0, 1}, {2, 4}, {-3, 6}, {5, -7}, {-100, 40}, {1000, 1001}, {99999, -66666}}
	for _, m := range unimodularMatrices(3) {
		images := make([]impl.Point, len(points))
		for i, a := range points {
			image, code := impl.ApplyMatrix(m, a)
			if code != impl.ErrNone {
				t.Fatalf("ApplyMatrix(%v, %v): code %d", m, a, code)
			}
			images[i] = image
		}
		for i := range points {
			for j := range points {
				checkKept(t, points, images, i, j)
			}
		}
	}
}

// checkKept holds the lengths, areas and distances of points i and j, and of all third ones,
// against those of their images.
func checkKept(t *testing.T, points []impl.Point, images []impl.Point, i int, j int) {
	t.Helper()
	want, _ := impl.LengthOf(points[i], points[j])
	got, code := impl.LengthOf(images[i], images[j])
	check(t, "LengthOf images", got, code, want, impl.ErrNone)
	for k := range points {
		want, _ = impl.AreaOf(points[i], points[j], points[k])
		got, code = impl.AreaOf(images[i], images[j], images[k])
		check(t, "AreaOf images", got, code, want, impl.ErrNone)
		want, wantCode := impl.DistanceOf(points[i], points[j], points[k])
		got, code = impl.DistanceOf(images[i], images[j], images[k])
		check(t, "DistanceOf images", got, code, want, wantCode)
	}
}
