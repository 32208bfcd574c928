package tests

import (
	"fmt"
	"testing"

	"loop.example/g01297/impl"
)

func checkRecords(t *testing.T, p int64, r int64, q int64, n int64, want []int64, wantCode int64) {
	t.Helper()
	got, code := impl.CommonRecords(p, r, q, n)
	checkList(t, fmt.Sprintf("CommonRecords(%d, %d, %d, %d)", p, r, q, n), got, code, want, wantCode)
}

func TestCommonRecords(t *testing.T) {
	cases := []struct {
		p, r, q, n int64
		want       []int64
	}{
		{2, 3, 5, 5, []int64{1, 2, 5}},
		{2, 3, 5, 1, []int64{1}},
		{2, 3, 5, 4, []int64{1, 2}},
		{2, 3, 5, near, []int64{1, 2, 5}},
		{-2, 3, 5, 5, []int64{1, 2, 5}},
		{1, 2, 7, 7, []int64{1, 7}},
		{1, 3, 7, 7, []int64{1, 2, 7}},
		{3, 1, 7, 7, []int64{1, 2, 7}},
		{3, 5, 10, 9, []int64{1, 2, 4}},
		{3, 5, 10, 10, []int64{1, 2, 4, 10}},
		// 0 is always near, and equal ratios are so together.
		{0, 2, 5, 5, []int64{1, 2, 5}},
		{7, 0, 5, 5, []int64{1, 2, 5}},
		{7, 7, 5, 5, []int64{1, 2, 5}},
		{7, -7, 5, 5, []int64{1, 2, 5}},
		{7, 2, 5, 5, []int64{1, 2, 5}},
		{0, 0, 5, 9, []int64{1}},
		{10, -15, 5, 9, []int64{1}},
		{10, -14, 5, 9, []int64{1, 5}},
		{top, -top, 1, near, []int64{1}},
		{top, 1, top, near, []int64{1}},
		{1, -1, top, near, []int64{1}},
		{10, 25, top, near, []int64{1}},
		{10, 20, top, near, []int64{1, 100000}},
		{10, 20, top, near - 1, []int64{1}},
	}
	for _, c := range cases {
		checkRecords(t, c.p, c.r, c.q, c.n, c.want, impl.ErrNone)
	}
}

// distanceByTrying tries all multiples of Q for the next one.
func distanceByTrying(n int64, q int64) int64 {
	least := max(n, -n)
	for m := range max(n, -n)/q + 2 {
		least = min(least, max(n-m*q, m*q-n), max(n+m*q, -m*q-n))
	}
	return least
}

func TestCommonRecordsByTrying(t *testing.T) {
	for q := int64(1); q <= 8; q++ {
		for p := -q - 2; p <= q+2; p++ {
			for r := -q - 2; r <= 2*q; r++ {
				var want []int64
				var before []int64
				for k := int64(1); k <= q+3; k++ {
					d := max(distanceByTrying(k*p, q), distanceByTrying(k*r, q))
					isRecord := true
					for _, e := range before {
						isRecord = isRecord && d < e
					}
					if isRecord {
						want = append(want, k)
					}
					before = append(before, d)
					checkRecords(t, p, r, q, k, want, impl.ErrNone)
				}
			}
		}
	}
}

// recordsByHand adds both P again and again, on a ring of Q.
func recordsByHand(p int64, r int64, q int64, n int64) []int64 {
	var list []int64
	x, y, least := int64(0), int64(0), q
	for k := int64(1); k <= n; k++ {
		x, y = ((x+p)%q+q)%q, ((y+r)%q+q)%q
		if d := max(min(x, q-x), min(y, q-y)); d < least {
			list, least = append(list, k), d
		}
	}
	return list
}

func TestCommonRecordsOfGreatRatios(t *testing.T) {
	next := numbersFrom(103)
	for i, x := range everyFew(greatRatios(), 2) {
		r := next(2*top+1) - top
		for _, n := range []int64{1, 2, 100, 3000, near} {
			if n == near && i%5 > 0 {
				continue
			}
			for _, other := range []int64{r, x[0] / 2, top, 1} {
				want := recordsByHand(x[0], other, x[1], n)
				checkRecords(t, x[0], other, x[1], n, want, impl.ErrNone)
				checkRecords(t, other, -x[0], x[1], n, want, impl.ErrNone)
			}
		}
	}
}

// With 0, or with itself, a ratio has the common records at the best approximations of the second kind.
func TestCommonRecordsOfOneRatio(t *testing.T) {
	for _, x := range append(gridRatios(12, 12), greatRatios()...) {
		for _, n := range []int64{1, 5, 12, 13, 2000} {
			best, code := impl.BestOfSecond(x[0], x[1], n)
			if code != impl.ErrNone {
				t.Fatal(x, n, code)
			}
			var want []int64
			for _, a := range best {
				want = append(want, a[1])
			}
			for _, other := range []int64{x[0], -x[0], 0} {
				checkRecords(t, x[0], other, x[1], n, want, impl.ErrNone)
				checkRecords(t, other, x[0], x[1], n, want, impl.ErrNone)
			}
		}
	}
}

func TestErrorsOfCommonRecords(t *testing.T) {
	for _, n := range tooGreat {
		checkRecords(t, n, 3, 5, 5, nil, impl.ErrRange)
		checkRecords(t, 2, n, 5, 5, nil, impl.ErrRange)
		checkRecords(t, n, n, 5, 5, nil, impl.ErrRange)
		checkRecords(t, n, -top, top, near, nil, impl.ErrRange)
		checkRecords(t, top, n, 1, near, nil, impl.ErrRange)
	}
	for _, q := range badSeconds() {
		checkRecords(t, 2, 3, q, 5, nil, impl.ErrRange)
		checkRecords(t, 0, 0, q, 1, nil, impl.ErrRange)
		checkRecords(t, top+1, 0, q, 0, nil, impl.ErrRange)
	}
	for _, n := range badNumbersTo(near) {
		checkRecords(t, 2, 3, 5, n, nil, impl.ErrRange)
		checkRecords(t, 0, -top, top, n, nil, impl.ErrRange)
		checkRecords(t, 2, 3, 0, n, nil, impl.ErrRange)
	}
}

func TestCommonRecordsAreNew(t *testing.T) {
	checkNew(t, func() ([]int64, int64) { return impl.CommonRecords(314159, 271828, 1000000, 1000) })
}
