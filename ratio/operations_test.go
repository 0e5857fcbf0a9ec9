package ratio_test

import (
	"math/big"
	"testing"

	"sizar/api"
	"sizar/ratio"
)

func expectOperations(t *testing.T, a, b api.Ratio) {
	t.Helper()
	want, e := fitting(new(big.Rat).Add(exact(a), exact(b)))
	if r, f := ratio.Add(a, b); r != want || f != e {
		t.Error("sum", a, b, r, f)
	}
	want, e = fitting(new(big.Rat).Mul(exact(a), exact(b)))
	if r, f := ratio.Mul(a, b); r != want || f != e {
		t.Error("product", a, b, r, f)
	}
	if n, f := ratio.Compare(a, b); n != exact(a).Cmp(exact(b)) || f != api.OK {
		t.Error("order", a, b, n, f)
	}
}

// P5.2: the example of the chapter, and results at the borders of what fits.
func TestOperationExamples(t *testing.T) {
	for _, x := range []struct {
		a, b, sum, product api.Ratio
		forSum, forProduct api.Errno
		order              int
	}{
		{of(1, 2), of(1, 3), of(5, 6), of(1, 6), api.OK, api.OK, 1},
		{of(0, 1), of(0, 1), of(0, 1), of(0, 1), api.OK, api.OK, 0},
		{of(-1, 2), of(1, 2), of(0, 1), of(-1, 4), api.OK, api.OK, -1},
		{of(most, 1), of(0, 1), of(most, 1), of(0, 1), api.OK, api.OK, 1},
		{of(most-1, 1), of(1, 1), of(most, 1), of(most-1, 1), api.OK, api.OK, 1},
		{of(most, 1), of(1, 1), api.Ratio{}, of(most, 1), api.ErrLimit, api.OK, 1},
		{of(-most, 1), of(-1, 1), api.Ratio{}, of(most, 1), api.ErrLimit, api.OK, -1},
		{of(-most, 1), of(most, 1), of(0, 1), api.Ratio{}, api.OK, api.ErrLimit, -1},
		{of(most, 1), of(1, most), api.Ratio{}, of(1, 1), api.ErrLimit, api.OK, 1},
		{of(1, most), of(1, most), of(1, most/2), api.Ratio{}, api.OK, api.ErrLimit, 0},
		{of(1, most), of(-1, most), of(0, 1), api.Ratio{}, api.OK, api.ErrLimit, 1},
		{of(1, most), of(1, most-1), api.Ratio{}, api.Ratio{}, api.ErrLimit, api.ErrLimit, -1},
		{of(most-1, most), of(1, most), of(1, 1), api.Ratio{}, api.OK, api.ErrLimit, 1},
		{of(most-1, most), of(most, most-1), api.Ratio{}, of(1, 1), api.ErrLimit, api.OK, -1},
		{of(1<<15, 1), of(1<<15, 1), of(1<<16, 1), of(most, 1), api.OK, api.OK, 0},
		{of(1, 1<<15), of(1, 1<<15), of(1, 1<<14), of(1, most), api.OK, api.OK, 0},
		{of(1, 1<<15), of(-1, 1<<15+1), api.Ratio{}, api.Ratio{}, api.ErrLimit, api.ErrLimit, 1},
	} {
		if r, e := ratio.Add(x.a, x.b); r != x.sum || e != x.forSum {
			t.Error(x, "sum", r, e)
		}
		if r, e := ratio.Mul(x.a, x.b); r != x.product || e != x.forProduct {
			t.Error(x, "product", r, e)
		}
		if n, e := ratio.Compare(x.a, x.b); n != x.order || e != api.OK {
			t.Error(x, "order", n, e)
		}
	}
}

// P5.2: sums, products and the order of all pairs of many fractions.
func TestOperations(t *testing.T) {
	l := fractions(400)
	for _, a := range l {
		for _, b := range l {
			expectOperations(t, a, b)
		}
	}
}

// P5.2: sums, products and the order of all pairs of little fractions.
func TestOperationsOfSmall(t *testing.T) {
	for _, a := range small() {
		for _, b := range small() {
			expectOperations(t, a, b)
		}
	}
}

// P5.2: a fraction that is not valid is refused on either side, also if the result would fit or would not fit, and also by Compare.
func TestOperationsRefuse(t *testing.T) {
	others := append(invalid(), of(0, 1), of(1, 1), of(-1, 2), of(most, 1), of(-most, 1), of(1, most), of(most, most-1))
	for _, a := range invalid() {
		for _, b := range others {
			for _, pair := range [][2]api.Ratio{{a, b}, {b, a}} {
				if r, e := ratio.Add(pair[0], pair[1]); r != (api.Ratio{}) || e != api.ErrRatio {
					t.Error("sum", pair, r, e)
				}
				if r, e := ratio.Mul(pair[0], pair[1]); r != (api.Ratio{}) || e != api.ErrRatio {
					t.Error("product", pair, r, e)
				}
				if n, e := ratio.Compare(pair[0], pair[1]); n != 0 || e != api.ErrRatio {
					t.Error("order", pair, n, e)
				}
			}
		}
	}
}
