package group_test

import (
	"math/big"
	"testing"

	"sizar/api"
	"sizar/group"
)

// P3.3: the examples of the chapter, and what stands at the borders.
func TestKnownSums(t *testing.T) {
	const last = api.Q - 1
	for _, x := range []struct{ a, b, sum, product int }{
		{last, 2, 1, last - 1}, {last, last, last - 1, 1}, {last, 1, 0, last}, {last, 0, last, 0}, {0, 0, 0, 0}, {5, 7, 12, 35},
		{api.Q / 2, api.Q/2 + 1, 0, modulo(api.Q, (*big.Int).Mul, api.Q/2, api.Q/2+1)}, {2, api.Q/2 + 1, api.Q/2 + 3, 1},
	} {
		if c, e := group.Sum(x.a, x.b); c != x.sum || e != api.OK {
			t.Error("sum", x, c, e)
		}
		if c, e := group.Product(x.a, x.b); c != x.product || e != api.OK {
			t.Error("product", x, c, e)
		}
	}
}

// P3.3: many scalars.
func TestSumAndProduct(t *testing.T) {
	l := scalars(100)
	for _, a := range l {
		for _, b := range l {
			if c, e := group.Sum(a, b); c != modulo(api.Q, (*big.Int).Add, a, b) || e != api.OK {
				t.Error("sum", a, b, c, e)
			}
			if c, e := group.Product(a, b); c != modulo(api.Q, (*big.Int).Mul, a, b) || e != api.OK {
				t.Error("product", a, b, c, e)
			}
		}
	}
}

// P3.3: each of the numbers has to be a scalar.
func TestSumAndProductRefuse(t *testing.T) {
	refused := func(a, b int) {
		if c, e := group.Sum(a, b); c != 0 || e != api.ErrArg {
			t.Error("sum", a, b, c, e)
		}
		if c, e := group.Product(a, b); c != 0 || e != api.ErrArg {
			t.Error("product", a, b, c, e)
		}
	}
	for _, bad := range noScalars() {
		for _, k := range scalars(5) {
			refused(bad, k)
			refused(k, bad)
		}
		for _, other := range noScalars() {
			refused(bad, other)
		}
	}
}
