package group_test

import (
	"math/rand"
	"testing"

	"sizar/api"
	"sizar/group"
)

// P3.5: whatever is no error is an element.
func TestResultsAreElements(t *testing.T) {
	must := must(t)
	is := func(c int) {
		t.Helper()
		if e := group.Check(c); e != api.OK {
			t.Error(c, e)
		}
	}
	for _, a := range elements(30) {
		is(must(group.Inv(a)))
		for _, b := range elements(30) {
			is(must(group.Mul(a, b)))
		}
		for _, k := range scalars(10) {
			is(must(group.Exp(a, k)))
			is(must(group.Base(k)))
		}
	}
}

// P3.5: the laws of products and inverses.
func TestElementsAreGroup(t *testing.T) {
	must := must(t)
	l := elements(12)
	for _, a := range l {
		inverse := must(group.Inv(a))
		if must(group.Mul(a, 1)) != a || must(group.Mul(1, a)) != a {
			t.Error("1 is not neutral", a)
		}
		if must(group.Mul(a, inverse)) != 1 || must(group.Mul(inverse, a)) != 1 || must(group.Inv(inverse)) != a {
			t.Error("inverse", a)
		}
		for _, b := range l {
			ab := must(group.Mul(a, b))
			if ab != must(group.Mul(b, a)) {
				t.Error("commutative", a, b)
			}
			for _, c := range l {
				if must(group.Mul(ab, c)) != must(group.Mul(a, must(group.Mul(b, c)))) {
					t.Error("associative", a, b, c)
				}
			}
		}
	}
}

// P3.5: powers add and multiply their exponents.
func TestExponents(t *testing.T) {
	must := must(t)
	l := scalars(8)
	for _, a := range elements(5) {
		for _, j := range l {
			for _, k := range l {
				x, y := must(group.Exp(a, j)), must(group.Exp(a, k))
				if must(group.Mul(x, y)) != must(group.Exp(a, must(group.Sum(j, k)))) {
					t.Error("sum", a, j, k)
				}
				if must(group.Exp(x, k)) != must(group.Exp(a, must(group.Product(j, k)))) {
					t.Error("product", a, j, k)
				}
			}
		}
	}
}

// P3.5: the laws of sums and products of scalars.
func TestScalarsAreField(t *testing.T) {
	must := must(t)
	l := scalars(6)
	for _, a := range l {
		for _, b := range l {
			sum, product := must(group.Sum(a, b)), must(group.Product(a, b))
			if sum != must(group.Sum(b, a)) || product != must(group.Product(b, a)) {
				t.Error("commutative", a, b)
			}
			for _, c := range l {
				if must(group.Sum(sum, c)) != must(group.Sum(a, must(group.Sum(b, c)))) {
					t.Error("sum", a, b, c)
				}
				if must(group.Product(product, c)) != must(group.Product(a, must(group.Product(b, c)))) {
					t.Error("product", a, b, c)
				}
				if must(group.Product(sum, c)) != must(group.Sum(must(group.Product(a, c)), must(group.Product(b, c)))) {
					t.Error("distributive", a, b, c)
				}
			}
		}
	}
}

// P3.5: of a and P - a one is an element, and the other one is not.
func TestOneOfTwo(t *testing.T) {
	one := func(a int) {
		if (group.Check(a) == api.OK) == (group.Check(api.P-a) == api.OK) {
			t.Error(a)
		}
	}
	for a := range 3000 {
		one(a + 1)
		one(api.P/2 - 1500 + a)
	}
	r := rand.New(rand.NewSource(4))
	for range 3000 {
		one(1 + r.Intn(api.P-1))
	}
}
