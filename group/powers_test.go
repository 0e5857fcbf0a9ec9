package group_test

import (
	"testing"

	"sizar/api"
	"sizar/group"
)

// P3.2: powers that are known without a calculation.
func TestKnownPowers(t *testing.T) {
	for _, x := range []struct{ a, k, c int }{
		{4, 0, 1}, {4, 1, 4}, {4, 2, 16}, {4, 30, 1 << 60}, {4, 31, 1<<62 - api.P}, {4, api.Q - 1, (api.P + 1) / 4},
		{1, 0, 1}, {1, api.Q - 1, 1}, {9, 2, 81}, {api.P - 2, 0, 1}, {api.P - 2, 1, api.P - 2}, {api.P - 2, 2, 4}, {api.P - 2, 3, api.P - 8},
	} {
		if c, e := group.Exp(x.a, x.k); c != x.c || e != api.OK {
			t.Error(x, c, e)
		}
	}
	if c, e := group.Base(3); c != 64 || e != api.OK {
		t.Error(c, e)
	}
}

// P3.2: powers of many elements, among them those by each single bit.
func TestExp(t *testing.T) {
	l := scalars(40)
	for i := range 61 {
		l = append(l, 1<<i)
	}
	for k := range 70 {
		l = append(l, k)
	}
	for _, a := range elements(30) {
		for _, k := range l {
			if c, e := group.Exp(a, k); c != power(a, k) || e != api.OK {
				t.Error(a, k, c, e)
			}
		}
	}
}

// P3.2: what is no element is reported before what is no scalar.
func TestExpRefuses(t *testing.T) {
	for _, k := range noScalars() {
		for _, a := range elements(5) {
			if c, e := group.Exp(a, k); c != 0 || e != api.ErrArg {
				t.Error(a, k, c, e)
			}
		}
		for _, a := range noElements() {
			if c, e := group.Exp(a, k); c != 0 || e != api.ErrGroup {
				t.Error(a, k, c, e)
			}
		}
	}
	for _, a := range noElements() {
		for _, k := range scalars(5) {
			if c, e := group.Exp(a, k); c != 0 || e != api.ErrGroup {
				t.Error(a, k, c, e)
			}
		}
	}
}

// P3.2: Base is Exp of G, with its errors.
func TestBase(t *testing.T) {
	for _, k := range scalars(300) {
		if c, e := group.Base(k); c != power(4, k) || e != api.OK {
			t.Error(k, c, e)
		}
	}
	for _, k := range noScalars() {
		if c, e := group.Base(k); c != 0 || e != api.ErrArg {
			t.Error(k, c, e)
		}
	}
}
