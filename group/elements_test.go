package group_test

import (
	"math/big"
	"math/rand"
	"testing"

	"sizar/api"
	"sizar/group"
)

// P3.1: the examples of the chapter.
func TestCheckExamples(t *testing.T) {
	for _, a := range []int{0, api.P, api.P - 1, 2} {
		if e := group.Check(a); e != api.ErrGroup {
			t.Error(a, e)
		}
	}
	for _, a := range []int{1, 4, 16} {
		if e := group.Check(a); e != api.OK {
			t.Error(a, e)
		}
	}
}

func checks(t *testing.T, a int) {
	t.Helper()
	want := api.ErrGroup
	if isElement(a) {
		want = api.OK
	}
	if e := group.Check(a); e != want {
		t.Errorf("%d: %d instead of %d", a, e, want)
	}
}

// P3.1: all numbers around the borders, and random ones, of which many are no numbers modulo P at all.
func TestCheck(t *testing.T) {
	for i := range 4000 {
		checks(t, i-1000)
		checks(t, api.P-3000+i)
		checks(t, api.P/2-2000+i)
		checks(t, 1000-i-api.P)
	}
	r := rand.New(rand.NewSource(3))
	for range 4000 {
		checks(t, int(r.Uint64()))
		checks(t, r.Intn(api.P))
	}
}

// P3.1: elements, and numbers that are none.
func TestCheckOfSamples(t *testing.T) {
	for i, a := range elements(300) {
		if e := group.Check(a); e != api.OK {
			t.Error("element", i, a, e)
		}
	}
	for i, a := range noElements() {
		if e := group.Check(a); e != api.ErrGroup {
			t.Error("no element", i, a, e)
		}
	}
}

// P3.1: products, also of numbers whose product has far more than 64 bits.
func TestMul(t *testing.T) {
	if c, e := group.Mul(4, 4); c != 16 || e != api.OK {
		t.Error(c, e)
	}
	l := elements(60)
	for _, a := range l {
		for _, b := range l {
			if c, e := group.Mul(a, b); c != modulo(api.P, (*big.Int).Mul, a, b) || e != api.OK {
				t.Error(a, b, c, e)
			}
		}
	}
}

// P3.1: both factors are checked, also where the product would be an element.
func TestMulRefuses(t *testing.T) {
	for _, bad := range noElements() {
		for _, x := range [][2]int{{bad, 4}, {4, bad}, {bad, 1}, {1, bad}, {bad, bad}, {bad, 2}, {2, bad}} {
			if c, e := group.Mul(x[0], x[1]); c != 0 || e != api.ErrGroup {
				t.Error(x, c, e)
			}
		}
	}
}

// P3.1: inverses.
func TestInv(t *testing.T) {
	for _, x := range [][2]int{{1, 1}, {4, (api.P + 1) / 4}, {(api.P + 1) / 4, 4}, {api.P - 2, (api.P - 1) / 2}} {
		if c, e := group.Inv(x[0]); c != x[1] || e != api.OK {
			t.Error(x, c, e)
		}
	}
	for _, a := range elements(300) {
		want := new(big.Int).ModInverse(big.NewInt(int64(a)), big.NewInt(api.P))
		if c, e := group.Inv(a); c != int(want.Int64()) || e != api.OK {
			t.Error(a, c, e)
		}
	}
}

// P3.1: numbers that are no elements have no inverse here, though most have one modulo P.
func TestInvRefuses(t *testing.T) {
	for _, a := range noElements() {
		if c, e := group.Inv(a); c != 0 || e != api.ErrGroup {
			t.Error(a, c, e)
		}
	}
}
