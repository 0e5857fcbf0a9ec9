package ratio_test

import (
	"math/rand"
	"slices"
	"testing"

	"sizar/api"
	"sizar/ratio"
)

// P5.4: results without an error are valid.
func TestResultsAreValid(t *testing.T) {
	expect := func(r api.Ratio, e api.Errno) {
		if e == api.OK && (ratio.Check(r) != api.OK || !isValid(r)) {
			t.Error(r)
		}
	}
	for _, num := range integers() {
		for _, den := range integers() {
			expect(ratio.New(num, den))
			expect(ratio.Mean([]int{num, 1}, []int{den, 7}))
		}
	}
	l := fractions(200)
	for _, a := range l {
		for _, b := range l {
			expect(ratio.Add(a, b))
			expect(ratio.Mul(a, b))
		}
	}
}

// P5.4: sums and products are commutative, also in their errors.
func TestCommutative(t *testing.T) {
	l := append(fractions(200), invalid()...)
	for _, a := range l {
		for _, b := range l {
			x, e := ratio.Add(a, b)
			if y, f := ratio.Add(b, a); x != y || e != f {
				t.Error("sum", a, b)
			}
			x, e = ratio.Mul(a, b)
			if y, f := ratio.Mul(b, a); x != y || e != f {
				t.Error("product", a, b)
			}
		}
	}
}

// P5.4: sums and products are associative and distributive.
func TestAssociativeAndDistributive(t *testing.T) {
	for _, a := range small() {
		for _, b := range small() {
			sum, product := added(t, a, b), multiplied(t, a, b)
			for _, c := range small() {
				if added(t, sum, c) != added(t, a, added(t, b, c)) {
					t.Error("sum", a, b, c)
				}
				if multiplied(t, product, c) != multiplied(t, a, multiplied(t, b, c)) {
					t.Error("product", a, b, c)
				}
				if multiplied(t, sum, c) != added(t, multiplied(t, a, c), multiplied(t, b, c)) {
					t.Error("both", a, b, c)
				}
			}
		}
	}
}

// P5.4: 0 and 1 change nothing, and each fraction has a negative, and an inverse unless it is 0.
func TestNeutral(t *testing.T) {
	for _, a := range fractions(1000) {
		if added(t, a, of(0, 1)) != a || multiplied(t, a, of(1, 1)) != a || multiplied(t, a, of(0, 1)) != of(0, 1) {
			t.Error("neutral", a)
		}
		if added(t, a, multiplied(t, a, of(-1, 1))) != of(0, 1) {
			t.Error("negative", a)
		}
		if inverse, e := ratio.New(a.Den, a.Num); a.Num != 0 && (e != api.OK || multiplied(t, a, inverse) != of(1, 1)) {
			t.Error("inverse", a, inverse, e)
		}
	}
}

// P5.4: the order is total: one of three holds, it turns around with its arguments, and it is transitive, since it is that of a sorted list.
func TestTotalOrder(t *testing.T) {
	l := fractions(400)
	rand.New(rand.NewSource(3)).Shuffle(len(l), func(i, k int) { l[i], l[k] = l[k], l[i] })
	slices.SortFunc(l, func(a, b api.Ratio) int { return compared(t, a, b) })
	for i, a := range l {
		for k, b := range l {
			want := 0
			if i < k {
				want = -1
			}
			if i > k {
				want = 1
			}
			if compared(t, a, b) != want {
				t.Error(a, b)
			}
		}
	}
}

// P5.4: sums keep the order, and products with positive fractions do; negative ones turn it around.
func TestOrderIsKept(t *testing.T) {
	for _, a := range small() {
		for _, b := range small() {
			order := compared(t, a, b)
			for _, c := range small() {
				if compared(t, added(t, a, c), added(t, b, c)) != order {
					t.Error("sum", a, b, c)
				}
				if compared(t, multiplied(t, a, c), multiplied(t, b, c)) != order*compared(t, c, of(0, 1)) {
					t.Error("product", a, b, c)
				}
			}
		}
	}
}

// weighted returns random values and weights, of which at least one is not 0.
func weighted(random *rand.Rand) (values, weights []int) {
	for range 1 + random.Intn(8) {
		values = append(values, random.Intn(2001)-1000)
		weights = append(weights, random.Intn(4)*random.Intn(100))
	}
	weights[random.Intn(len(weights))] = 1 + random.Intn(100)
	return values, weights
}

func meanOf(t *testing.T, values, weights []int) api.Ratio {
	t.Helper()
	r, e := ratio.Mean(values, weights)
	if e != api.OK {
		t.Fatal(values, weights, e)
	}
	return r
}

// P5.4: a mean lies between the least and the greatest value whose weight is not 0.
func TestMeanBetween(t *testing.T) {
	random := rand.New(rand.NewSource(6))
	for range 3000 {
		values, weights := weighted(random)
		var counted []int
		for i, value := range values {
			if weights[i] > 0 {
				counted = append(counted, value)
			}
		}
		r := meanOf(t, values, weights)
		if compared(t, of(slices.Min(counted), 1), r) > 0 || compared(t, r, of(slices.Max(counted), 1)) > 0 {
			t.Error(values, weights, r)
		}
	}
}

// P5.4: a mean does not change if all weights are multiplied by one positive number.
func TestMeanOfMultiples(t *testing.T) {
	random := rand.New(rand.NewSource(7))
	for range 3000 {
		values, weights := weighted(random)
		r := meanOf(t, values, weights)
		for _, by := range []int{2, 3, 7, 64, 1 << 10, 1 << 11, 3000} {
			multiples := slices.Clone(weights)
			for i := range multiples {
				multiples[i] *= by
			}
			if meanOf(t, values, multiples) != r {
				t.Error(values, weights, by)
			}
		}
	}
}
