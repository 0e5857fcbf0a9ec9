package ratio_test

import (
	"math"
	"math/rand"
	"testing"

	"sizar/api"
	"sizar/ratio"
)

// P5.1: the examples of the chapter, and quotients at the borders.
func TestNewExamples(t *testing.T) {
	for _, x := range []struct {
		num, den int
		want     api.Ratio
		e        api.Errno
	}{
		{6, -4, of(-3, 2), api.OK},
		{1, 0, api.Ratio{}, api.ErrArg},
		{2147483648, 2, of(1073741824, 1), api.OK},
		{2147483649, 2, api.Ratio{}, api.ErrLimit},
		{0, 1, of(0, 1), api.OK},
		{0, math.MinInt, of(0, 1), api.OK},
		{0, math.MaxInt, of(0, 1), api.OK},
		{2, 1 << 31, of(1, 1<<30), api.OK},
		{2, 1<<31 + 1, api.Ratio{}, api.ErrLimit},
		{2, 1<<31 + 2, api.Ratio{}, api.ErrLimit},
		{-2147483648, 2, of(-1073741824, 1), api.OK},
		{-2147483649, 2, api.Ratio{}, api.ErrLimit},
		{-2147483650, 2, api.Ratio{}, api.ErrLimit},
		{2147483648, -2, of(-1073741824, 1), api.OK},
		{-1, -1073741824, of(1, 1073741824), api.OK},
		{math.MinInt, math.MinInt, of(1, 1), api.OK},
		{math.MaxInt, math.MaxInt, of(1, 1), api.OK},
		{math.MinInt, 1 << 33, of(-1<<30, 1), api.OK},
		{math.MinInt, -1 << 33, of(1<<30, 1), api.OK},
		{math.MinInt, 1 << 32, api.Ratio{}, api.ErrLimit},
		{1 << 33, math.MinInt, of(-1, 1<<30), api.OK},
		{math.MinInt, math.MaxInt, api.Ratio{}, api.ErrLimit},
		{math.MinInt, -1, api.Ratio{}, api.ErrLimit},
		{1 << 31, 1 << 31, of(1, 1), api.OK},
	} {
		if r, e := ratio.New(x.num, x.den); r != x.want || e != x.e {
			t.Error(x, r, e)
		}
	}
}

// P5.1: no fraction has the denominator 0, whatever its numerator is.
func TestNewRefusesZero(t *testing.T) {
	for _, num := range integers() {
		if r, e := ratio.New(num, 0); r != (api.Ratio{}) || e != api.ErrArg {
			t.Error(num, r, e)
		}
	}
}

func expectNew(t *testing.T, num, den int) {
	t.Helper()
	want, e := fitting(rat(num, den))
	if r, f := ratio.New(num, den); r != want || f != e {
		t.Error(num, den, r, f)
	}
}

// P5.1: New of numbers at all borders, in all signs.
func TestNewAtBorders(t *testing.T) {
	for _, num := range integers() {
		for _, den := range integers() {
			if den != 0 {
				expectNew(t, num, den)
			}
		}
	}
}

// P5.1: New of little numbers, and of random ones of all sizes with common divisors.
func TestNewOfMany(t *testing.T) {
	for num := -40; num <= 40; num++ {
		for den := -40; den <= 40; den++ {
			if den != 0 {
				expectNew(t, num, den)
			}
		}
	}
	random := rand.New(rand.NewSource(1))
	for range 20000 {
		divisor := 1 + random.Intn(1<<31)
		num := random.Intn(1<<random.Intn(32)) - random.Intn(1<<random.Intn(32))
		expectNew(t, num*divisor, divisor*(1+random.Intn(1<<random.Intn(32))))
		expectNew(t, -num, -1-random.Intn(1<<random.Intn(32)))
		expectNew(t, int(random.Uint64()), int(random.Uint64()|1))
	}
}

// P5.1: the divisor is found for numbers with which Euclid's algorithm takes the most steps.
func TestNewOfFibonacci(t *testing.T) {
	a, b := 1, 1
	for b > 0 {
		expectNew(t, a, b)
		expectNew(t, -b, a)
		if b < 1<<31 {
			expectNew(t, a<<31, b<<31)
		}
		a, b = b, a+b
	}
}

// P5.1: Check accepts valid fractions and nothing else.
func TestCheck(t *testing.T) {
	for _, r := range fractions(2000) {
		if e := ratio.Check(r); e != api.OK {
			t.Error(r, e)
		}
	}
	for _, r := range invalid() {
		if e := ratio.Check(r); e != api.ErrRatio {
			t.Error(r, e)
		}
	}
}

func expectCheck(t *testing.T, r api.Ratio) {
	t.Helper()
	want := api.ErrRatio
	if isValid(r) {
		want = api.OK
	}
	if e := ratio.Check(r); e != want {
		t.Error(r, e)
	}
}

// P5.1: Check of all pairs of numbers at the borders, and of little ones.
func TestCheckAtBorders(t *testing.T) {
	for _, num := range integers() {
		for _, den := range integers() {
			expectCheck(t, of(num, den))
		}
	}
	for num := -40; num <= 40; num++ {
		for den := -40; den <= 40; den++ {
			expectCheck(t, of(num, den))
		}
	}
}
