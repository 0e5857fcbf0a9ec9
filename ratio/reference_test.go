package ratio_test

import (
	"math"
	"math/big"
	"math/rand"
	"slices"
	"testing"

	"sizar/api"
	"sizar/ratio"
)

// What follows is the chapter's definitions over Go's library, without package ratio.

const (
	most         = 1 << 30
	mostWeighted = 1 << 20
)

func of(num, den int) api.Ratio { return api.Ratio{Num: num, Den: den} }

func rat(num, den int) *big.Rat { return big.NewRat(int64(num), int64(den)) }

func exact(r api.Ratio) *big.Rat { return rat(r.Num, r.Den) }

// fitting returns the valid fraction of a rational number, as New is to return it.
func fitting(x *big.Rat) (api.Ratio, api.Errno) {
	limit := big.NewInt(most)
	if x.Num().CmpAbs(limit) > 0 || x.Denom().Cmp(limit) > 0 {
		return api.Ratio{}, api.ErrLimit
	}
	return of(int(x.Num().Int64()), int(x.Denom().Int64())), api.OK
}

func isValid(r api.Ratio) bool {
	if r.Den < 1 || r.Den > most || r.Num < -most || r.Num > most {
		return false
	}
	return new(big.Int).GCD(nil, nil, new(big.Int).Abs(big.NewInt(int64(r.Num))), big.NewInt(int64(r.Den))).Cmp(big.NewInt(1)) == 0
}

// mean is the definition of Mean.
func mean(values, weights []int) (api.Ratio, api.Errno) {
	if len(values) != len(weights) {
		return api.Ratio{}, api.ErrArg
	}
	for i, value := range values {
		if value < -mostWeighted || value > mostWeighted || weights[i] < 0 || weights[i] > mostWeighted {
			return api.Ratio{}, api.ErrArg
		}
	}
	if len(values) > mostWeighted {
		return api.Ratio{}, api.ErrLimit
	}
	sum, all := new(big.Int), new(big.Int)
	for i, value := range values {
		weight := big.NewInt(int64(weights[i]))
		all.Add(all, weight)
		sum.Add(sum, weight.Mul(weight, big.NewInt(int64(value))))
	}
	if all.Sign() == 0 {
		return of(0, 1), api.OK
	}
	return fitting(new(big.Rat).SetFrac(sum, all))
}

// integers returns numbers at the borders of fractions and of integers, with their negatives.
func integers() []int {
	l := []int{0, math.MinInt, math.MinInt + 1, math.MaxInt, math.MaxInt - 1}
	for _, n := range []int{1, 2, 3, 4, 6, 7, 12, 30, 97, 1000, 1 << 15, 46341, 1<<29 - 3, 1 << 29, most - 35, most - 3, most - 2, most - 1, most, most + 1, 1<<31 - 1, 1 << 31, 1<<31 + 1, 3 << 30, 1 << 32, 6 << 32, 1 << 60, 3 << 61, 1 << 62, 1<<62 + 1} {
		l = append(l, n, -n)
	}
	return l
}

// fractions returns valid fractions: those of the border numbers, of which neighbours differ by less than floats do, and n random ones with numerators and denominators of all sizes.
func fractions(n int) []api.Ratio {
	l := []api.Ratio{of(0, 1)}
	for _, num := range integers() {
		for _, den := range []int{1, 2, 3, 97, 1 << 15, most - 3, most - 2, most - 1, most} {
			if r := of(num, den); isValid(r) {
				l = append(l, r)
			}
		}
	}
	random := rand.New(rand.NewSource(5))
	for range n {
		x := rat(random.Intn(2<<random.Intn(30))-random.Intn(2<<random.Intn(30)), 1+random.Intn(1<<random.Intn(31)))
		if r, e := fitting(x); e == api.OK {
			l = append(l, r)
		}
	}
	slices.SortFunc(l, func(a, b api.Ratio) int { return exact(a).Cmp(exact(b)) })
	return slices.Compact(l)
}

// small returns all fractions with little numerators and denominators.
func small() []api.Ratio {
	var l []api.Ratio
	for num := -6; num <= 6; num++ {
		for den := 1; den <= 6; den++ {
			if r := of(num, den); isValid(r) {
				l = append(l, r)
			}
		}
	}
	return l
}

// invalid returns fractions that are not valid, each for another reason.
func invalid() []api.Ratio {
	return []api.Ratio{
		{}, of(1, 0), of(-1, 0), of(0, 2), of(0, -1), of(0, most), of(1, -2), of(-1, -2), of(2, 4), of(-2, 4), of(2, 2), of(6, 3), of(most, 2), of(most, most), of(3, most-1),
		of(most+1, 1), of(-most-1, 1), of(1, most+1), of(-1, most+1), of(1, 1<<31), of(1<<31, 1), of(2*most, 2), of(2*most+2, 2),
		of(math.MinInt, 1), of(math.MaxInt, 1), of(1, math.MaxInt), of(1, math.MinInt), of(math.MinInt, math.MinInt), of(math.MaxInt, math.MaxInt), of(math.MinInt, 0), of(0, math.MinInt), of(math.MinInt, -1),
	}
}

func added(t *testing.T, a, b api.Ratio) api.Ratio {
	t.Helper()
	return without(t, a, b, ratio.Add)
}

func multiplied(t *testing.T, a, b api.Ratio) api.Ratio {
	t.Helper()
	return without(t, a, b, ratio.Mul)
}

func without(t *testing.T, a, b api.Ratio, operation func(a, b api.Ratio) (api.Ratio, api.Errno)) api.Ratio {
	t.Helper()
	r, e := operation(a, b)
	if e != api.OK {
		t.Fatal(a, b, e)
	}
	return r
}

func compared(t *testing.T, a, b api.Ratio) int {
	t.Helper()
	n, e := ratio.Compare(a, b)
	if e != api.OK {
		t.Fatal(a, b, e)
	}
	return n
}
