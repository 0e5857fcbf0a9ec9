package group_test

import (
	"math"
	"math/big"
	"math/rand"
	"testing"

	"sizar/api"
)

// modulo returns what op makes of a and b, calculated with numbers of any size; op is a method of them.
func modulo(m int, op func(z, a, b *big.Int) *big.Int, a, b int) int {
	z := op(new(big.Int), big.NewInt(int64(a)), big.NewInt(int64(b)))
	return int(z.Mod(z, big.NewInt(int64(m))).Int64())
}

func power(a, k int) int {
	return int(new(big.Int).Exp(big.NewInt(int64(a)), big.NewInt(int64(k)), big.NewInt(api.P)).Int64())
}

// isElement asks for Jacobi's symbol, which is that of squares since P is a prime, and not for a power as the chapter does.
func isElement(a int) bool {
	return 1 <= a && a < api.P && big.Jacobi(big.NewInt(int64(a)), big.NewInt(api.P)) == 1
}

// elements returns elements at the borders, and squares of random numbers.
func elements(n int) []int {
	l := []int{1, 4, 9, 16, 1 << 60, 1<<62 - api.P, (api.P + 1) / 4, api.P - 2, api.P - 8, api.P - 32}
	r := rand.New(rand.NewSource(1))
	for range n {
		x := 1 + r.Intn(api.P-1)
		l = append(l, modulo(api.P, (*big.Int).Mul, x, x))
	}
	return l
}

// noElements returns numbers that are no elements. Some of them are elements plus or minus a multiple of P.
func noElements() []int {
	l := []int{
		0, 2, 8, 32, api.P - 1, api.P - 4, api.P - 16, (api.P + 1) / 2,
		api.P, api.P + 1, api.P + 4, 2*api.P - 2, 2 * api.P, 2*api.P + 1, 2*api.P + 4, 1 << 62, math.MaxInt - 1, math.MaxInt,
		-1, -2, -4, 1 - api.P, 4 - api.P, -api.P, -api.P - 2, 1 - 2*api.P, 4 - 2*api.P, math.MinInt + 1, math.MinInt,
	}
	for _, a := range elements(20) {
		l = append(l, api.P-a, a-api.P, a+api.P, -a)
	}
	return l
}

// scalars returns scalars at the borders, and random ones.
func scalars(n int) []int {
	l := []int{0, 1, 2, 3, 1<<31 - 1, 1 << 32, 1<<60 - 1, 1 << 60, api.Q / 2, api.Q/2 + 1, api.Q - 3, api.Q - 2, api.Q - 1}
	r := rand.New(rand.NewSource(2))
	for range n {
		l = append(l, r.Intn(api.Q))
	}
	return l
}

// noScalars returns numbers that are no scalars. Some of them are scalars plus or minus a multiple of Q.
func noScalars() []int {
	return []int{
		-1, -2, -3, 1 - api.Q, -api.Q, -api.Q - 1, -api.P, math.MinInt + 1, math.MinInt,
		api.Q, api.Q + 1, api.Q + 3, 1 << 61, api.P - 1, api.P, 3 * api.Q, 4*api.Q - 1, 1 << 62, math.MaxInt - 1, math.MaxInt,
	}
}

// must fails the test if a call that is used in another one has an error.
func must(t *testing.T) func(c int, e api.Errno) int {
	return func(c int, e api.Errno) int {
		t.Helper()
		if e != api.OK {
			t.Fatal("error", e)
		}
		return c
	}
}
