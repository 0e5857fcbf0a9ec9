package group

import (
	"iter"
	"math/bits"

	"sizar/api"
)

func areScalars(l ...int) bool {
	for _, k := range l {
		if k < 0 || k >= api.Q {
			return false
		}
	}
	return true
}

// product returns the product modulo m of numbers from 0 to m - 1. It has more than 64 bits before it is reduced.
func product(a, b, m int) int {
	high, low := bits.Mul64(uint64(a), uint64(b))
	return int(bits.Rem64(high, low, uint64(m)))
}

// power returns a to the power k modulo P, for a from 0 to P - 1 and k >= 0. Check needs it for k = Q, which is no scalar.
func power(a, k int) int {
	c := 1
	for bit := range binary(k) {
		c = product(c, c, api.P)
		if bit {
			c = product(c, a, api.P)
		}
	}
	return c
}

// binary yields the bits of k >= 0, the most significant one first; none for 0.
func binary(k int) iter.Seq[bool] {
	return func(yield func(bool) bool) {
		for i := bits.Len(uint(k)) - 1; i >= 0; i-- {
			if !yield(k>>i&1 == 1) {
				return
			}
		}
	}
}
