package ratio

import (
	"iter"

	"sizar/api"
)

// mostWeighted is the limit of values, of weights, and of how many there are. Sums of that many products have less than 63 bits.
const mostWeighted = 1 << 20

// checkWeighted looks at all values and weights before it counts them, since ErrArg comes before ErrLimit.
func checkWeighted(values, weights []int) api.Errno {
	if len(values) != len(weights) {
		return api.ErrArg
	}
	for value, weight := range pairs(values, weights) {
		if size(value) > mostWeighted || weight < 0 || weight > mostWeighted {
			return api.ErrArg
		}
	}
	if len(values) > mostWeighted {
		return api.ErrLimit
	}
	return api.OK
}

// pairs yields each value with its weight, for as many weights as values.
func pairs(values, weights []int) iter.Seq2[int, int] {
	return func(yield func(int, int) bool) {
		for i, value := range values {
			if !yield(value, weights[i]) {
				return
			}
		}
	}
}
