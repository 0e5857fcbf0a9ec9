package ratio

import "sizar/api"

// size returns the absolute value of a number. That of the least number is no int.
func size(n int) uint64 {
	if n < 0 {
		return -uint64(n)
	}
	return uint64(n)
}

// common returns the greatest common divisor of two numbers that are not both 0.
func common(a, b uint64) uint64 {
	var divisor func(a, b uint64) uint64
	divisor = func(a, b uint64) uint64 {
		if b == 0 {
			return a
		}
		return divisor(b, a%b)
	}
	return divisor(a, b)
}

// combine returns what a function makes of two fractions. It calls the function only if both are valid, so that its products do not overflow.
func combine[T any](a, b api.Ratio, result func() (T, api.Errno)) (c T, e api.Errno) {
	for _, r := range [...]api.Ratio{a, b} {
		if e := Check(r); e != api.OK {
			return c, e
		}
	}
	return result()
}
