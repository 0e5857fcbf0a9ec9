package stamps

import (
	"cmp"
	"iter"
	"slices"

	"sizar/api"
)

// perTime is by how much a time of knowledge grows with a Lamport time: there is room for every campus in between.
const perTime = 8

func within(n, least, most int) bool {
	return least <= n && n <= most
}

// inTurn compares pairs of numbers: the first pair that differs decides.
func inTurn(pairs ...[2]int) int {
	for _, p := range pairs {
		if n := cmp.Compare(p[0], p[1]); n != 0 {
			return n
		}
	}
	return 0
}

// ordered reports whether a list of stamps is valid.
func ordered(l []api.Stamp) bool {
	for i, s := range l {
		if Check(s) != api.OK || i > 0 && Compare(l[i-1], s) >= 0 {
			return false
		}
	}
	return true
}

// either yields the stamps that are in one of two valid lists, in their order, each of them once.
func either(a, b []api.Stamp) iter.Seq[api.Stamp] {
	return func(yield func(api.Stamp) bool) {
		i, k := 0, 0
		for i < len(a) && k < len(b) {
			fromA, fromB := a[i], b[k]
			least := fromA
			if Compare(fromB, fromA) < 0 {
				least = fromB
			}
			if !yield(least) {
				return
			}
			// A stamp that is in both lists is passed in both, so that it is not yielded again.
			if fromA == least {
				i++
			}
			if fromB == least {
				k++
			}
		}
		for _, s := range slices.Concat(a[i:], b[k:]) {
			if !yield(s) {
				return
			}
		}
	}
}
