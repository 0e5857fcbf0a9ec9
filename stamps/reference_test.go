package stamps_test

import (
	"math"
	"math/rand"
	"slices"
	"sort"

	"sizar/api"
)

// What follows is the chapter's definitions, without package stamps.

const (
	mostTime   = 1048576
	mostCampus = 6
	mostNo     = 1048576
	mostKnown  = 8388614
)

func stamp(time, campus, no int) api.Stamp {
	return api.Stamp{Time: time, Campus: campus, No: no}
}

func isValid(s api.Stamp) bool {
	return s.Time >= 1 && s.Time <= mostTime && s.Campus >= 0 && s.Campus <= mostCampus && s.No >= 1 && s.No <= mostNo
}

func isBefore(a, b api.Stamp) bool {
	if a.Time != b.Time {
		return a.Time < b.Time
	}
	if a.Campus != b.Campus {
		return a.Campus < b.Campus
	}
	return a.No < b.No
}

func compared(a, b api.Stamp) int {
	switch {
	case isBefore(a, b):
		return -1
	case a == b:
		return 0
	}
	return 1
}

func isList(l []api.Stamp) bool {
	for i, s := range l {
		if !isValid(s) || i > 0 && !isBefore(l[i-1], s) {
			return false
		}
	}
	return true
}

// list returns the valid list of some stamps in any order, of which some may be there more than once.
func list(l ...api.Stamp) []api.Stamp {
	in := map[api.Stamp]bool{}
	for _, s := range l {
		in[s] = true
	}
	var x []api.Stamp
	for s := range in {
		x = append(x, s)
	}
	sort.Slice(x, func(i, k int) bool { return isBefore(x[i], x[k]) })
	return x
}

// numbers returns what is at a border of what is valid, and what is far from all of them.
func numbers() []int {
	return []int{math.MinInt, math.MinInt + 1, -1 << 32, -8, -1, 0, 1, 2, 5, 6, 7, 8, 1<<20 - 1, 1 << 20, 1<<20 + 1, 1<<32 + 1, math.MaxInt - 1, math.MaxInt}
}

// all returns the stamps with these numbers in every place.
func all(numbers ...int) []api.Stamp {
	var l []api.Stamp
	for _, time := range numbers {
		for _, campus := range numbers {
			for _, no := range numbers {
				l = append(l, stamp(time, campus, no))
			}
		}
	}
	return l
}

// random returns a valid stamp, near the least ones or anywhere.
func random(source *rand.Rand) api.Stamp {
	most := []int{2, 5, mostTime}[source.Intn(3)]
	return stamp(1+source.Intn(most), source.Intn(mostCampus+1), 1+source.Intn(most))
}

// lists returns valid lists: short ones, in which the same stamps come up often, and longer ones.
func lists(n int, seed int64) [][]api.Stamp {
	source := rand.New(rand.NewSource(seed))
	few := all(1, 2, 3)
	var l [][]api.Stamp
	for range n {
		var some []api.Stamp
		for range source.Intn(1 + 1<<source.Intn(6)) {
			s := few[source.Intn(len(few))]
			if source.Intn(4) == 0 {
				s = random(source)
			}
			some = append(some, s)
		}
		l = append(l, list(some...))
	}
	return append(l, nil, []api.Stamp{})
}

// subsets returns the valid lists of all sets of some stamps.
func subsets(of ...api.Stamp) [][]api.Stamp {
	var l [][]api.Stamp
	for mask := range 1 << len(of) {
		var some []api.Stamp
		for i, s := range of {
			if mask>>i&1 == 1 {
				some = append(some, s)
			}
		}
		l = append(l, list(some...))
	}
	return l
}

// invalid returns lists that are not valid, each for another reason.
func invalid() [][]api.Stamp {
	a, b, c := stamp(1, 0, 1), stamp(1, 1, 1), stamp(2, 0, 2)
	l := [][]api.Stamp{
		{{}}, {a, {}}, {{}, a}, {a, a}, {a, b, b}, {a, a, b}, {b, a}, {c, b}, {c, a}, {a, c, b}, {b, a, c}, {c, b, a}, {a, b, c, a}, {a, c, c},
		{stamp(3, 0, 2), stamp(3, 0, 1)}, {stamp(3, 2, 1), stamp(3, 1, 9)}, {stamp(4, 0, 1), stamp(3, 6, 9)},
	}
	for _, n := range []int{math.MinInt, -1, 0, 1<<20 + 1, math.MaxInt} {
		l = append(l, []api.Stamp{stamp(n, 0, 1)}, []api.Stamp{stamp(1, 0, n)}, list(a, stamp(n, 0, 2)), list(a, b, stamp(1, 0, n)))
	}
	for _, n := range []int{math.MinInt, -1, 7, math.MaxInt} {
		l = append(l, []api.Stamp{stamp(1, n, 1)}, list(a, stamp(1, n, 1), c))
	}
	return slices.Clip(l)
}
