package ratio_test

import (
	"math"
	"math/rand"
	"slices"
	"testing"

	"sizar/api"
	"sizar/ratio"
)

func expectMean(t *testing.T, values, weights []int) {
	t.Helper()
	want, e := mean(values, weights)
	if r, f := ratio.Mean(values, weights); r != want || f != e {
		t.Error(len(values), len(weights), r, f, "instead of", want, e)
	}
}

// repeated returns a list of n times a number, with some first ones instead.
func repeated(n, number int, first ...int) []int {
	return append(first, slices.Repeat([]int{number}, n-len(first))...)
}

// P5.3: the examples of the chapter, and means at the borders.
func TestMeanExamples(t *testing.T) {
	for _, x := range []struct {
		values, weights []int
		want            api.Ratio
		e               api.Errno
	}{
		{nil, nil, of(0, 1), api.OK},
		{[]int{1, 4}, []int{2, 1}, of(2, 1), api.OK},
		{[]int{5}, []int{3}, of(5, 1), api.OK},
		{[]int{5, 6, 7}, []int{0, 0, 0}, of(0, 1), api.OK},
		{[]int{5, 6, 7}, []int{0, 1, 0}, of(6, 1), api.OK},
		{[]int{1, 2}, []int{1, 2}, of(5, 3), api.OK},
		{[]int{-1, 1}, []int{3, 3}, of(0, 1), api.OK},
		{[]int{-1, 0}, []int{1, 1}, of(-1, 2), api.OK},
		{[]int{mostWeighted, -mostWeighted}, []int{mostWeighted, mostWeighted}, of(0, 1), api.OK},
		{[]int{mostWeighted, -mostWeighted}, []int{mostWeighted, 0}, of(mostWeighted, 1), api.OK},
		{[]int{mostWeighted, -mostWeighted}, []int{0, mostWeighted}, of(-mostWeighted, 1), api.OK},
		{[]int{1, 0}, []int{mostWeighted, mostWeighted}, of(1, 2), api.OK},
	} {
		if r, e := ratio.Mean(x.values, x.weights); r != x.want || e != x.e {
			t.Error(x, r, e)
		}
	}
}

// P5.3: whether a mean fits is decided by the quotient in lowest terms.
func TestMeanLimits(t *testing.T) {
	full := repeated(1<<10, mostWeighted)
	for _, x := range []struct {
		values, weights []int
		want            api.Ratio
		e               api.Errno
	}{
		{repeated(1025, 0, 1), append([]int{1, mostWeighted - 1}, full[1:]...), of(1, most), api.OK},
		{repeated(1025, 0, -1), append([]int{1, mostWeighted - 1}, full[1:]...), of(-1, most), api.OK},
		{repeated(1025, 0, 1), append([]int{1}, full...), api.Ratio{}, api.ErrLimit},
		{repeated(1025, 0, -1), append([]int{1}, full...), api.Ratio{}, api.ErrLimit},
		{repeated(1025, 0, 1), append([]int{mostWeighted}, full...), of(1, 1025), api.OK},
		{[]int{mostWeighted, mostWeighted - 1}, []int{1<<10 - 1, 1}, of(most-1, 1<<10), api.OK},
		{[]int{-mostWeighted, 1 - mostWeighted}, []int{1<<10 - 1, 1}, of(1-most, 1<<10), api.OK},
		{[]int{mostWeighted, mostWeighted - 1}, []int{1<<10 + 1, 1}, api.Ratio{}, api.ErrLimit},
		{[]int{-mostWeighted, 1 - mostWeighted}, []int{1<<10 + 1, 1}, api.Ratio{}, api.ErrLimit},
		{[]int{mostWeighted, 0}, []int{1 << 10, 1}, of(most, 1025), api.OK},
		{[]int{mostWeighted, 1}, []int{1 << 10, 1}, of((most+1)/1025, 1), api.OK},
		{[]int{mostWeighted, 2}, []int{1 << 10, 1}, api.Ratio{}, api.ErrLimit},
	} {
		expectMean(t, x.values, x.weights)
		if r, e := ratio.Mean(x.values, x.weights); r != x.want || e != x.e {
			t.Error(len(x.values), r, e, "instead of", x.want, x.e)
		}
	}
}

// P5.3: there are as many weights as values.
func TestMeanRefusesLengths(t *testing.T) {
	for n := range 5 {
		for m := range 5 {
			for _, number := range []int{0, 1, mostWeighted} {
				expectMean(t, repeated(n, number), repeated(m, number))
			}
		}
	}
	for _, n := range []int{mostWeighted, mostWeighted + 1, mostWeighted + 2} {
		expectMean(t, repeated(n, 1), repeated(mostWeighted+1, 1))
		expectMean(t, nil, repeated(n, 1))
		expectMean(t, repeated(n, 1), nil)
	}
}

// P5.3: a value or a weight that is out of its range is found wherever it stands, also if its weight is 0 and if all weights are.
func TestMeanRefusesRanges(t *testing.T) {
	values := []int{mostWeighted + 1, -mostWeighted - 1, math.MaxInt, math.MinInt, math.MinInt + 1, 1 << 32}
	weights := []int{-1, mostWeighted + 1, -mostWeighted, math.MaxInt, math.MinInt, 1 << 32, -1 << 62}
	for n := 1; n <= 4; n++ {
		for i := range n {
			for _, weight := range []int{0, 1, mostWeighted} {
				for _, wrong := range values {
					l := repeated(n, 3)
					l[i] = wrong
					if r, e := ratio.Mean(l, repeated(n, weight)); r != (api.Ratio{}) || e != api.ErrArg {
						t.Error("value", l, weight, r, e)
					}
				}
				for _, wrong := range weights {
					l := repeated(n, weight)
					l[i] = wrong
					if r, e := ratio.Mean(repeated(n, 3), l); r != (api.Ratio{}) || e != api.ErrArg {
						t.Error("weight", l, weight, r, e)
					}
				}
			}
		}
	}
}

// P5.3 and R1: ErrArg comes before ErrLimit, also for the last of too many values, and ErrLimit comes before the mean of weights that are all 0.
func TestMeanOrderOfErrors(t *testing.T) {
	for _, n := range []int{mostWeighted, mostWeighted + 1, mostWeighted + 2} {
		for _, weight := range []int{0, 1} {
			expectMean(t, repeated(n, 1), repeated(n, weight))
			for _, i := range []int{0, 1, n - 2, n - 1} {
				values, weights := repeated(n, 1), repeated(n, weight)
				values[i] = mostWeighted + 1
				expectMean(t, values, weights)
				values[i], weights[i] = 1, -1
				expectMean(t, values, weights)
			}
		}
	}
	if r, e := ratio.Mean(repeated(mostWeighted+1, 1), repeated(mostWeighted+1, 1)); r != (api.Ratio{}) || e != api.ErrLimit {
		t.Error(r, e)
	}
}

// P5.3: the greatest sums, which have more than 60 bits.
func TestMeanOfGreatSums(t *testing.T) {
	full := repeated(mostWeighted, mostWeighted)
	for _, x := range [][]int{full, repeated(mostWeighted, -mostWeighted), repeated(mostWeighted, 0, 1), repeated(mostWeighted, 0, mostWeighted), repeated(mostWeighted, mostWeighted, 0), repeated(mostWeighted, 1)} {
		expectMean(t, x, full)
		expectMean(t, x, repeated(mostWeighted, 1))
		expectMean(t, x, repeated(mostWeighted, 0, 1))
	}
	if r, e := ratio.Mean(full, full); r != of(mostWeighted, 1) || e != api.OK {
		t.Error(r, e)
	}
}

// P5.3: means of random values and weights of all sizes.
func TestMean(t *testing.T) {
	random := rand.New(rand.NewSource(2))
	for range 20000 {
		n := random.Intn(20)
		values, weights := make([]int, n), make([]int, n)
		limit := 1 + random.Intn(1<<random.Intn(21))
		for i := range n {
			values[i] = random.Intn(limit+1) - random.Intn(limit+1)
			weights[i] = random.Intn(1 + random.Intn(limit))
		}
		expectMean(t, values, weights)
	}
}

// P5.3 and R2, R3: neither list is changed, nor the memory behind it, equal calls have equal results, and nil is like an empty list.
func TestMeanIsPure(t *testing.T) {
	values, weights := []int{3, -5, 8, 900, 901}, []int{2, 1, 4, 902, 903}
	v, w := slices.Clone(values), slices.Clone(weights)
	for n := range 4 {
		r, e := ratio.Mean(values[:n], weights[:n])
		s, f := ratio.Mean(values[:n], weights[:n])
		if r != s || e != f || !slices.Equal(values, v) || !slices.Equal(weights, w) {
			t.Error(n, r, s, values, weights)
		}
	}
	for _, x := range [][2][]int{{nil, {}}, {{}, nil}, {{}, {}}} {
		if r, e := ratio.Mean(x[0], x[1]); r != of(0, 1) || e != api.OK {
			t.Error(r, e)
		}
	}
	if r, e := ratio.Mean(values, values); r != (api.Ratio{}) || e != api.ErrArg {
		t.Error("a value is no weight", r, e)
	}
	expectMean(t, weights, weights)
}
