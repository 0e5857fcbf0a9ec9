package digest_test

import (
	"math"
	"math/bits"
	"slices"
	"testing"

	"sizar/api"
	"sizar/digest"
)

// P2.2: digests of short lists, written out.
func TestShortTrees(t *testing.T) {
	l := list(7)
	two := node(leaf(l[0]), leaf(l[1]))
	four := node(two, node(leaf(l[2]), leaf(l[3])))
	for n, want := range []api.Digest{
		tagged("empty"),
		leaf(l[0]),
		two,
		node(two, leaf(l[2])),
		four,
		node(four, leaf(l[4])),
		node(four, node(leaf(l[4]), leaf(l[5]))),
		node(four, node(node(leaf(l[4]), leaf(l[5])), leaf(l[6]))),
	} {
		if d := digest.Tree(l[:n]); d != want {
			t.Errorf("%d elements: %x", n, d)
		}
	}
}

// P2.2 and R3: an empty list may be nil or not.
func TestEmptyTree(t *testing.T) {
	if digest.Tree(nil) != digest.Tree([]api.Digest{}) || digest.Tree(nil) != digest.Tagged("empty", nil) {
		t.Error("nil and empty")
	}
}

// P2.2: digests and paths of lists of many lengths.
func TestTreesAndPaths(t *testing.T) {
	for _, n := range []int{1, 2, 3, 4, 5, 6, 7, 8, 9, 12, 15, 16, 17, 31, 32, 33, 63, 64, 65, 100, 127, 128, 129} {
		l := list(n)
		if digest.Tree(l) != tree(l) {
			t.Errorf("%d elements", n)
		}
		for at := range l {
			if p, e := digest.Path(l, at); e != api.OK || !slices.Equal(p, path(l, at)) {
				t.Errorf("element %d of %d: %d digests, %d", at, n, len(p), e)
			}
		}
	}
}

// P2.2: paths of short lists, written out.
func TestShortPaths(t *testing.T) {
	l := list(5)
	two, other := node(leaf(l[0]), leaf(l[1])), node(leaf(l[2]), leaf(l[3]))
	for at, want := range [][]api.Digest{
		{leaf(l[1]), other, leaf(l[4])},
		{leaf(l[0]), other, leaf(l[4])},
		{leaf(l[3]), two, leaf(l[4])},
		{leaf(l[2]), two, leaf(l[4])},
		{node(two, other)},
	} {
		if p, e := digest.Path(l, at); e != api.OK || !slices.Equal(p, want) {
			t.Error(at, len(p), e)
		}
	}
	if p, e := digest.Path(l[:1], 0); e != api.OK || len(p) != 0 {
		t.Error("one element", len(p), e)
	}
}

// P2.2: indices that a list does not have.
func TestPathRefuses(t *testing.T) {
	for n := range 10 {
		for _, at := range []int{-1, n, n + 1, math.MinInt, math.MaxInt} {
			if p, e := digest.Path(list(n), at); e != api.ErrArg || len(p) != 0 {
				t.Error(n, at, e)
			}
		}
	}
	if _, e := digest.Path(nil, 0); e != api.ErrArg {
		t.Error("nil", e)
	}
}

// indices returns some indices of a list of n elements: those at its borders, and at those of its parts.
func indices(n int) (l []int) {
	for _, at := range []int{0, 1, 2, n / 3, n/2 - 1, n / 2, half(n) - 1, half(n), half(n) + 1, n - 2, n - 1} {
		if at >= 0 && at < n {
			l = append(l, at)
		}
	}
	return l
}

// P2.2: Climb takes just the paths of one length, for lists that are far too long to exist as for short ones.
func TestClimb(t *testing.T) {
	d, p := list(1)[0], list(43)
	for _, n := range []int{1, 2, 3, 4, 5, 6, 7, 8, 9, 100, 1 << 20, 1<<20 + 1, 1<<31 - 1, 1 << 32, 1<<39 + 1, 1<<40 - 1, 1 << 40} {
		for _, at := range indices(n) {
			taken := 0
			for k := range len(p) + 1 {
				root, e := digest.Climb(d, at, n, p[:k])
				want, ok := climb(d, at, n, p[:k])
				if ok && (e != api.OK || root != want) || !ok && (e != api.ErrArg || root != api.Digest{}) {
					t.Errorf("element %d of %d, %d digests: %x, %d", at, n, k, root, e)
				}
				if ok {
					taken++
				}
			}
			if taken != 1 {
				t.Errorf("element %d of %d: %d lengths", at, n, taken)
			}
		}
	}
}

// P2.2: numbers of elements and indices that Climb refuses, with paths of all lengths.
func TestClimbRefuses(t *testing.T) {
	d, p := list(1)[0], list(64)
	for _, x := range []struct{ at, n int }{
		{0, 0}, {-1, 0}, {0, -1}, {-1, -1}, {-2, -1}, {0, math.MinInt}, {math.MinInt, math.MinInt}, {math.MaxInt, math.MinInt},
		{-1, 1}, {1, 1}, {-1, 2}, {2, 2}, {3, 2}, {5, 5}, {8, 8}, {math.MinInt, 5}, {math.MaxInt, 5}, {-1, 1 << 40}, {1 << 40, 1 << 40},
		{0, 1<<40 + 1}, {1 << 40, 1<<40 + 1}, {0, 1 << 41}, {0, 1 << 62}, {0, math.MaxInt}, {math.MaxInt - 1, math.MaxInt}, {math.MaxInt, math.MaxInt},
	} {
		for k := range len(p) + 1 {
			if root, e := digest.Climb(d, x.at, x.n, p[:k]); e != api.ErrArg || root != (api.Digest{}) {
				t.Errorf("element %d of %d, %d digests: %x, %d", x.at, x.n, k, root, e)
			}
		}
	}
}

// P2.2: the examples of the chapter.
func TestClimbExamples(t *testing.T) {
	d := list(1)[0]
	if _, e := digest.Climb(d, 0, 2, nil); e != api.ErrArg {
		t.Error(e)
	}
	if root, e := digest.Climb(d, 0, 1, nil); e != api.OK || root != digest.Tree([]api.Digest{d}) {
		t.Error(e)
	}
	if root, e := digest.Climb(d, 0, 1, []api.Digest{}); e != api.OK || root != leaf(d) {
		t.Error(e)
	}
}

// P2.2: what is not the element, its index or its path leads elsewhere.
func TestClimbElsewhere(t *testing.T) {
	for n := 1; n <= 17; n++ {
		l := list(n)
		for at, d := range l {
			p, _ := digest.Path(l, at)
			d[31] ^= 1
			if root, e := digest.Climb(d, at, n, p); e != api.OK || root == digest.Tree(l) {
				t.Error("another element", at, n, e)
			}
			for i := range n {
				if root, _ := digest.Climb(l[at], i, n, p); i != at && root == digest.Tree(l) {
					t.Error("another index", at, i, n)
				}
			}
			for k := range p {
				q := slices.Clone(p)
				q[k][0] ^= 128
				if root, e := digest.Climb(l[at], at, n, q); e != api.OK || root == digest.Tree(l) {
					t.Error("another path", at, n, k, e)
				}
			}
		}
	}
}

// P2.2 and R2: neither the list nor the path is changed, nor what stands behind them, nor a path that was returned.
func TestTreeIsPure(t *testing.T) {
	for n := 1; n <= 17; n++ {
		all, paths := list(n+50), list(60)
		beforeAll, beforePaths := slices.Clone(all), slices.Clone(paths)
		l := all[:n]
		want := digest.Tree(l)
		var given, copies [][]api.Digest
		for at := range l {
			p, _ := digest.Path(l, at)
			given, copies = append(given, p), append(copies, slices.Clone(p))
			digest.Climb(l[at], at, n, p)
			digest.Climb(l[at], at, n, paths[:len(p)])
		}
		for i := range given {
			if !slices.Equal(given[i], copies[i]) {
				t.Error("path", i, n)
			}
		}
		if digest.Tree(l) != want || !slices.Equal(all, beforeAll) || !slices.Equal(paths, beforePaths) {
			t.Error(n)
		}
	}
}

// P2.4: an element, its index, the number of elements and its path lead to the digest of the list.
func TestThereAndBack(t *testing.T) {
	long := list(1000)
	for n := 1; n <= len(long); n += 1 + n/20 {
		l := long[:n]
		want := digest.Tree(l)
		for _, at := range append(indices(n), n*2/3) {
			p, e := digest.Path(l, at)
			root, f := digest.Climb(l[at], at, n, p)
			if e != api.OK || f != api.OK || root != want {
				t.Errorf("element %d of %d: %d, %d", at, n, e, f)
			}
			if len(p) > bits.Len(uint(n-1)) {
				t.Errorf("element %d of %d: %d digests", at, n, len(p))
			}
		}
	}
}

// P2.4: no path has more than 40 elements, and there are paths that have as many.
func TestLongestPaths(t *testing.T) {
	d, p := list(1)[0], list(64)
	longest := 0
	for _, n := range []int{1<<39 + 1, 1<<40 - 1, 1 << 40} {
		for _, at := range indices(n) {
			for k := range len(p) + 1 {
				if _, e := digest.Climb(d, at, n, p[:k]); e == api.OK {
					longest = max(longest, k)
				}
			}
		}
	}
	if longest != 40 {
		t.Error(longest)
	}
}

// P2.4: the digest of a list is that of a node of its parts; in particular, an element behind as many elements as a power of 2 says makes a node of the old digest and the new leaf.
func TestParts(t *testing.T) {
	l := list(520)
	for n := 2; n <= len(l); n += 1 + n/30 {
		k := half(n)
		if digest.Tree(l[:n]) != node(digest.Tree(l[:k]), digest.Tree(l[k:n])) {
			t.Error(n)
		}
	}
	for n := 1; n < len(l); n *= 2 {
		if digest.Tree(l[:n+1]) != node(digest.Tree(l[:n]), digest.Tree(l[n:n+1])) {
			t.Error(n)
		}
	}
}
