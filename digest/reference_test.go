package digest_test

import (
	"crypto/sha256"
	"encoding/hex"
	"math/rand"
	"slices"
	"testing"

	"sizar/api"
)

// tagged is the chapter's definition over the hash function of Go's library.
func tagged(tag string, parts ...[]byte) api.Digest {
	t := sha256.Sum256([]byte(tag))
	return sha256.Sum256(slices.Concat(append([][]byte{t[:]}, parts...)...))
}

func leaf(d api.Digest) api.Digest { return tagged("leaf", d[:]) }

func node(a, b api.Digest) api.Digest { return tagged("node", a[:], b[:]) }

func chain(a, b api.Digest) api.Digest { return tagged("chain", a[:], b[:]) }

// half looks for the greatest power of 2 less than n one by one.
func half(n int) int {
	k := 1
	for 2*k < n {
		k *= 2
	}
	return k
}

// tree and path pair the neighbours of each level, from the leaves upward, and not by the parts of the list as the chapter does.
func tree(l []api.Digest) api.Digest {
	if len(l) == 0 {
		return tagged("empty")
	}
	level := leaves(l)
	for len(level) > 1 {
		level = above(level)
	}
	return level[0]
}

func path(l []api.Digest, at int) (p []api.Digest) {
	for level := leaves(l); len(level) > 1; level = above(level) {
		if neighbour := at ^ 1; neighbour < len(level) {
			p = append(p, level[neighbour])
		}
		at /= 2
	}
	return p
}

func leaves(l []api.Digest) (level []api.Digest) {
	for _, d := range l {
		level = append(level, leaf(d))
	}
	return level
}

// above leaves the last one of an odd number alone: it rises without a neighbour.
func above(level []api.Digest) (next []api.Digest) {
	for pair := range slices.Chunk(level, 2) {
		if len(pair) == 2 {
			pair = []api.Digest{node(pair[0], pair[1])}
		}
		next = append(next, pair[0])
	}
	return next
}

// climb goes from the leaf to the root, by the bits of the index and of the last index, and not by the parts of the list as the chapter does; ok is false if path has the wrong length.
func climb(d api.Digest, at, n int, path []api.Digest) (root api.Digest, ok bool) {
	last := n - 1
	root = leaf(d)
	for _, p := range path {
		if last == 0 {
			return root, false
		}
		if at%2 == 0 && at < last {
			root = node(root, p)
		} else {
			for at%2 == 0 {
				at, last = at/2, last/2
			}
			root = node(p, root)
		}
		at, last = at/2, last/2
	}
	return root, last == 0
}

// list returns n different digests, which are the same for each call.
func list(n int) []api.Digest {
	r := rand.New(rand.NewSource(1))
	l := make([]api.Digest, n)
	for i := range l {
		r.Read(l[i][:])
	}
	return l
}

func random(n int) []byte {
	b := make([]byte, n)
	rand.New(rand.NewSource(int64(n))).Read(b)
	return b
}

func digestOf(t *testing.T, s string) (d api.Digest) {
	t.Helper()
	if n, err := hex.Decode(d[:], []byte(s)); n != len(d) || err != nil {
		t.Fatal(s, err)
	}
	return d
}
