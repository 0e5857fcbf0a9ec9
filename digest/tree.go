package digest

import (
	"math/bits"

	"sizar/api"
)

// longestList is the greatest number of elements for which Climb accepts a path.
const longestList = 1 << 40

func leaf(d api.Digest) api.Digest {
	return Tagged("leaf", d[:])
}

func node(first, others api.Digest) api.Digest {
	return pair("node", first, others)
}

func pair(tag string, a, b api.Digest) api.Digest {
	return Tagged(tag, append(a[:], b[:]...))
}

// firstPart returns the greatest power of 2 less than n, for n > 1. The length of n - 1, not of n, is counted, since n may be a power of 2 itself.
func firstPart(n int) int {
	return 1 << (bits.Len(uint(n-1)) - 1)
}

// pathTo ends with the digest that is nearest to the root, so the path within the part that has the element comes first.
func pathTo(l []api.Digest, at int) []api.Digest {
	if len(l) == 1 {
		return nil
	}
	k := firstPart(len(l))
	if at < k {
		return append(pathTo(l[:k], at), Tree(l[k:]))
	}
	return append(pathTo(l[k:], at-k), Tree(l[:k]))
}

// pathLength follows the parts that have the element without their digests: a list of n elements need not exist.
func pathLength(at, n int) (length int) {
	for n > 1 {
		k := firstPart(n)
		if at < k {
			n = k
		} else {
			at, n = at-k, n-k
		}
		length++
	}
	return length
}

// climb expects that path has the right length.
func climb(d api.Digest, at, n int, path []api.Digest) api.Digest {
	if n == 1 {
		return leaf(d)
	}
	k, last := firstPart(n), len(path)-1
	if at < k {
		return node(climb(d, at, k, path[:last]), path[last])
	}
	return node(path[last], climb(d, at-k, n-k, path[:last]))
}
