package digest_test

import (
	"testing"

	"sizar/api"
	"sizar/digest"
)

// P2.3: the end of the chain stands before the new element.
func TestChain(t *testing.T) {
	var zero api.Digest
	if d := digest.Chain(zero, zero); d != digest.Tagged("chain", make([]byte, 64)) {
		t.Errorf("%x", d)
	}
	l := append(list(20), zero)
	for i, a := range l {
		for k, b := range l {
			if d := digest.Chain(a, b); d != chain(a, b) {
				t.Errorf("%d, %d: %x", i, k, d)
			}
			if i != k && digest.Chain(a, b) == digest.Chain(b, a) {
				t.Error("the order does not count", i, k)
			}
		}
	}
}

// P2.3: the chain of a list is that of the list without its last element, and this element.
func TestChainOfList(t *testing.T) {
	l := list(9)
	for n := range l {
		before, want := api.Digest{1}, api.Digest{1}
		for _, d := range l[:n] {
			before = digest.Chain(before, d)
		}
		for _, d := range l[:n+1] {
			want = chain(want, d)
		}
		if digest.Chain(before, l[n]) != want {
			t.Error(n)
		}
	}
}
