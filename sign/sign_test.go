package sign_test

import (
	"bytes"
	"slices"
	"testing"

	"sizar/api"
	"sizar/sign"
)

// P4.2: signatures that were calculated elsewhere.
func TestKnownSignatures(t *testing.T) {
	for _, x := range []struct {
		private int
		message string
		want    api.Signature
	}{
		{1, "", api.Signature{R: 1803960003439416986, S: 2157386489950014917}},
		{1, "a", api.Signature{R: 24226182111125412, S: 1045393149118632251}},
		{2, "\x00", api.Signature{R: 3957726362408281565, S: 823959884726656081}},
		{5, "a longer message", api.Signature{R: 2636982237122717558, S: 1762411022482756053}},
		{12345, "", api.Signature{R: 1551020453827657287, S: 2023304677241968979}},
		{api.Q - 1, "a longer message", api.Signature{R: 3173679046591449819, S: 679351679439917526}},
	} {
		if s, e := sign.Sign(x.private, []byte(x.message)); s != x.want || e != api.OK {
			t.Error(x, s, e)
		}
	}
}

// P4.2: signatures of many messages with many private keys.
func TestSign(t *testing.T) {
	for _, private := range privates(30) {
		for _, m := range messages() {
			if s, e := sign.Sign(private, m); s != signature(private, m) || e != api.OK {
				t.Error(private, len(m), s, e)
			}
		}
	}
	if m := randomBytes(1 << 20); signed(t, 7, m) != signature(7, m) {
		t.Error("long message")
	}
}

// P4.2: what is no private key signs nothing, whatever the message is.
func TestSignRefuses(t *testing.T) {
	for _, private := range noPrivates() {
		for _, m := range messages() {
			if s, e := sign.Sign(private, m); s != (api.Signature{}) || e != api.ErrKey {
				t.Error(private, len(m), s, e)
			}
		}
	}
}

// P4.2: different messages, and different private keys, have different nonces.
func TestNoncesDiffer(t *testing.T) {
	found := map[int]bool{}
	for _, private := range privates(30) {
		for _, m := range messages() {
			r := signed(t, private, m).R
			if found[r] {
				t.Error(private, len(m))
			}
			found[r] = true
		}
	}
}

// P4.2, P4.3 and R3: nil is like an empty slice.
func TestNoMessage(t *testing.T) {
	for _, private := range privates(5) {
		s := signed(t, private, nil)
		if s != signed(t, private, []byte{}) || !sign.Verify(public(t, private), nil, s) || !sign.Verify(public(t, private), []byte{}, s) {
			t.Error(private)
		}
	}
}

// P4.2, P4.3 and R2: neither the message nor the memory behind it is changed, and equal calls have equal results.
func TestSignIsPure(t *testing.T) {
	for n := range 130 {
		all := randomBytes(n + 100)
		before := slices.Clone(all)
		s := signed(t, 9, all[:n])
		if s != signed(t, 9, all[:n]) || !sign.Verify(public(t, 9), all[:n], s) || !sign.Verify(public(t, 9), all[:n], s) {
			t.Error("unequal", n)
		}
		if !bytes.Equal(all, before) {
			t.Error("changed", n)
		}
	}
}
