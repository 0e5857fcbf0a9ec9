package sign_test

import (
	"math"
	"math/rand"
	"testing"

	"sizar/api"
	"sizar/sign"
)

// P4.3: the examples of the chapter.
func TestVerifyExamples(t *testing.T) {
	if sign.Verify(0, nil, api.Signature{}) || sign.Verify(api.G, nil, api.Signature{R: api.G, S: api.Q}) {
		t.Error("accepted")
	}
	for _, m := range messages() {
		for _, s := range []int{0, 1, 2, api.Q - 1} {
			if sign.Verify(api.G, m, api.Signature{R: 0, S: s}) || sign.Verify(1, m, api.Signature{R: 0, S: s}) {
				t.Error("an R of 0", len(m), s)
			}
		}
	}
}

// P4.3: signatures that were calculated elsewhere, with the public keys.
func TestVerifyKnown(t *testing.T) {
	for _, x := range []struct {
		public  int
		message string
		s       api.Signature
	}{
		{4, "", api.Signature{R: 1803960003439416986, S: 2157386489950014917}},
		{16, "a", api.Signature{R: 468794559960189712, S: 321166500586987934}},
		{1024, "\x00", api.Signature{R: 2409408880263877869, S: 201248002772179036}},
		{1152921504606844335, "a longer message", api.Signature{R: 3173679046591449819, S: 679351679439917526}},
	} {
		if !sign.Verify(x.public, []byte(x.message), x.s) {
			t.Error(x)
		}
	}
}

// P4.3: any nonce will do for Verify, also 0, with which R is 1.
func TestVerifyOtherNonces(t *testing.T) {
	for _, private := range privates(10) {
		p := public(t, private)
		for _, m := range messages() {
			for _, k := range []int{0, 1, 2, 9, private, api.Q - private, api.Q - 1} {
				r := power(api.G, k)
				s := answer(k, challenge(p, r, m), private)
				if !sign.Verify(p, m, api.Signature{R: r, S: s}) {
					t.Error(private, len(m), k)
				}
			}
		}
	}
}

// P4.3: 1 is an element, so it is verified against though no private key has it: h does not count then, and an S of 0 occurs.
func TestVerifyOne(t *testing.T) {
	for _, m := range messages() {
		for _, k := range []int{0, 1, 9, api.Q - 1} {
			r := power(api.G, k)
			if !sign.Verify(1, m, api.Signature{R: r, S: k}) {
				t.Error("refused", len(m), k)
			}
			for _, s := range []int{k + 1, k - 1, k + api.Q, k - api.Q, -k - 1} {
				if sign.Verify(1, m, api.Signature{R: r, S: s}) {
					t.Error("accepted", len(m), k, s)
				}
			}
		}
	}
}

// refuses expects that the equation holds, so that nothing but the check of a number refuses it.
func refuses(t *testing.T, public int, message []byte, s api.Signature) {
	t.Helper()
	if !holds(public, message, s) {
		t.Fatal("the equation does not hold", public, s)
	}
	if sign.Verify(public, message, s) {
		t.Error("accepted", public, s)
	}
}

// P4.3: an S outside of 0 to Q - 1, where the power is the same.
func TestVerifyChecksS(t *testing.T) {
	for _, private := range privates(10) {
		p := public(t, private)
		for _, m := range messages() {
			s := signed(t, private, m)
			for _, by := range []int{-3, -2, -1, 1, 2} {
				refuses(t, p, m, api.Signature{R: s.R, S: s.S + by*api.Q})
			}
		}
	}
}

// P4.3: an R, a public key, and both, that are elements only modulo P. The challenges are those of the numbers as they are.
func TestVerifyChecksRanges(t *testing.T) {
	for _, private := range privates(10) {
		for _, m := range messages() {
			p, k := public(t, private), nonce(private, m)
			r := power(api.G, k)
			for _, x := range [][2]int{{0, 1}, {0, -1}, {0, -2}, {1, 0}, {-1, 0}, {-2, 0}, {1, 1}, {-1, -1}, {1, -1}} {
				forged, other := p+x[0]*api.P, r+x[1]*api.P
				refuses(t, forged, m, api.Signature{R: other, S: answer(k, challenge(forged, other, m), private)})
			}
		}
	}
}

// P4.3: the negative of a public key is no element, and its powers by even exponents are those of the public key; by odd ones they are if R is negative too.
func TestVerifyChecksSquares(t *testing.T) {
	found := map[bool]int{}
	for _, private := range privates(10) {
		forged := api.P - public(t, private)
		for _, m := range messages() {
			k := nonce(private, m)
			r := power(api.G, k)
			if h := challenge(forged, r, m); h%2 == 0 {
				refuses(t, forged, m, api.Signature{R: r, S: answer(k, h, private)})
				found[true]++
			}
			if h := challenge(forged, api.P-r, m); h%2 == 1 {
				refuses(t, forged, m, api.Signature{R: api.P - r, S: answer(k, h, private)})
				found[false]++
			}
		}
	}
	if found[true] < 10 || found[false] < 10 {
		t.Error(found)
	}
}

// P4.3: 0 is no element: with it the right side is 0, which no power is, and with a nonce of 0 a public key of P + 1 is 1 modulo P.
func TestVerifyChecksBorders(t *testing.T) {
	for _, m := range messages() {
		for _, p := range []int{api.P + 1, 1 - api.P} {
			refuses(t, p, m, api.Signature{R: 1, S: 0})
			refuses(t, 1, m, api.Signature{R: p, S: 0})
		}
		for _, p := range []int{0, api.P, -api.P, api.P - 1, -1, 2} {
			for _, s := range []int{0, 1, api.Q - 1} {
				if sign.Verify(p, m, api.Signature{R: 1, S: s}) || sign.Verify(1, m, api.Signature{R: p, S: s}) {
					t.Error(p, s)
				}
			}
		}
	}
}

// P4.3: all arguments at the borders of what they may be, and at those of integers.
func TestVerifyAcceptsAllArguments(t *testing.T) {
	l := []int{0, 1, 2, 4, 16, api.Q - 1, api.Q, api.Q + 1, api.P - 4, api.P - 2, api.P - 1, api.P, api.P + 1, 1 << 62, math.MaxInt, -1, -4, -api.Q, -api.P, math.MinInt}
	for _, p := range l {
		for _, r := range l {
			for _, s := range l {
				for _, m := range [][]byte{nil, {0}} {
					if x := (api.Signature{R: r, S: s}); sign.Verify(p, m, x) != accepted(p, m, x) {
						t.Error(p, m, x)
					}
				}
			}
		}
	}
}

// P4.3: a signature belongs to one message, one public key, one R and one S.
func TestVerifyElsewhere(t *testing.T) {
	for _, private := range privates(10) {
		p, other := public(t, private), public(t, private%(api.Q-1)+1)
		for i, m := range messages() {
			s := signed(t, private, m)
			for k, n := range messages() {
				if sign.Verify(p, n, s) != (i == k) {
					t.Error("message", private, i, k)
				}
			}
			longer := append(append([]byte{}, m...), 0)
			if sign.Verify(p, longer, s) || sign.Verify(other, m, s) || sign.Verify(times(p, p), m, s) {
				t.Error("message or public key", private, i)
			}
			if sign.Verify(p, m, api.Signature{R: times(s.R, 4), S: s.S}) || sign.Verify(p, m, api.Signature{R: times(s.R, 4), S: (s.S + 1) % api.Q}) {
				t.Error("R", private, i)
			}
			if sign.Verify(p, m, api.Signature{R: s.S, S: s.R}) {
				t.Error("R and S", private, i)
			}
		}
	}
}

// P4.3: each bit of a message counts.
func TestVerifyEachBit(t *testing.T) {
	p := public(t, 12345)
	for _, m := range messages() {
		s := signed(t, 12345, m)
		for bit := range 8 * len(m) {
			m[bit/8] ^= 1 << (bit % 8)
			if sign.Verify(p, m, s) {
				t.Error(len(m), bit)
			}
			m[bit/8] ^= 1 << (bit % 8)
		}
	}
}

// P4.3: random elements and scalars lead to what the equation says.
func TestVerifyRandom(t *testing.T) {
	r := rand.New(rand.NewSource(3))
	for range 3000 {
		a, b := 1+r.Intn(api.P-1), 1+r.Intn(api.P-1)
		p, s := times(a, a), api.Signature{R: times(b, b), S: r.Intn(api.Q)}
		if sign.Verify(p, nil, s) != accepted(p, nil, s) {
			t.Error(p, s)
		}
	}
}
