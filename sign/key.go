package sign

import "sizar/api"

// key is a number that may be a private key.
type key int

func (k key) isPositive() bool { return k > 0 }

func (k key) isBelowQ() bool { return k < api.Q }

// isPrivate refuses 0 too, though it is a scalar: its public key would be 1, for which everybody can sign.
func (k key) isPrivate() bool {
	for _, holds := range [...]func() bool{k.isPositive, k.isBelowQ} {
		if !holds() {
			return false
		}
	}
	return true
}
