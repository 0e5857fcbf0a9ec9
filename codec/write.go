package codec

import (
	"math/bits"

	"sizar/api"
)

// writing says how what follows the kind of a value is measured and written.
type writing struct {
	size  func(v api.Value) int
	write func(b []byte, v api.Value) []byte
}

// writings is indexed by the kind.
func writings() [api.ListV + 1]writing {
	return [...]writing{
		api.IntV:  {sizeInt, writeInt},
		api.TextV: {sizeText, writeText},
		api.ListV: {sizeList, writeList},
	}
}

func size(v api.Value) int {
	return 1 + writings()[v.Kind].size(v)
}

func write(b []byte, v api.Value) []byte {
	return writings()[v.Kind].write(append(b, byte(v.Kind)), v)
}

func sizeInt(v api.Value) int {
	return sizeNumeral(unsigned(v.N))
}

func writeInt(b []byte, v api.Value) []byte {
	return writeNumeral(b, unsigned(v.N))
}

func sizeText(v api.Value) int {
	return sizeNumeral(uint64(len(v.S))) + len(v.S)
}

func writeText(b []byte, v api.Value) []byte {
	return append(writeNumeral(b, uint64(len(v.S))), v.S...)
}

func sizeList(v api.Value) int {
	n := sizeNumeral(uint64(len(v.L)))
	for _, x := range v.L {
		n += size(x)
	}
	return n
}

func writeList(b []byte, v api.Value) []byte {
	b = writeNumeral(b, uint64(len(v.L)))
	for _, x := range v.L {
		b = write(b, x)
	}
	return b
}

// unsigned returns 2n, or -2n - 1 for a negative n, whose bits are then all turned around.
func unsigned(n int) uint64 {
	return uint64(n)<<1 ^ uint64(n>>63)
}

// sizeNumeral counts the bit of u = 0 too, since its numeral has a digit.
func sizeNumeral(u uint64) int {
	return (bits.Len64(u|1) + 6) / 7
}

func writeNumeral(b []byte, u uint64) []byte {
	for u >= 128 {
		b = append(b, byte(u)|128)
		u >>= 7
	}
	return append(b, byte(u))
}
