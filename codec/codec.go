// Package codec encodes values canonically. See shared/doc/01-codec.md.
package codec

import "sizar/api"

// Check validates a value.
func Check(v api.Value) (e api.Errno) {
	n, ok := depth(v)
	if !ok {
		return api.ErrArg
	}
	if n > api.MaxDepth {
		return api.ErrLimit
	}
	return api.OK
}

// Encode returns the encoding of a value.
func Encode(v api.Value) (b []byte, e api.Errno) {
	n, e := Size(v)
	if e != api.OK {
		return nil, e
	}
	return write(make([]byte, 0, n), v), api.OK
}

// Decode returns the value of an encoding.
func Decode(b []byte) (v api.Value, e api.Errno) {
	defer func() {
		if recover() != nil {
			v, e = api.Value{}, api.ErrCode
		}
	}()
	r := reader{rest: b}
	v = r.value(0)
	if len(r.rest) > 0 {
		panic(api.ErrCode)
	}
	return v, api.OK
}

// Size returns the length of the encoding of a value.
func Size(v api.Value) (n int, e api.Errno) {
	if e := Check(v); e != api.OK {
		return 0, e
	}
	return size(v), api.OK
}

// Same reports whether two values are equal.
func Same(a, b api.Value) (same bool) {
	if a.Kind != b.Kind || a.N != b.N || a.S != b.S || len(a.L) != len(b.L) {
		return false
	}
	for i := range a.L {
		if !Same(a.L[i], b.L[i]) {
			return false
		}
	}
	return true
}

// depth goes through the whole value even where it is too deep, since a value that is not well-formed is reported first.
func depth(v api.Value) (n int, ok bool) {
	if !clean(v) {
		return 0, false
	}
	if v.Kind != api.ListV {
		return 0, true
	}
	for _, x := range v.L {
		d, ok := depth(x)
		if !ok {
			return 0, false
		}
		n = max(n, d)
	}
	return n + 1, true
}

// clean reports whether v has a kind, and no field that its kind does not use.
func clean(v api.Value) bool {
	switch v.Kind {
	case api.IntV:
		return v.S == "" && len(v.L) == 0
	case api.TextV:
		return v.N == 0 && len(v.L) == 0
	case api.ListV:
		return v.N == 0 && v.S == ""
	}
	return false
}
