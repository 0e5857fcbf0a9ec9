package codec

import "sizar/api"

// reader reads an encoding from its beginning. Its methods panic if there is none; Decode recovers that.
type reader struct {
	rest []byte
	owed uint64 // elements of lists that are still to be read
}

// value reads a value that is inside of as many lists as level says.
func (r *reader) value(level int) api.Value {
	switch kind := int(r.take(1)[0]); kind {
	case api.IntV:
		return api.Value{Kind: kind, N: signed(r.numeral())}
	case api.TextV:
		return api.Value{Kind: kind, S: string(r.take(r.numeral()))}
	case api.ListV:
		return api.Value{Kind: kind, L: r.list(level + 1)}
	}
	panic(api.ErrCode)
}

// list reserves memory only for as many elements as can still follow, with two bytes or more each: the number that the bytes state may be any.
func (r *reader) list(level int) []api.Value {
	n, most := r.numeral(), uint64(len(r.rest))/2
	if level > api.MaxDepth || n > most || n+r.owed > most {
		panic(api.ErrCode)
	}
	r.owed += n
	l := make([]api.Value, n)
	for i := range l {
		r.owed--
		l[i] = r.value(level)
	}
	return l
}

// numeral refuses digits that 64 bits cannot hold, and a superfluous zero at the end.
func (r *reader) numeral() (u uint64) {
	for shift := 0; ; shift += 7 {
		b := r.take(1)[0]
		digit := uint64(b & 127)
		if digit<<shift>>shift != digit {
			panic(api.ErrCode)
		}
		u |= digit << shift
		if b >= 128 {
			continue
		}
		if b == 0 && shift > 0 {
			panic(api.ErrCode)
		}
		return u
	}
}

// take cuts the next n bytes off. The limits of capacity keep what was taken apart from what remains.
func (r *reader) take(n uint64) []byte {
	if n > uint64(len(r.rest)) {
		panic(api.ErrCode)
	}
	head := r.rest[:n:n]
	r.rest = r.rest[n:len(r.rest):len(r.rest)]
	return head
}

// signed is the inverse of unsigned.
func signed(u uint64) int {
	return int(u>>1) ^ -int(u&1)
}
