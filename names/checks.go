package names

import "sizar/api"

// require ends the work by a panic with an error, which Resolve recovers.
func require(ok bool, e api.Errno) {
	if !ok {
		panic(e)
	}
}

// paired reports whether each requirement has as many names as numbers.
func paired(l []api.Programme) bool {
	for _, p := range l {
		for _, r := range p.Requirements {
			if len(r.Names) != len(r.From) {
				return false
			}
		}
	}
	return true
}

// different reports whether no two definitions of a kind have the same name or number.
func different(c api.Catalogue) bool {
	for _, p := range c.Programmes {
		if repeated(p.Requirements, func(r api.Requirement) string { return r.Name }) {
			return false
		}
	}
	className := func(x api.Class) string { return x.Name }
	return !repeated(c.Courses, func(x api.Course) string { return x.Name }) &&
		!repeated(c.Courses, func(x api.Course) int { return x.Number }) &&
		!repeated(c.Programmes, func(x api.Programme) string { return x.Name }) &&
		!repeated(c.Programmes, func(x api.Programme) int { return x.Number }) &&
		!repeated(c.Classes, className) &&
		!repeated(c.Fees, func(x api.Fee) string { return x.Name }) &&
		!repeated(c.Honours, className)
}

// repeated reports whether two elements of a list have the same name, or number.
func repeated[T any, K comparable](l []T, of func(T) K) bool {
	count := map[K]int{}
	for _, x := range l {
		count[of(x)]++
	}
	return len(count) < len(l)
}
