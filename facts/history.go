package facts

import (
	"cmp"
	"iter"
	"slices"

	"sizar/api"
	"sizar/terms"
)

const (
	none      = -1 // the value of a fact that says that there is no value
	mostValue = 1 << 40
	mostNo    = 1<<16 - 1
)

func valid(f api.Fact) bool {
	return within(f.Key.Kind, api.CourseK, api.NumbersK) &&
		within(f.Key.Subject, 0, api.MaxStudents) &&
		within(f.Key.Object, 0, api.MaxStudents) &&
		within(f.Value, none, mostValue) &&
		terms.Check([]api.Span{f.Valid}) == api.OK &&
		within(f.Known, 1, api.MaxKnown) &&
		within(f.No, 0, mostNo)
}

func within(n, least, most int) bool {
	return least <= n && n <= most
}

// order compares facts by when they became known.
func order(a, b api.Fact) int {
	return cmp.Or(cmp.Compare(a.Known, b.Known), cmp.Compare(a.No, b.No))
}

func orderOfKeys(a, b api.Key) int {
	return cmp.Or(cmp.Compare(a.Kind, b.Kind), cmp.Compare(a.Subject, b.Subject), cmp.Compare(a.Object, b.Object))
}

// of yields the facts of a key that are known at a time.
func of(l []api.Fact, k api.Key, known int) iter.Seq[api.Fact] {
	return func(yield func(api.Fact) bool) {
		for _, f := range l {
			if f.Key == k && f.Known <= known && !yield(f) {
				return
			}
		}
	}
}

// values returns the value of a key, or none, in each of some terms: from 0 <= from to to <= api.MaxTerm.
func values(l []api.Fact, k api.Key, from, to, known int) []int {
	v := slices.Repeat([]int{none}, to-from)
	// The last fact counts, so each one takes the place of those before it; a stable order keeps that of the list where it must decide.
	for _, f := range slices.SortedStableFunc(of(l, k, known), order) {
		for term := max(from, f.Valid.From); term < min(to, f.Valid.To); term++ {
			v[term-from] = max(f.Value, none)
		}
	}
	return v
}

// touched returns all facts of those keys of which a fact is known at only one of two times. No other key can differ.
func touched(l []api.Fact, before, after int) map[api.Key][]api.Fact {
	all := map[api.Key][]api.Fact{}
	for _, f := range l {
		if (f.Known <= before) != (f.Known <= after) {
			all[f.Key] = nil
		}
	}
	for _, f := range l {
		if found, ok := all[f.Key]; ok {
			all[f.Key] = append(found, f)
		}
	}
	return all
}

// joined returns the terms that differ, as spans that are as long as possible.
func joined(differs func(term int) bool) []api.Span {
	var l []api.Span
spans:
	for from := 0; from < api.MaxTerm; from++ {
		if !differs(from) {
			continue
		}
		for to := from + 1; to < api.MaxTerm; to++ {
			if !differs(to) {
				l = append(l, api.Span{From: from, To: to})
				from = to
				continue spans
			}
		}
		return append(l, api.Span{From: from, To: api.MaxTerm})
	}
	return l
}
