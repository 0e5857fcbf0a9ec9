package names

import (
	"container/heap"
	"iter"
	"slices"

	"sizar/api"
)

// parts yields the parts of a rule as long as yield returns true, and reports whether it always did.
func parts(r api.Rule, yield func(api.Rule) bool) bool {
	if !yield(r) {
		return false
	}
	for _, kid := range r.Kids {
		if !parts(kid, yield) {
			return false
		}
	}
	return true
}

// needs yields the courses that a course needs, each as often as a part means it.
func (l lookup) needs(place int) iter.Seq[int] {
	return func(yield func(int) bool) {
		parts(l.courses[place].Need, func(r api.Rule) bool {
			if r.Op != api.PassR && r.Op != api.TriesR {
				return true
			}
			needed, ok := l.means(r.Name, r.Course)
			return !ok || yield(needed)
		})
	}
}

// queue is a heap of places, the least one first.
type queue []int

func (q queue) Len() int           { return len(q) }
func (q queue) Less(i, k int) bool { return q[i] < q[k] }
func (q queue) Swap(i, k int)      { q[i], q[k] = q[k], q[i] }
func (q *queue) Push(x any)        { *q = append(*q, x.(int)) }

func (q *queue) Pop() any {
	last := len(*q) - 1
	place := (*q)[last]
	*q = (*q)[:last]
	return place
}

// listed returns the places of the courses that can be listed, in this order.
func (l lookup) listed() (places []int) {
	missing := make([]int, len(l.courses))   // by place: how many parts mean courses that are not yet listed
	needing := make([][]int, len(l.courses)) // by place: the courses that need it
	var ready queue
	for place := range l.courses {
		for needed := range l.needs(place) {
			missing[place]++
			needing[needed] = append(needing[needed], place)
		}
		if missing[place] == 0 {
			heap.Push(&ready, place)
		}
	}
	for len(ready) > 0 {
		place := heap.Pop(&ready).(int)
		places = append(places, place)
		for _, other := range needing[place] {
			missing[other]--
			if missing[other] == 0 {
				heap.Push(&ready, other)
			}
		}
	}
	return places
}

// circle returns the places of courses each of which needs the next one, and the last one the first, or none.
func (l lookup) circle() (places []int) {
	done := make([]bool, len(l.courses))
	for _, place := range l.listed() {
		done[place] = true
	}
	place := slices.Index(done, false)
	if place < 0 {
		return nil
	}
	visit := map[int]int{} // which visit it was, by place
	for {
		if first, ok := visit[place]; ok {
			return places[first:]
		}
		visit[place] = len(places)
		places = append(places, place)
		for needed := range l.needs(place) {
			if !done[needed] {
				place = needed
				break
			}
		}
	}
}
