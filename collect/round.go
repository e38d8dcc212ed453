package collect

import (
	"maps"
	"slices"

	"socage/api"
	"socage/heap"
)

// round is a trial that reads the heap bit by bit, instead of a copy of it: a unit may touch but a few words, and what a unit reads is as it was when the round began, since one behind a change is never gone on with.
type round struct {
	heap        *heap.Heap
	changes     int
	candidates  []int
	gray, black search
	// weighed is how many of the gray ones were.
	weighed int
	// rests and gens are the gray ones', by cells.
	rests, gens map[int]int
}

// newRound is one of a heap, as it is now; nil, if there are no candidates.
func newRound(h *heap.Heap) *round {
	candidates := h.Candidates()
	if len(candidates) == 0 {
		return nil
	}
	return &round{
		heap:       h,
		changes:    h.Changes(),
		candidates: candidates,
		gray:       search{found: slices.Clone(candidates)},
		rests:      map[int]int{},
		gens:       map[int]int{},
	}
}

// phase tells what the next unit does; nil, if there is none.
func (r *round) phase() func() {
	switch {
	case r.gray.more():
		return r.mark
	case r.weighed < len(r.gray.found):
		return r.weigh
	case r.black.more():
		return r.blacken
	}
	return nil
}

// mark looks at a gray cell.
func (r *round) mark() {
	r.gray.look(r.heap)
}

// weigh lets a gray cell's count be of its rest, and each pointer of it be of the others' no more. It notes the generation, too, as those of all white ones, read at the end, were more words than a unit may touch.
func (r *round) weigh() {
	cell := r.gray.found[r.weighed]
	x, _ := r.heap.Header(cell)
	r.gens[cell] = x.Gen
	r.rests[cell] += x.Count
	for _, to := range out(r.heap, cell) {
		r.rests[to]--
	}
	r.weighed++
	if r.weighed == len(r.gray.found) {
		r.black.found = r.held()
	}
}

// blacken looks at a black cell.
func (r *round) blacken() {
	r.black.look(r.heap)
}

// held are the gray cells that are.
func (r *round) held() []int {
	var l []int
	for _, cell := range r.gray.found {
		if r.rests[cell] > 0 {
			l = append(l, cell)
		}
	}
	return l
}

// white are the cells that are so behind the last unit, rising.
func (r *round) white() []life {
	var l []life
	for _, cell := range slices.Sorted(slices.Values(r.gray.found)) {
		if !slices.Contains(r.black.found, cell) {
			l = append(l, life{cell, r.gens[cell]})
		}
	}
	return l
}

// left is how many units it still takes: how many are gray, or black, shows only as it goes on, so a copy goes on to its end.
func (r *round) left() int {
	x := *r
	x.gray.found = slices.Clone(r.gray.found)
	x.black.found = slices.Clone(r.black.found)
	x.rests, x.gens = maps.Clone(r.rests), maps.Clone(r.gens)
	n := 0
	for unit := x.phase(); unit != nil; unit = x.phase() {
		unit()
		n++
	}
	return n
}

// search is which cells are reached: those that were found, as they came, of which so many were looked at.
type search struct {
	found  []int
	looked int
}

// more tells whether one is still to be looked at.
func (s *search) more() bool {
	return s.looked < len(s.found)
}

// look looks at one: what it points to is found, if it wasn't.
func (s *search) look(h *heap.Heap) {
slots:
	for _, to := range out(h, s.found[s.looked]) {
		for _, cell := range s.found {
			if cell == to {
				continue slots
			}
		}
		s.found = append(s.found, to)
	}
	s.looked++
}

// out is what a cell's slots point to, by slots. Of one that is not live it is nothing.
func out(h *heap.Heap, cell int) []int {
	var l []int
	for slot := range h.Slots(cell) {
		v, _ := h.Get(cell, slot)
		if v.Kind == api.Pointer {
			l = append(l, int(v.N))
		}
	}
	return l
}
