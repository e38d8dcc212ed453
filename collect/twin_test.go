package collect_test

import (
	"maps"
	"math"
	"slices"
	"testing"

	"socage/api"
	"socage/arena"
	"socage/collect"
	"socage/graph"
	"socage/heap"
	"socage/trial"
)

const (
	greatest = 1<<32 - 1
	// fewWords is how many words of the arena a unit may touch.
	fewWords   = 16
	mostBudget = 1 << 16
)

func data(n uint64) api.Value  { return api.Value{Kind: api.Data, N: n} }
func point(cell int) api.Value { return api.Value{Kind: api.Pointer, N: uint64(cell)} }

func count(s api.Share) int { return s.Cells[0] + s.Cells[1] + s.Cells[2] }

func words(s api.Share) int { return 2*s.Cells[0] + 3*s.Cells[1] + 5*s.Cells[2] }

// enough is how many units free all that is dead: P14.3.
func enough(s api.Share) int { return 16*count(s) + 16 }

// life is a cell, and the generation that it had when it was found white.
type life struct{ cell, gen int }

// plain is a collector as the chapter's words have it: a round of it has a copy of the graph, the counts and the candidates, of which all is reckoned at once.
type plain struct {
	h     *heap.Heap
	cuts  []life
	round *copied
}

// copied is a round: all is how many units it takes, done how many of these were done.
type copied struct {
	g                  api.Graph
	counts, candidates []int
	changes            int
	all, done          int
}

func newCopied(h *heap.Heap) *copied {
	r := &copied{g: h.Graph(), candidates: h.Candidates(), changes: h.Changes()}
	for _, node := range r.g.Nodes {
		x, _ := h.Header(node.ID)
		r.counts = append(r.counts, x.Count)
	}
	gray := len(trial.Gray(r.g, r.candidates))
	white, _ := trial.White(r.g, r.counts, r.candidates)
	r.all = 2*gray + gray - len(white)
	return r
}

func (p *plain) fresh() bool {
	return p.round != nil && p.round.changes == p.h.Changes()
}

func (p *plain) left() int {
	if !p.fresh() {
		return 0
	}
	return p.round.all - p.round.done
}

func (p *plain) cells() []int {
	var l []int
	for _, x := range p.cuts {
		l = append(l, x.cell)
	}
	return l
}

// unit does one, if it can: whether it could, and how many died.
func (p *plain) unit() (bool, int) {
	if len(p.cuts) > 0 {
		first := p.cuts[0]
		p.cuts = slices.Clone(p.cuts[1:])
		if x, _ := p.h.Header(first.cell); x.Used && x.Gen == first.gen {
			p.h.Cut(first.cell)
		}
		return true, 0
	}
	if len(p.h.Queue()) > 0 {
		return true, p.h.Drain(1)
	}
	if !p.fresh() {
		if len(p.h.Candidates()) == 0 {
			return false, 0
		}
		p.round = newCopied(p.h)
	}
	p.round.done++
	if p.round.done == p.round.all {
		p.end()
	}
	return true, 0
}

func (p *plain) end() {
	white, _ := trial.White(p.round.g, p.round.counts, p.round.candidates)
	for _, cell := range white {
		x, _ := p.h.Header(cell)
		p.cuts = append(p.cuts, life{cell, x.Gen})
	}
	p.h.Forget(p.round.candidates)
	p.round = nil
}

// twin is a heap with a collector, and another one, that sees the same acts, with a plain one.
type twin struct {
	t *testing.T
	s api.Share
	a *arena.Arena
	h *heap.Heap
	c *collect.Collector
	p *plain
	// wild is whether there were acts that are none of a heap's user, so that P14.2 and P14.3 need not hold.
	wild bool
}

func newHeap(t *testing.T, s api.Share) (*arena.Arena, *heap.Heap) {
	t.Helper()
	a, e := arena.New(words(s))
	if e != api.OK {
		t.Fatalf("an arena of %d words: error %d", words(s), e)
	}
	h, e := heap.New(a, 0, s)
	if e != api.OK {
		t.Fatalf("a heap of %v: error %d", s, e)
	}
	return a, h
}

func newCollector(t *testing.T, h *heap.Heap) *collect.Collector {
	t.Helper()
	c, e := collect.New(h)
	if c == nil || e != api.OK {
		t.Fatalf("New: %v, error %d", c, e)
	}
	return c
}

func made(t *testing.T, s api.Share) *twin {
	t.Helper()
	a, h := newHeap(t, s)
	_, other := newHeap(t, s)
	w := &twin{t: t, s: s, a: a, h: h, c: newCollector(t, h), p: &plain{h: other}}
	w.same()
	return w
}

// each does an act on both heaps, and holds what they tell against each other.
func (w *twin) each(act func(h *heap.Heap)) {
	w.t.Helper()
	act(w.h)
	act(w.p.h)
	w.same()
}

// fill allocates all cells, so that each is a root.
func (w *twin) fill() {
	w.t.Helper()
	w.each(func(h *heap.Heap) {
		for class, n := range w.s.Cells {
			for range n {
				h.Alloc(class)
			}
		}
	})
	if n := len(w.h.Roots()); n != count(w.s) {
		w.t.Fatalf("%v: %d cells, want all", w.s, n)
	}
}

// shaped has cells of four slots, each with such pointers; those named are roots, all others were dropped, and drained.
func shaped(t *testing.T, outs [][]int, roots ...int) *twin {
	t.Helper()
	w := made(t, api.Share{Cells: [3]int{0, 0, len(outs)}, Quota: mostBudget, Start: 1})
	w.fill()
	w.each(func(h *heap.Heap) {
		for cell, out := range outs {
			for slot, to := range out {
				h.Put(cell, slot, point(to))
			}
		}
		for cell := range outs {
			if !slices.Contains(roots, cell) {
				h.Drop(cell)
			}
		}
		h.Drain(mostBudget)
	})
	return w
}

// lives are the cells that are reached from the roots, each with its generation, as data, and what its slots have.
func (w *twin) lives() map[int][]api.Value {
	m := map[int][]api.Value{}
	for _, cell := range w.reached() {
		x, _ := w.h.Header(cell)
		m[cell] = []api.Value{data(uint64(x.Gen))}
		for slot := range w.h.Slots(cell) {
			v, _ := w.h.Get(cell, slot)
			m[cell] = append(m[cell], v)
		}
	}
	return m
}

func (w *twin) reached() []int {
	g := w.h.Graph()
	return graph.Reach(g, g.Roots)
}

// step does units, and holds what it tells against the plain one, and P14.4, and P14.2.
func (w *twin) step(budget int) int {
	w.t.Helper()
	units, died := 0, 0
	for range budget {
		could, n := w.p.unit()
		if !could {
			break
		}
		units++
		died += n
	}
	before := w.lives()
	touched := w.a.Touched()
	if n, e := w.c.Step(budget); n != died || e != api.OK {
		w.t.Fatalf("%v: Step of %d: %d died, error %d, want %d, OK", w.s, budget, n, e, died)
	}
	if n := w.a.Touched() - touched; n > fewWords*units {
		w.t.Fatalf("%v: %d units: %d words touched, at most %d may be", w.s, units, n, fewWords*units)
	}
	if after := w.lives(); !w.wild && !maps.EqualFunc(before, after, slices.Equal) {
		w.t.Fatalf("%v: Step of %d: what is reached became %v, was %v", w.s, budget, after, before)
	}
	w.same()
	return died
}

// gone is how the two tell that a step does nothing: no unit can be.
func (w *twin) gone() {
	w.t.Helper()
	if could, _ := w.p.unit(); could {
		w.t.Fatalf("%v: a unit could be", w.s)
	}
	for _, budget := range []int{1, 2, mostBudget} {
		changes := w.h.Changes()
		if w.step(budget) != 0 || w.h.Changes() != changes {
			w.t.Fatalf("%v: a step of %d did something", w.s, budget)
		}
	}
}

func (w *twin) list(what string, got, want []int) {
	w.t.Helper()
	if !slices.Equal(got, want) {
		w.t.Fatalf("%v: %s: %v, want %v", w.s, what, got, want)
	}
}

// same holds all that the collector and its heap tell against the plain one and its heap, each cell's words among them.
func (w *twin) same() {
	w.t.Helper()
	h, other := w.h, w.p.h
	w.list("Cuts", w.c.Cuts(), w.p.cells())
	if got, want := w.c.Left(), w.p.left(); got != want {
		w.t.Fatalf("%v: Left: %d, want %d", w.s, got, want)
	}
	w.list("Roots", h.Roots(), other.Roots())
	w.list("Queue", h.Queue(), other.Queue())
	w.list("Candidates", h.Candidates(), other.Candidates())
	if h.Used() != other.Used() || h.Changes() != other.Changes() {
		w.t.Fatalf("%v: Used %d, Changes %d, want %d, %d", w.s, h.Used(), h.Changes(), other.Used(), other.Changes())
	}
	for cell := range count(w.s) {
		x, _ := h.Header(cell)
		if y, _ := other.Header(cell); x != y || h.Pending(cell) != other.Pending(cell) {
			w.t.Fatalf("%v: cell %d: %v, pending %d, want %v, %d", w.s, cell, x, h.Pending(cell), y, other.Pending(cell))
		}
		for slot := range h.Slots(cell) {
			v, _ := h.Get(cell, slot)
			if u, _ := other.Get(cell, slot); v != u {
				w.t.Fatalf("%v: cell %d, slot %d: %v, want %v", w.s, cell, slot, v, u)
			}
		}
	}
}

// living is P14.3: behind so many units just those live that are reached from the roots.
func (w *twin) living() {
	w.t.Helper()
	g := w.h.Graph()
	if dead := graph.Dead(g); len(dead) > 0 {
		w.t.Fatalf("%v: dead cells live still: %v", w.s, dead)
	}
	size := 0
	for _, node := range g.Nodes {
		size += 1 + w.h.Slots(node.ID)
	}
	if w.h.Used() != size || len(w.h.Queue())+len(w.c.Cuts())+w.c.Left() != 0 {
		w.t.Fatalf("%v: Used %d, want %d, Queue %v, Cuts %v, Left %d", w.s, w.h.Used(), size, w.h.Queue(), w.c.Cuts(), w.c.Left())
	}
}

// settle does as many units as are enough, in steps of any size, and then holds P14.3.
func (w *twin) settle(seed *uint64) {
	w.t.Helper()
	for left := enough(w.s); left > 0; {
		n := min(1+next(seed, 1+next(seed, enough(w.s))), left)
		w.step(n)
		left -= n
	}
	w.living()
}

// use does an act of a heap's user: on what is reached from the roots alone, and neither Cut nor Forget.
func (w *twin) use(seed *uint64) {
	w.t.Helper()
	reached, roots := w.reached(), w.h.Roots()
	class, budget := next(seed, 3), next(seed, 4)
	if len(roots) == 0 || next(seed, 6) == 0 {
		w.each(func(h *heap.Heap) { h.Alloc(class) })
		return
	}
	cell, to, root := one(seed, reached), one(seed, reached), one(seed, roots)
	slot, v := next(seed, w.h.Slots(cell)), one(seed, []api.Value{{}, data(7), data(0)})
	switch next(seed, 10) {
	case 0, 1, 2:
		w.each(func(h *heap.Heap) { h.Drop(root) })
	case 3:
		w.each(func(h *heap.Heap) { h.Hold(cell) })
	case 4:
		w.each(func(h *heap.Heap) { h.Put(cell, slot, v) })
	case 5:
		w.each(func(h *heap.Heap) { h.Drain(budget) })
	default:
		w.each(func(h *heap.Heap) { h.Put(cell, slot, point(to)) })
	}
}

// anyCall is any call of a heap, wrong ones, Cut and Forget among them.
func (w *twin) anyCall(seed *uint64) {
	w.t.Helper()
	w.wild = true
	n := count(w.s)
	cell, to, slot, number := next(seed, n+2)-1, next(seed, n+2)-1, next(seed, 5)-1, next(seed, 5)-1
	switch next(seed, 14) {
	case 0, 1:
		w.each(func(h *heap.Heap) { h.Alloc(number) })
	case 2, 3:
		w.each(func(h *heap.Heap) { h.Drop(cell) })
	case 4:
		w.each(func(h *heap.Heap) { h.Hold(cell) })
	case 5, 6, 7, 8:
		w.each(func(h *heap.Heap) { h.Put(cell, slot, point(to)) })
	case 9:
		w.each(func(h *heap.Heap) { h.Put(cell, slot, api.Value{Kind: api.Kind(number), N: uint64(to)}) })
	case 10:
		w.each(func(h *heap.Heap) { h.Cut(cell) })
	case 11:
		w.each(func(h *heap.Heap) { h.Forget([]int{cell, to, cell, math.MinInt, math.MaxInt}) })
	case 12:
		w.each(func(h *heap.Heap) { h.Drain(number) })
	case 13:
		w.each(func(h *heap.Heap) { h.Get(cell, slot); h.Header(cell); h.Room(number); h.Graph() })
	}
}

// next is a number that looks like any: the same ones come in each run.
func next(seed *uint64, below int) int {
	*seed = *seed*6364136223846793005 + 1442695040888963407
	return int(*seed>>33) % below
}

// one picks an item of a list.
func one[T any](seed *uint64, l []T) T {
	return l[next(seed, len(l))]
}
