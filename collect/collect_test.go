package collect_test

import (
	"math"
	"slices"
	"testing"

	"socage/api"
	"socage/arena"
	"socage/collect"
	"socage/heap"
)

// shares have cells of one class, of two, of all, and of none; quotas of less than all cells have, and of more; and cells that retire soon.
func shares() []api.Share {
	return []api.Share{
		{Cells: [3]int{4, 0, 0}, Quota: 8, Start: 1},
		{Cells: [3]int{0, 6, 0}, Quota: 99, Start: 7},
		{Cells: [3]int{0, 0, 5}, Quota: 20, Start: 1 << 31},
		{Cells: [3]int{3, 3, 3}, Quota: 30, Start: 5},
		{Cells: [3]int{2, 3, 4}, Quota: 99, Start: greatest - 3},
		{Cells: [3]int{4, 4, 4}, Quota: mostBudget, Start: greatest - 20},
		{Cells: [3]int{1, 0, 0}, Quota: 5, Start: 1},
		{Cells: [3]int{2, 2, 2}, Quota: 0, Start: 1},
		{Quota: 9, Start: 1},
	}
}

// fullShares have 64 cells of a class, or of all.
func fullShares() []api.Share {
	return []api.Share{
		{Cells: [3]int{64, 0, 0}, Quota: 128, Start: 1},
		{Cells: [3]int{0, 0, 64}, Quota: mostBudget, Start: 1},
		{Cells: [3]int{64, 64, 64}, Quota: mostBudget, Start: 1},
	}
}

// ringOfTwo has cells 0 and 1, that point to each other, and were dropped, cell 2, a root, and cell 3, that is free. A round over it takes 4 units.
func ringOfTwo(t *testing.T) *twin {
	t.Helper()
	return shaped(t, [][]int{{1}, {0}, nil, nil}, 2)
}

// wrongBudgets are those that a step may not have.
func wrongBudgets() []int {
	return []int{math.MinInt, math.MinInt + 1, -mostBudget, -2, -1, 0, mostBudget + 1, 1 << 32, 1<<32 + 1, math.MaxInt - 1, math.MaxInt}
}

// refuse is that steps of wrong budgets tell ErrArg, touch nothing, and change nothing that is told.
func (w *twin) refuse() {
	w.t.Helper()
	touched := w.a.Touched()
	for _, budget := range wrongBudgets() {
		if n, e := w.c.Step(budget); n != 0 || e != api.ErrArg {
			w.t.Errorf("%v: Step of %d: %d, error %d, want 0, ErrArg", w.s, budget, n, e)
		}
	}
	if n := w.a.Touched() - touched; n != 0 {
		w.t.Errorf("%v: %d words touched", w.s, n)
	}
	w.same()
}

// P14.1: a collector of a heap has nothing to be cut, and no round, also if there are candidates; of a nil heap there is none.
func TestNew(t *testing.T) {
	for _, s := range append(shares(), fullShares()...) {
		made(t, s).gone()
	}
	w := ringOfTwo(t)
	touched, changes := w.a.Touched(), w.h.Changes()
	c := newCollector(t, w.h)
	if len(c.Cuts()) != 0 || c.Left() != 0 || w.a.Touched() != touched || w.h.Changes() != changes {
		t.Errorf("Cuts %v, Left %d, Touched %d, was %d", c.Cuts(), c.Left(), w.a.Touched(), touched)
	}
	w.same()
	if c, e := collect.New(nil); c != nil || e != api.ErrArg {
		t.Errorf("New of nil: %v, error %d, want nil, ErrArg", c, e)
	}
}

// P14.1, P1, rule 8: a nil collector.
func TestNilCollector(t *testing.T) {
	var c *collect.Collector
	for _, budget := range append(wrongBudgets(), 1, 2, mostBudget) {
		if n, e := c.Step(budget); n != 0 || e != api.ErrArg {
			t.Errorf("Step of %d: %d, error %d, want 0, ErrArg", budget, n, e)
		}
	}
	if len(c.Cuts()) != 0 || c.Left() != 0 {
		t.Errorf("Cuts %v, Left %d", c.Cuts(), c.Left())
	}
}

// P14.1, rule 3: a budget of 0, below 0, and above 2^16, ahead of each unit: of the queue, of a round, and of what is to be cut; and when no unit can be.
func TestWrongBudgets(t *testing.T) {
	w := shaped(t, [][]int{{1}, {2, 3}, {0}, nil, {3}}, 4)
	w.each(func(h *heap.Heap) { h.Put(4, 0, api.Value{}) })
	for range 40 {
		w.refuse()
		w.step(1)
	}
	w.gone()
	w.refuse()
	w.living()
}

// P14.1: no unit can be without a candidate, anything in the queue, or to be cut: not of a heap without cells, of one whose cells are all roots, of one in which all has died, nor when all candidates were forgotten.
func TestNoUnitCanBe(t *testing.T) {
	made(t, api.Share{Quota: 9, Start: 1}).gone()
	w := made(t, api.Share{Cells: [3]int{2, 2, 2}, Quota: 99, Start: 1})
	w.gone()
	w.fill()
	w.gone()
	w.each(func(h *heap.Heap) {
		for _, cell := range h.Roots() {
			h.Drop(cell)
		}
	})
	if n := w.step(99); n != 6 {
		t.Errorf("%d died, want 6", n)
	}
	w.gone()
	w = ringOfTwo(t)
	w.wild = true
	w.each(func(h *heap.Heap) { h.Forget([]int{0, 1}) })
	w.gone()
	if len(w.h.Graph().Nodes) != 3 {
		t.Errorf("Graph %v", w.h.Graph())
	}
}

// P14.1: nor can a unit be if the round is stale, and its candidates were forgotten; such a round is never gone on with.
func TestStaleRoundWithoutCandidates(t *testing.T) {
	for units := 1; units < 4; units++ {
		w := ringOfTwo(t)
		w.wild = true
		w.step(units)
		w.each(func(h *heap.Heap) { h.Put(2, 0, data(1)); h.Forget([]int{0, 1}) })
		w.gone()
		w.each(func(h *heap.Heap) { h.Hold(0); h.Drop(0) })
		w.step(2)
		if w.c.Left() != 3 {
			t.Errorf("behind %d units: Left %d, want 3", units, w.c.Left())
		}
	}
}

// shape is cells of four slots, the roots among them, and what a round over all others takes and finds.
type shape struct {
	name            string
	outs            [][]int
	roots           []int
	candidates, all int
	cuts            []int
	// used is what is so behind all units.
	used int
}

// shapes are reckoned by hand: all is twice the gray ones, and the black ones.
func shapes() []shape {
	return []shape{
		{name: "one that points to itself", outs: [][]int{{0}}, candidates: 1, all: 2, cuts: []int{0}},
		{name: "one that points to itself by all slots", outs: [][]int{{0, 0, 0, 0}}, candidates: 1, all: 2, cuts: []int{0}},
		{name: "two", outs: [][]int{{1}, {0}}, candidates: 2, all: 4, cuts: []int{0, 1}},
		{name: "two, by more slots than one", outs: [][]int{{1, 1, 0}, {0, 1, 0}}, candidates: 2, all: 4, cuts: []int{0, 1}},
		{name: "many", outs: [][]int{{3}, {0}, {1}, {4}, {5}, {2}}, candidates: 6, all: 12, cuts: []int{0, 1, 2, 3, 4, 5}},
		{name: "two cycles apart", outs: [][]int{{2}, {3}, {0}, {1}}, candidates: 4, all: 8, cuts: []int{0, 1, 2, 3}},
		{name: "cycles that hang on one another", outs: [][]int{{1}, {0, 2}, {3}, {2, 4}, {4}}, candidates: 5, all: 10, cuts: []int{0, 1, 2, 3, 4}},
		{name: "a cycle with a tail", outs: [][]int{{1}, {0, 2}, {3}, nil}, candidates: 4, all: 8, cuts: []int{0, 1, 2, 3}},
		{name: "all black: held by a root", outs: [][]int{{1}, {0}, {0}}, roots: []int{2}, candidates: 2, all: 6, used: 15},
		{name: "all black: behind the one that is held", outs: [][]int{{1}, {2}, {3}, {1}, {0}}, roots: []int{4}, candidates: 4, all: 12, used: 25},
		{name: "some black: a root that a cycle points to", outs: [][]int{{1}, {0, 2}, nil}, roots: []int{2}, candidates: 2, all: 7, cuts: []int{0, 1}, used: 5},
		{name: "some black: such a root, and what it points to", outs: [][]int{{1}, {0, 2}, {3}, nil, {2}}, roots: []int{2, 4}, candidates: 3, all: 10, cuts: []int{0, 1}, used: 15},
		{name: "two cycles, one held", outs: [][]int{{1}, {0}, {3}, {2}, {3}}, roots: []int{4}, candidates: 4, all: 10, cuts: []int{0, 1}, used: 15},
		{name: "a held cycle that points to a dead one's neighbour", outs: [][]int{{1, 4}, {0}, {3, 4}, {2}, {4}, {2}}, roots: []int{5}, candidates: 5, all: 13, cuts: []int{0, 1}, used: 20},
		{name: "all point to all", outs: [][]int{{0, 1, 2, 3}, {0, 1, 2, 3}, {0, 1, 2, 3}, {0, 1, 2, 3}}, candidates: 4, all: 8, cuts: []int{0, 1, 2, 3}},
	}
}

// P14.1: a round takes so many units as there are gray ones, twice, and black ones; with the last one its white cells, rising, are to be cut, and its candidates are forgotten. Then each is cut by a unit, and dies by another one.
func TestRounds(t *testing.T) {
	for _, x := range shapes() {
		w := shaped(t, x.outs, x.roots...)
		if len(w.h.Candidates()) != x.candidates || len(w.h.Queue()) != 0 {
			t.Fatalf("%s: Candidates %v, Queue %v", x.name, w.h.Candidates(), w.h.Queue())
		}
		for left := x.all - 1; left > 0; left-- {
			w.step(1)
			if w.c.Left() != left || len(w.c.Cuts()) != 0 || len(w.h.Candidates()) != x.candidates {
				t.Fatalf("%s: Left %d, want %d; Cuts %v, Candidates %v", x.name, w.c.Left(), left, w.c.Cuts(), w.h.Candidates())
			}
		}
		w.step(1)
		if w.c.Left() != 0 || !slices.Equal(w.c.Cuts(), x.cuts) || len(w.h.Candidates()) != 0 {
			t.Fatalf("%s: Left %d, Cuts %v, want %v, Candidates %v", x.name, w.c.Left(), w.c.Cuts(), x.cuts, w.h.Candidates())
		}
		for i := range x.cuts {
			w.step(1)
			if !slices.Equal(w.c.Cuts(), x.cuts[i+1:]) {
				t.Fatalf("%s: Cuts %v, want %v", x.name, w.c.Cuts(), x.cuts[i+1:])
			}
		}
		if n := w.step(enough(w.s)); n != len(x.cuts) || w.h.Used() != x.used {
			t.Errorf("%s: %d died, want %d; Used %d, want %d", x.name, n, len(x.cuts), w.h.Used(), x.used)
		}
		w.gone()
		w.living()
	}
}

// P14.1: the cells to be cut rise, also if they were found otherwise: from one candidate, by slots.
func TestCutsRise(t *testing.T) {
	w := shaped(t, [][]int{{5, 2}, {0}, {4}, {1}, {2}, {3}}, 0)
	w.step(enough(w.s))
	w.each(func(h *heap.Heap) { h.Drop(0); h.Drain(1) })
	w.list("Candidates", w.h.Candidates(), []int{0})
	w.step(1)
	if w.c.Left() != 11 {
		t.Errorf("Left %d, want 11", w.c.Left())
	}
	w.step(11)
	w.list("Cuts", w.c.Cuts(), []int{0, 1, 2, 3, 4, 5})
	w.step(enough(w.s))
	w.living()
}

// P14.1: candidates that die are none, and what is not reached from candidates is not gray, though it is there.
func TestGrayOnesAlone(t *testing.T) {
	w := shaped(t, [][]int{{1}, {0}, {3}, {2}, nil}, 4)
	w.wild = true
	w.each(func(h *heap.Heap) { h.Forget([]int{3, 2}) })
	w.step(4)
	w.list("Cuts", w.c.Cuts(), []int{0, 1})
	if n := w.step(enough(w.s)); n != 2 || len(w.h.Graph().Nodes) != 3 {
		t.Errorf("%d died, Graph %v", n, w.h.Graph())
	}
}

// P14.1: a candidate that a cell holds which is not gray: dead, but forgotten; it is black, and so is what it points to.
func TestHeldByForgotten(t *testing.T) {
	w := shaped(t, [][]int{{1}, {0}, {2, 0}})
	w.wild = true
	w.each(func(h *heap.Heap) { h.Forget([]int{2}) })
	w.step(1)
	if w.c.Left() != 5 {
		t.Errorf("Left %d, want 5", w.c.Left())
	}
	w.step(5)
	w.gone()
	if len(w.h.Graph().Nodes) != 3 {
		t.Errorf("Graph %v", w.h.Graph())
	}
}

// P14.1: what is to be cut comes first, then what is in the queue, then the round.
func TestFirstOfThreeKinds(t *testing.T) {
	w := shaped(t, [][]int{{1}, {0}, nil, nil, {4}, nil}, 2, 3, 4, 5)
	w.step(4)
	w.each(func(h *heap.Heap) { h.Drop(4); h.Drain(1); h.Drop(2); h.Drop(3) })
	for i, x := range []struct {
		cuts, queue, candidates []int
		left, died              int
	}{
		{[]int{1}, []int{2, 3, 1}, []int{4}, 0, 0},
		{nil, []int{2, 3, 1, 0}, []int{4}, 0, 0},
		{nil, []int{3, 1, 0}, []int{4}, 0, 1},
		{nil, []int{1, 0}, []int{4}, 0, 1},
		{nil, []int{0}, []int{4}, 0, 1},
		{nil, nil, []int{4}, 0, 1},
		{nil, nil, []int{4}, 1, 0},
		{[]int{4}, nil, nil, 0, 0},
		{nil, []int{4}, nil, 0, 0},
		{nil, nil, nil, 0, 1},
		{nil, nil, nil, 0, 0},
	} {
		died := w.step(1)
		if died != x.died || w.c.Left() != x.left || !slices.Equal(w.c.Cuts(), x.cuts) || !slices.Equal(w.h.Queue(), x.queue) || !slices.Equal(w.h.Candidates(), x.candidates) {
			t.Errorf("unit %d: %d died, Left %d, Cuts %v, Queue %v, Candidates %v, want %v", i, died, w.c.Left(), w.c.Cuts(), w.h.Queue(), w.h.Candidates(), x)
		}
	}
	w.living()
}

// P14.1: what is in the queue comes ahead of a round that is there already.
func TestQueueAheadOfRound(t *testing.T) {
	for units := 1; units < 4; units++ {
		w := ringOfTwo(t)
		w.step(units)
		w.each(func(h *heap.Heap) { h.Drop(2) })
		if n := w.step(1); n != 1 || w.c.Left() != 0 {
			t.Errorf("behind %d units: %d died, Left %d", units, n, w.c.Left())
		}
		w.step(1)
		if w.c.Left() != 3 {
			t.Errorf("behind %d units: Left %d, want 3", units, w.c.Left())
		}
	}
}

// P14.1: a cell that is to be cut, and has died, or is live again, or is retired, is left as it is; its unit is done all the same. One that is live with the generation that it had is cut, whatever it is by then.
func TestLivesOver(t *testing.T) {
	pair := func(start int) *twin {
		w := made(t, api.Share{Cells: [3]int{2, 0, 0}, Quota: 99, Start: start})
		w.fill()
		w.each(func(h *heap.Heap) {
			h.Put(0, 0, point(1))
			h.Put(1, 0, point(0))
			h.Drop(0)
			h.Drop(1)
			h.Drain(2)
		})
		w.step(4)
		w.list("Cuts", w.c.Cuts(), []int{0, 1})
		w.step(1)
		return w
	}
	for _, x := range []struct {
		name  string
		start int
		acts  func(h *heap.Heap)
		want  api.Value
		e     api.Errno
		cut   bool
	}{
		{"as it was", 1, func(h *heap.Heap) {}, api.Value{}, api.OK, true},
		{"dead", 1, func(h *heap.Heap) { h.Drain(1) }, api.Value{}, api.ErrNone, false},
		{"retired", greatest - 1, func(h *heap.Heap) { h.Drain(1) }, api.Value{}, api.ErrNone, false},
		{"live again", 1, func(h *heap.Heap) { h.Drain(1); h.Alloc(0); h.Put(1, 0, data(9)) }, data(9), api.OK, false},
		{"live again, and points", 1, func(h *heap.Heap) { h.Drain(1); h.Alloc(0); h.Put(1, 0, point(1)) }, point(1), api.OK, false},
		{"held again", 1, func(h *heap.Heap) { h.Hold(1); h.Put(1, 0, data(9)) }, api.Value{}, api.OK, true},
	} {
		w := pair(x.start)
		w.wild = true
		w.each(x.acts)
		changes := w.h.Changes()
		w.list("Cuts", w.c.Cuts(), []int{1})
		if n := w.step(1); n != 0 || len(w.c.Cuts()) != 0 {
			t.Errorf("%s: %d died, Cuts %v", x.name, n, w.c.Cuts())
		}
		if v, e := w.h.Get(1, 0); v != x.want || e != x.e || (w.h.Changes() != changes) != x.cut {
			t.Errorf("%s: Get %v, error %d, want %v, %d; Changes %d, were %d", x.name, v, e, x.want, x.e, w.h.Changes(), changes)
		}
		w.step(enough(w.s))
	}
}

// P14.1: the generations are those at the round's end, also of cells that have had other ones.
func TestGenerations(t *testing.T) {
	w := made(t, api.Share{Cells: [3]int{3, 0, 0}, Quota: 99, Start: 4})
	for lives := range 6 {
		w.each(func(h *heap.Heap) {
			for range 2 {
				h.Alloc(0)
			}
			h.Put(0, 0, point(1))
			h.Put(1, 0, point(0))
			h.Drop(1)
			h.Drop(0)
		})
		w.step(6)
		w.list("Cuts", w.c.Cuts(), []int{0, 1})
		if n := w.step(4); n != 2 || w.h.Used() != 0 {
			t.Fatalf("life %d: %d died, Used %d", lives, n, w.h.Used())
		}
		if x, _ := w.h.Header(0); x.Gen != 5+lives {
			t.Errorf("life %d: Header %v", lives, x)
		}
		w.gone()
	}
}

// P14.1: a round's candidates are those that there were when it began: what is forgotten since is of it still, and the round goes on without any.
func TestCandidatesAsTheyWere(t *testing.T) {
	for units := range 8 {
		w := shaped(t, [][]int{{1}, {0}, {3}, {2}})
		w.wild = true
		if units > 0 {
			w.step(units)
		}
		w.each(func(h *heap.Heap) { h.Forget([]int{0, 1}) })
		if units == 0 {
			w.step(4)
			w.list("Cuts", w.c.Cuts(), []int{2, 3})
			continue
		}
		w.each(func(h *heap.Heap) { h.Forget([]int{2, 3}) })
		if w.c.Left() != 8-units {
			t.Errorf("behind %d units: Left %d, want %d", units, w.c.Left(), 8-units)
		}
		w.step(8 - units)
		w.list("Cuts", w.c.Cuts(), []int{0, 1, 2, 3})
	}
}

// P14.1: the graph and the counts are those at the round's beginning, not those at the collector's, or of the round ahead of it: what was white is black when it is pointed to, and what was black is white.
func TestGraphAndCountsAsTheyAre(t *testing.T) {
	w := shaped(t, [][]int{{1}, {0}, {0}}, 2)
	w.step(5)
	if w.c.Left() != 1 {
		t.Fatalf("Left %d, want 1", w.c.Left())
	}
	w.each(func(h *heap.Heap) { h.Put(2, 0, api.Value{}) })
	w.step(1)
	w.step(1)
	if w.c.Left() != 3 {
		t.Errorf("Left %d, want 3: all white", w.c.Left())
	}
	w.step(2)
	w.wild = true
	w.each(func(h *heap.Heap) { h.Put(2, 3, point(1)) })
	w.step(1)
	if w.c.Left() != 5 {
		t.Errorf("Left %d, want 5: all black", w.c.Left())
	}
	w.step(5)
	if len(w.c.Cuts())+len(w.h.Candidates()) != 0 {
		t.Errorf("Cuts %v, Candidates %v", w.c.Cuts(), w.h.Candidates())
	}
	w.gone()
}

// P14.1: a count that is more than the graph's, as the header has it, holds its cell; one that is less does not.
func TestCountsOfHeaders(t *testing.T) {
	for _, x := range []struct{ count, all, cuts int }{{1, 4, 2}, {2, 6, 0}, {1<<31 - 1, 6, 0}, {0, 4, 2}} {
		w := ringOfTwo(t)
		w.each(func(h *heap.Heap) { h.SetCount(1, x.count) })
		w.step(1)
		if w.c.Left() != x.all-1 {
			t.Errorf("count %d: Left %d, want %d", x.count, w.c.Left(), x.all-1)
		}
		w.step(x.all - 1)
		if len(w.c.Cuts()) != x.cuts {
			t.Errorf("count %d: Cuts %v", x.count, w.c.Cuts())
		}
	}
}

// act is a call of a heap, and whether it is a change.
type act struct {
	name    string
	changes bool
	do      func(h *heap.Heap)
}

// acts are those of a heap with the ring of two, and without anything in the queue.
func acts() []act {
	return []act{
		{"Alloc", true, func(h *heap.Heap) { h.Alloc(2) }},
		{"Hold of what is no root", true, func(h *heap.Heap) { h.Hold(0) }},
		{"Drop", true, func(h *heap.Heap) { h.Drop(2) }},
		{"Put of data", true, func(h *heap.Heap) { h.Put(2, 0, data(1)) }},
		{"Put of nil over nil", true, func(h *heap.Heap) { h.Put(2, 0, api.Value{}) }},
		{"Put of a pointer", true, func(h *heap.Heap) { h.Put(2, 0, point(2)) }},
		{"Put of the same pointer", true, func(h *heap.Heap) { h.Put(0, 0, point(1)) }},
		{"Cut", true, func(h *heap.Heap) { h.Cut(2) }},
		{"Drop and Drain", true, func(h *heap.Heap) { h.Drop(2); h.Drain(5) }},
		{"Alloc of no class", false, func(h *heap.Heap) { h.Alloc(3) }},
		{"Alloc of a class without cells", false, func(h *heap.Heap) { h.Alloc(1) }},
		{"Hold of a root", false, func(h *heap.Heap) { h.Hold(2) }},
		{"Hold of what is not live", false, func(h *heap.Heap) { h.Hold(3); h.Hold(9) }},
		{"Drop of no root", false, func(h *heap.Heap) { h.Drop(0); h.Drop(-1) }},
		{"Put that may not be", false, func(h *heap.Heap) { h.Put(2, 4, data(1)); h.Put(2, 0, api.Value{N: 1}); h.Put(2, 0, point(3)) }},
		{"Cut of what is not live", false, func(h *heap.Heap) { h.Cut(3); h.Cut(4) }},
		{"Drain of nothing", false, func(h *heap.Heap) { h.Drain(9); h.Drain(0) }},
		{"Forget", false, func(h *heap.Heap) { h.Forget([]int{1, 0}) }},
		{"questions", false, func(h *heap.Heap) { h.Get(0, 0); h.Graph(); h.Candidates(); h.Roots(); h.Room(2) }},
	}
}

// P14.1: a change ends the round, at whichever unit it comes: Left is 0 till a new one begins, in the place of it, and takes all its units; what is no change leaves it as it is.
func TestChanges(t *testing.T) {
	for _, x := range acts() {
		for units := 1; units < 4; units++ {
			w := ringOfTwo(t)
			w.wild = true
			w.step(units)
			w.each(x.do)
			if want := 4 - units; !x.changes && w.c.Left() != want || x.changes && w.c.Left() != 0 {
				t.Errorf("%s behind %d units: Left %d", x.name, units, w.c.Left())
			}
			for range 20 {
				w.step(1)
			}
		}
	}
}

// P14.1: a round that has begun anew looks at all anew, also at what the old one had looked at.
func TestBegunAnew(t *testing.T) {
	for units := 1; units < 6; units++ {
		w := shaped(t, [][]int{{1}, {0}, {0}, nil}, 2, 3)
		w.step(units)
		w.each(func(h *heap.Heap) { h.Put(1, 2, point(3)) })
		if w.c.Left() != 0 {
			t.Errorf("behind %d units: Left %d, want 0", units, w.c.Left())
		}
		w.step(1)
		if w.c.Left() != 8 {
			t.Errorf("behind %d units: Left %d, want 8", units, w.c.Left())
		}
		w.each(func(h *heap.Heap) { h.Put(1, 2, api.Value{}); h.Put(2, 0, api.Value{}) })
		w.step(enough(w.s))
		w.living()
	}
}

// P14.1: if there are always changes, each unit begins a round anew.
func TestAlwaysChanged(t *testing.T) {
	w := ringOfTwo(t)
	for range 20 {
		w.step(1)
		if w.c.Left() != 3 {
			t.Errorf("Left %d, want 3", w.c.Left())
		}
		w.each(func(h *heap.Heap) { h.Put(2, 0, data(5)) })
	}
	if n := w.step(8); n != 2 {
		t.Errorf("%d died, want 2", n)
	}
}

// P14.1: a step of k units is as k steps of one.
func TestStepOfMany(t *testing.T) {
	for _, x := range shapes() {
		for budget := 1; budget < 45; budget += 3 {
			at, many, single := 0, shaped(t, x.outs, x.roots...), shaped(t, x.outs, x.roots...)
			for ; at < 45; at += budget {
				died := many.step(budget)
				for range budget {
					died -= single.step(1)
				}
				if died != 0 || many.c.Left() != single.c.Left() || many.h.Changes() != single.h.Changes() || many.h.Used() != single.h.Used() {
					t.Fatalf("%s: behind %d units by %d: %d more died, Left %d, %d", x.name, at, budget, died, many.c.Left(), single.c.Left())
				}
				many.list("Cuts", many.c.Cuts(), single.c.Cuts())
				many.list("Queue", many.h.Queue(), single.h.Queue())
				many.list("Candidates", many.h.Candidates(), single.h.Candidates())
			}
		}
	}
}

// P14.1: the greatest budget is one, and does all that can be.
func TestGreatestBudget(t *testing.T) {
	for _, x := range shapes() {
		w := shaped(t, x.outs, x.roots...)
		if n := w.step(mostBudget); n != len(x.cuts) || w.h.Used() != x.used {
			t.Errorf("%s: %d died, want %d; Used %d, want %d", x.name, n, len(x.cuts), w.h.Used(), x.used)
		}
		w.gone()
		w.living()
	}
}

// P14.1: by a cut none dies, by a drain one or none.
func TestDied(t *testing.T) {
	w := shaped(t, [][]int{{1}, {2}, {0, 3}, nil, {3}}, 4)
	w.step(9)
	w.list("Cuts", w.c.Cuts(), []int{0, 1, 2})
	for i, want := range []int{0, 0, 0, 1, 1, 1, 0, 0} {
		if n := w.step(1); n != want {
			t.Errorf("unit %d: %d died, want %d", i, n, want)
		}
	}
	for budget, want := range map[int]int{1: 0, 2: 1, 3: 2, 7: 2, 8: 2, 9: 2, 10: 3, 11: 4, 99: 4} {
		w := shaped(t, [][]int{{1}, {0}, nil, {2}}, 2, 3)
		w.each(func(h *heap.Heap) { h.Drop(2); h.Drop(3) })
		if n := w.step(budget); n != want {
			t.Errorf("budget %d: %d died, want %d", budget, n, want)
		}
	}
}

// told is all that a collector and its heap tell.
func told(c *collect.Collector, h *heap.Heap) []int {
	l := []int{c.Left(), h.Used(), h.Changes()}
	for _, list := range [][]int{c.Cuts(), h.Roots(), h.Queue(), h.Candidates()} {
		l = append(append(l, len(list)), list...)
	}
	for _, node := range h.Graph().Nodes {
		x, _ := h.Header(node.ID)
		l = append(append(l, node.ID, x.Gen, x.Count), node.Out...)
	}
	return l
}

// P2: collectors of two heaps, in one arena, share nothing: what one does, the other one does not tell, and each goes on as if it were alone.
func TestTwoHeaps(t *testing.T) {
	s := api.Share{Cells: [3]int{3, 0, 2}, Quota: 99, Start: 1}
	a, _ := arena.New(2 * words(s))
	var heaps []*heap.Heap
	var collectors []*collect.Collector
	for i := range 2 {
		h, e := heap.New(a, i*words(s), s)
		if e != api.OK {
			t.Fatalf("New: error %d", e)
		}
		for range 3 {
			h.Alloc(0)
		}
		for i, to := range []int{1, 0, 2} {
			h.Put(i, 0, point(to))
			h.Drop(i)
		}
		heaps, collectors = append(heaps, h), append(collectors, newCollector(t, h))
	}
	var kept [][]int
	for range 20 {
		kept = append(kept, told(collectors[0], heaps[0]))
		quiet := told(collectors[1], heaps[1])
		collectors[0].Step(1)
		if now := told(collectors[1], heaps[1]); !slices.Equal(now, quiet) {
			t.Fatalf("the second one tells %v, told %v", now, quiet)
		}
	}
	quiet := told(collectors[0], heaps[0])
	for i := range 20 {
		if now := told(collectors[1], heaps[1]); !slices.Equal(now, kept[i]) {
			t.Fatalf("step %d: the second one tells %v, the first one told %v", i, now, kept[i])
		}
		collectors[1].Step(1)
		if now := told(collectors[0], heaps[0]); !slices.Equal(now, quiet) {
			t.Fatalf("the first one tells %v, told %v", now, quiet)
		}
	}
	if heaps[0].Used()+heaps[1].Used() != 0 {
		t.Errorf("Used %d, %d", heaps[0].Used(), heaps[1].Used())
	}
}

// P14.1: two collectors of one heap: a unit of one that changes the heap ends the other one's round, and a cell that both are to cut is cut twice at most, which harms nobody.
func TestTwoCollectorsOfOneHeap(t *testing.T) {
	w := ringOfTwo(t)
	second := newCollector(t, w.h)
	for range 3 {
		w.c.Step(1)
		second.Step(1)
	}
	if w.c.Left() != 1 || second.Left() != 1 {
		t.Fatalf("Left %d, %d, want 1, 1", w.c.Left(), second.Left())
	}
	w.c.Step(1)
	second.Step(1)
	w.list("Cuts", w.c.Cuts(), []int{0, 1})
	w.list("Cuts", second.Cuts(), []int{0, 1})
	w.h.Hold(2)
	if n, _ := w.c.Step(99); n != 2 || w.h.Used() != 5 {
		t.Errorf("%d died, Used %d", n, w.h.Used())
	}
	cell, _ := w.h.Alloc(2)
	w.h.Put(cell, 1, point(2))
	if n, _ := second.Step(99); n != 0 || len(second.Cuts()) != 0 || w.h.Used() != 10 {
		t.Errorf("%d died, Cuts %v, Used %d", n, second.Cuts(), w.h.Used())
	}
	w.h.Put(2, 0, point(cell))
	w.h.Drop(cell)
	w.h.Drop(2)
	second.Step(3)
	if second.Left() != 3 {
		t.Fatalf("Left %d, want 3", second.Left())
	}
	w.h.Put(2, 1, data(3))
	if w.c.Step(1); second.Left() != 0 || w.c.Left() != 3 {
		t.Errorf("Left %d, %d, want 0, 3", second.Left(), w.c.Left())
	}
}

// Rule 4: what Cuts answers is new memory, and stays as it is.
func TestCutsAreNew(t *testing.T) {
	w := shaped(t, [][]int{{1}, {2}, {3}, {4}, {0}})
	w.step(10)
	first, kept := w.c.Cuts(), w.c.Cuts()
	spoil(first)
	w.list("Cuts", w.c.Cuts(), []int{0, 1, 2, 3, 4})
	w.same()
	w.step(2)
	spoil(w.c.Cuts())
	w.same()
	if n := w.step(99); n != 5 {
		t.Errorf("%d died, want 5", n)
	}
	w.list("what Cuts answered", kept, []int{0, 1, 2, 3, 4})
}

// spoil writes into a list, and into what its memory has behind it.
func spoil(l []int) {
	l = l[:cap(l)]
	for i := range l {
		l[i] = 4
	}
}

// P2: asking changes nothing, neither of the heap, nor of what the collector does then: one that is asked often, and one that is never asked, do the same.
func TestAskingChangesNothing(t *testing.T) {
	for _, x := range shapes() {
		w, quiet := shaped(t, x.outs, x.roots...), shaped(t, x.outs, x.roots...)
		for range 45 {
			for range 3 {
				w.same()
			}
			died, _ := w.c.Step(1)
			want, _ := quiet.c.Step(1)
			if died != want || w.h.Changes() != quiet.h.Changes() {
				t.Fatalf("%s: %d died, want %d; Changes %d, want %d", x.name, died, want, w.h.Changes(), quiet.h.Changes())
			}
			w.p.unit()
		}
		if l := told(quiet.c, quiet.h); !slices.Equal(told(w.c, w.h), l) {
			t.Errorf("%s: told %v, want %v", x.name, told(w.c, w.h), l)
		}
	}
}

// P14.1, P1, P2: collectors between any calls of the heap, wrong ones, Cut and Forget among them, tell what the plain one does.
func TestAnyCalls(t *testing.T) {
	for _, s := range shares() {
		for seed := range uint64(12) {
			w := made(t, s)
			for range 400 {
				for range next(&seed, 4) {
					w.anyCall(&seed)
				}
				w.step(1 + next(&seed, 1+next(&seed, 12)))
			}
			w.refuse()
		}
	}
	for i, s := range fullShares() {
		w, seed := made(t, s), uint64(i)
		w.fill()
		for range 150 {
			for range next(&seed, 5) {
				w.anyCall(&seed)
			}
			w.step(1 + next(&seed, 60))
		}
	}
}

// P14.2, P14.3: behind any acts of a user, between any steps, nothing died that is reached (step holds that), and so many units leave the reached ones alone.
func TestAnyUser(t *testing.T) {
	for _, s := range shares() {
		for seed := range uint64(20) {
			w := made(t, s)
			for range 6 {
				for range next(&seed, 60) {
					w.use(&seed)
					if next(&seed, 3) == 0 {
						w.step(1 + next(&seed, 1+next(&seed, 20)))
					}
				}
				w.settle(&seed)
			}
		}
	}
}

// P14.2, P14.3: the same of many cells, which all point to any others; roots are dropped bit by bit.
func TestAnyUserOfManyCells(t *testing.T) {
	for i, s := range fullShares()[1:] {
		w, seed := made(t, s), uint64(i)
		w.fill()
		for cell := range count(s) {
			for slot := range w.h.Slots(cell) {
				to := next(&seed, count(s))
				for _, h := range []*heap.Heap{w.h, w.p.h} {
					h.Put(cell, slot, point(to))
				}
			}
		}
		w.same()
		for len(w.h.Roots()) > 0 {
			for range 8 {
				w.drop(&seed)
			}
			w.step(1 + next(&seed, 300))
		}
		w.settle(&seed)
		if w.h.Used() != 0 {
			t.Errorf("%v: Used %d", s, w.h.Used())
		}
	}
}

// drop drops any root, if there is one.
func (w *twin) drop(seed *uint64) {
	w.t.Helper()
	if l := w.h.Roots(); len(l) > 0 {
		root := one(seed, l)
		w.each(func(h *heap.Heap) { h.Drop(root) })
	}
}

// rings are cycles of such a length each, of so many cells in all, that hang on one another, or not.
func rings(cells, length int, hang bool) [][]int {
	outs := make([][]int, cells)
	for cell := range cells {
		first := cell - cell%length
		last := min(first+length, cells) - 1
		outs[cell] = []int{cell + 1}
		if cell == last {
			outs[cell][0] = first
		}
		if hang && cell == first && last+1 < cells {
			outs[cell] = append(outs[cell], last+1)
		}
	}
	return outs
}

// P14.3: cycles of one cell, of two, of many, apart, and such as hang on one another, dropped at once, or bit by bit, while units are done: those that were roots once die, and so does all that hangs on them.
func TestRings(t *testing.T) {
	for _, length := range []int{1, 2, 3, 7, 20, 64} {
		for _, hang := range []bool{false, true} {
			for _, cells := range []int{length, 20, 64} {
				outs := rings(cells, length, hang)
				w := shaped(t, outs)
				if n := w.step(enough(w.s)); n != cells {
					t.Errorf("%d of %d: %d died", cells, length, n)
				}
				w.living()
				var roots []int
				for cell := range cells {
					roots = append(roots, cell)
				}
				w = shaped(t, outs, roots...)
				seed := uint64(cells)
				for len(w.h.Roots()) > 0 {
					w.drop(&seed)
					w.step(1 + next(&seed, 9))
				}
				w.settle(&seed)
			}
		}
	}
}

// P14.2: a ring that a root holds lives, whatever the units; and dies when the root points to it no more.
func TestHeldRing(t *testing.T) {
	outs := append(rings(20, 20, false), []int{7})
	for units := 1; units < 70; units++ {
		w := shaped(t, outs, 20)
		w.step(units)
		if n := len(w.h.Graph().Nodes); n != 21 {
			t.Fatalf("behind %d units: %d cells live", units, n)
		}
		w.each(func(h *heap.Heap) { h.Hold(3); h.Put(20, 0, api.Value{}) })
		w.step(99)
		if n := len(w.h.Graph().Nodes); n != 21 {
			t.Fatalf("behind %d units: %d cells live", units, n)
		}
		w.each(func(h *heap.Heap) { h.Drop(3) })
		if n := w.step(enough(w.s)); n != 20 {
			t.Fatalf("behind %d units: %d died", units, n)
		}
		w.living()
	}
}

// P14.2: what was got from a slot of a root, while a round is on, and is held, lives on, though the root points to it no more.
func TestHeldInTime(t *testing.T) {
	outs := [][]int{{1}, {2}, {0}, {0}}
	for units := 1; units < 12; units++ {
		w := shaped(t, outs, 3)
		w.step(units)
		w.each(func(h *heap.Heap) {
			v, _ := h.Get(3, 0)
			h.Hold(int(v.N))
			h.Drop(3)
		})
		w.step(enough(w.s))
		w.list("Roots", w.h.Roots(), []int{0})
		if len(w.h.Graph().Nodes) != 3 {
			t.Errorf("behind %d units: Graph %v", units, w.h.Graph())
		}
		w.living()
	}
}

// P14.4: each unit touches at most 16 words, also where many cells of four slots are gray, black, or white, all at once (step holds that): the unit that begins a round, and the one that ends it, too. Asking for Cuts touches none.
func TestUnitsTouchFewWords(t *testing.T) {
	dense := make([][]int, 64)
	for cell := range dense {
		dense[cell] = []int{(cell + 1) % 64, cell * 7 % 64, cell * 13 % 64, 63 - cell}
	}
	for _, roots := range [][]int{nil, {0}} {
		w := shaped(t, dense, roots...)
		for range enough(w.s) {
			w.step(1)
		}
		w.living()
	}
	w := shaped(t, dense)
	w.step(128)
	touched := w.a.Touched()
	if len(w.c.Cuts()) != 64 || w.a.Touched() != touched {
		t.Errorf("Cuts %v, %d words touched", w.c.Cuts(), w.a.Touched()-touched)
	}
}
