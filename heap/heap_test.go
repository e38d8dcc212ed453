package heap_test

import (
	"math"
	"slices"
	"testing"

	"socage/api"
	"socage/arena"
	"socage/heap"
)

// ordinary has cells 0 to 2 of class 0, 3 to 5 of class 1, 6 to 8 of class 2, and a quota for all of them.
func ordinary() plot {
	return plot{api.Share{Cells: [3]int{3, 3, 3}, Quota: 30, Start: 5}, 3, 2}
}

// whole is a heap of which all cells are live roots.
func whole(t *testing.T, pl plot) pair {
	t.Helper()
	p := made(t, pl)
	for class := range 3 {
		for range pl.share.Cells[class] {
			p.alloc(class)
		}
	}
	p.same()
	return p
}

// P13.1: of New no cell is live, nothing is used, held, pushed, or a candidate, and there were no changes; all headers have the share's Start, all slots are 0, and the words ahead and behind stay.
func TestNew(t *testing.T) {
	for _, pl := range append(plots(), fullPlots()...) {
		p := made(t, pl)
		p.same()
		if p.h.Used() != 0 || p.h.Changes() != 0 || len(p.h.Graph().Nodes)+len(p.h.Roots())+len(p.h.Queue())+len(p.h.Candidates()) != 0 {
			t.Errorf("%v: Used %d, Changes %d, Graph %v, Queue %v, Candidates %v", pl, p.h.Used(), p.h.Changes(), p.h.Graph(), p.h.Queue(), p.h.Candidates())
		}
	}
}

// refuse is that New tells ErrArg and no heap, and touches nothing.
func refuse(t *testing.T, a *arena.Arena, base int, s api.Share) {
	t.Helper()
	before := a.Touched()
	if h, e := heap.New(a, base, s); h != nil || e != api.ErrArg {
		t.Errorf("New at %d of %d, of %v: %v, error %d, want nil, ErrArg", base, a.Len(), s, h, e)
	}
	if a.Touched() != before {
		t.Errorf("New at %d of %d, of %v: %d words touched", base, a.Len(), s, a.Touched()-before)
	}
}

// P13.1: shares that may not be, each for one thing; a nil arena, too.
func TestNewRefusesShares(t *testing.T) {
	right := api.Share{Cells: [3]int{2, 1, 3}, Quota: 9, Start: 1}
	wrong := []api.Share{{}}
	for _, n := range []int{math.MinInt, -1, 0, greatest, greatest + 1, math.MaxInt} {
		s := right
		s.Start = n
		wrong = append(wrong, s)
	}
	for _, n := range []int{math.MinInt, -1, mostQuota + 1, math.MaxInt} {
		s := right
		s.Quota = n
		wrong = append(wrong, s)
	}
	for class := range 3 {
		for _, n := range []int{math.MinInt, -1, mostCells + 1, math.MaxInt} {
			s := right
			s.Cells[class] = n
			wrong = append(wrong, s)
		}
	}
	a := marked(t, 1000)
	for _, s := range wrong {
		for _, base := range []int{0, 1, 500, 1000, -1, 1001} {
			refuse(t, a, base, s)
			refuse(t, nil, base, s)
		}
	}
}

// P13.1: a nil arena; places below 0 and above Len; an arena that is a word too short from that place on.
func TestNewRefusesPlaces(t *testing.T) {
	for _, pl := range append(plots(), fullPlots()...) {
		words := wordsOf(pl.share)
		for _, base := range []int{math.MinInt, -1, 0, 1, math.MaxInt} {
			refuse(t, nil, base, pl.share)
		}
		for _, n := range []int{words, words + 10} {
			a := marked(t, n)
			for _, base := range []int{math.MinInt, math.MinInt + words, -max(words, 1), -1, n - words + 1, n + 1, 1 << 32, 1 << 62, math.MaxInt - words, math.MaxInt} {
				refuse(t, a, base, pl.share)
			}
			if h, e := heap.New(a, n-words, pl.share); h == nil || e != api.OK {
				t.Errorf("%v: New at %d of %d: error %d", pl.share, n-words, n, e)
			}
		}
		if words > 0 {
			refuse(t, marked(t, words-1), 0, pl.share)
		}
	}
}

// P13.1: what is allocated is live, a root, and has count 1; its size is charged, and it is one change.
func TestAlloc(t *testing.T) {
	for class, size := range []int{2, 3, 5} {
		p := made(t, ordinary())
		cell, e := p.h.Alloc(class)
		if cell != 3*class || e != api.OK {
			t.Fatalf("class %d: %d, error %d", class, cell, e)
		}
		if x, e := p.h.Header(cell); x != (api.Header{Gen: 5, Count: 1, Used: true}) || e != api.OK {
			t.Errorf("class %d: Header %v, error %d", class, x, e)
		}
		if p.h.Used() != size || p.h.Changes() != 1 || !slices.Equal(p.h.Roots(), []int{cell}) || len(p.h.Candidates())+len(p.h.Queue()) != 0 {
			t.Errorf("class %d: Used %d, Changes %d, Roots %v", class, p.h.Used(), p.h.Changes(), p.h.Roots())
		}
	}
}

// P13.1, P12.2: the Alloc that just fills the quota is done, and one that would be more by a word is not.
func TestQuota(t *testing.T) {
	for class, size := range []int{2, 3, 5} {
		for n := 1; n <= 3; n++ {
			s := api.Share{Cells: [3]int{9, 9, 9}, Quota: n * size, Start: 1}
			for _, less := range []int{0, 1} {
				s.Quota = n*size - less
				p := made(t, plot{s, 0, 0})
				for range n - less {
					p.alloc(class)
				}
				if got := p.h.Used(); got != (n-less)*size {
					t.Errorf("quota %d: Used %d", s.Quota, got)
				}
				for range 2 {
					if cell, e := p.h.Alloc(class); cell != 0 || e != api.ErrQuota {
						t.Errorf("quota %d, class %d: %d, error %d, want 0, ErrQuota", s.Quota, class, cell, e)
					}
				}
				p.same()
			}
		}
	}
}

// P13.1: a class that there is not comes first, then the quota, then that none of the class is free; what was charged for that is refunded.
func TestAllocErrorsInOrder(t *testing.T) {
	p := made(t, plot{api.Share{Cells: [3]int{1, 0, 1}, Quota: 7, Start: 1}, 1, 1})
	p.alloc(0)
	for i, x := range []struct {
		class int
		e     api.Errno
	}{{0, api.ErrFull}, {1, api.ErrFull}, {-1, api.ErrArg}, {3, api.ErrArg}, {0, api.ErrFull}} {
		if cell, e := p.h.Alloc(x.class); cell != 0 || e != x.e {
			t.Errorf("%d: Alloc of class %d: %d, error %d, want 0, %d", i, x.class, cell, e, x.e)
		}
		p.same()
	}
	if cell := p.alloc(2); cell != 1 || p.h.Used() != 7 {
		t.Errorf("cell %d, Used %d: the quota ought to be filled just", cell, p.h.Used())
	}
	for class := range 3 {
		if cell, e := p.h.Alloc(class); cell != 0 || e != api.ErrQuota {
			t.Errorf("Alloc of class %d: %d, error %d, want 0, ErrQuota", class, cell, e)
		}
	}
	for _, class := range absentClasses() {
		if cell, e := p.h.Alloc(class); cell != 0 || e != api.ErrArg {
			t.Errorf("Alloc of class %d: %d, error %d, want 0, ErrArg", class, cell, e)
		}
		if free, gone := p.h.Room(class); free != 0 || gone != 0 {
			t.Errorf("Room of class %d: %d, %d", class, free, gone)
		}
	}
	p.same()
}

// P13.1: a Hold of what is a root changes nothing; of what is none, it is a change, and one count more, also while it is still in the queue.
func TestHold(t *testing.T) {
	p := whole(t, ordinary())
	for range 3 {
		p.hold(4)
	}
	if p.h.Changes() != 9 {
		t.Errorf("Changes %d, want 9", p.h.Changes())
	}
	p.same()
	p.drop(4)
	p.hold(4)
	if x, _ := p.h.Header(4); x.Count != 2 || p.h.Pending(4) != 1 || p.h.Changes() != 11 {
		t.Errorf("Header %v, Pending %d, Changes %d", x, p.h.Pending(4), p.h.Changes())
	}
	p.same()
	if n := p.drain(9); n != 0 || !slices.Equal(p.h.Candidates(), []int{4}) {
		t.Errorf("%d died, Candidates %v", n, p.h.Candidates())
	}
	p.same()
	p.put(0, 0, point(5))
	p.drop(5)
	p.drain(1)
	p.same()
	p.hold(5)
	if x, _ := p.h.Header(5); x.Count != 2 || !slices.Equal(p.h.Candidates(), []int{4, 5}) {
		t.Errorf("Header %v, Candidates %v: a Hold ends no candidate", x, p.h.Candidates())
	}
	p.same()
}

// P13.1: cells that are not live, as they never were, or have died, or are retired; and such as there are not.
func TestHoldDropAndCutOfWhatIsNotThere(t *testing.T) {
	for _, start := range []int{1, 5, lastStart} {
		p := made(t, plot{api.Share{Cells: [3]int{2, 2, 2}, Quota: 99, Start: start}, 1, 1})
		for class := range 3 {
			p.drop(p.alloc(class))
		}
		p.drain(9)
		changes := p.h.Changes()
		for cell := range 6 {
			if hold, drop, cut := p.h.Hold(cell), p.h.Drop(cell), p.h.Cut(cell); hold != api.ErrNone || drop != api.ErrNone || cut != api.ErrNone {
				t.Errorf("cell %d: Hold %d, Drop %d, Cut %d, want ErrNone", cell, hold, drop, cut)
			}
		}
		for _, cell := range absentCells(p.m.share) {
			if hold, drop, cut := p.h.Hold(cell), p.h.Drop(cell), p.h.Cut(cell); hold != api.ErrArg || drop != api.ErrArg || cut != api.ErrArg {
				t.Errorf("cell %d: Hold %d, Drop %d, Cut %d, want ErrArg", cell, hold, drop, cut)
			}
			p.header(cell)
			p.slots(cell)
			p.pending(cell)
		}
		if p.h.Changes() != changes {
			t.Errorf("Changes %d, want %d", p.h.Changes(), changes)
		}
		p.same()
	}
}

// P13.1: a Drop pushes, and leaves the count as it is; a Drop of what is no root is refused, whether it is live or not.
func TestDrop(t *testing.T) {
	p := whole(t, ordinary())
	p.put(1, 0, point(8))
	for _, cell := range []int{8, 0, 8, 0} {
		p.drop(cell)
		p.same()
	}
	if x, _ := p.h.Header(8); x.Count != 2 || p.h.Changes() != 12 || !slices.Equal(p.h.Queue(), []int{8, 0}) {
		t.Errorf("Header %v, Changes %d, Queue %v", x, p.h.Changes(), p.h.Queue())
	}
	if e := p.h.Drop(8); e != api.ErrNone {
		t.Errorf("Drop: error %d, want ErrNone", e)
	}
	p.drain(2)
	p.drop(8)
	p.drop(0)
	p.same()
}

// P13.1: values over one another: nil, data, pointers to the cell itself and to others, anew and over a pointer; each is a change, and what was pointed to is pushed.
func TestPut(t *testing.T) {
	p := whole(t, ordinary())
	values := []api.Value{{}, data(0), data(lastData), point(6), point(6), point(7), point(7), point(6), {}, {}, point(8), data(3), data(3)}
	for i, v := range values {
		for _, slot := range []int{0, 3} {
			p.put(6, slot, v)
			p.same()
		}
		if p.h.Changes() != 9+2*(i+1) {
			t.Errorf("behind %d values: Changes %d", i+1, p.h.Changes())
		}
	}
	if !slices.Equal(p.h.Queue(), []int{6, 7, 8}) || p.h.Pending(6) != 6 || p.h.Pending(7) != 4 || p.h.Pending(8) != 2 {
		t.Errorf("Queue %v, Pending %d, %d, %d", p.h.Queue(), p.h.Pending(6), p.h.Pending(7), p.h.Pending(8))
	}
	p.drain(99)
	p.same()
}

// P13.1: the same cell anew: it is pushed, and counted once more, till it is drained.
func TestPutOfTheSameAnew(t *testing.T) {
	p := whole(t, ordinary())
	for i := range 9 {
		p.put(3, 1, point(4))
		if x, _ := p.h.Header(4); x.Count != i+2 || p.h.Pending(4) != i {
			t.Errorf("behind %d: Header %v, Pending %d", i+1, x, p.h.Pending(4))
		}
	}
	p.drain(1)
	if x, _ := p.h.Header(4); x.Count != 2 || p.h.Pending(4) != 0 {
		t.Errorf("drained: Header %v, Pending %d", x, p.h.Pending(4))
	}
	p.same()
}

// P13.1: a cell that points to itself holds itself, till that pointer is gone.
func TestPointerToItself(t *testing.T) {
	for _, end := range []func(pair){func(p pair) { p.cut(7) }, func(p pair) { p.put(7, 2, api.Value{}) }, func(p pair) { p.put(7, 2, data(7)) }, func(p pair) { p.put(7, 2, point(0)) }} {
		p := whole(t, ordinary())
		p.put(7, 2, point(7))
		p.drop(7)
		if n := p.drain(9); n != 0 || !slices.Equal(p.h.Candidates(), []int{7}) {
			t.Fatalf("%d died, Candidates %v", n, p.h.Candidates())
		}
		p.same()
		end(p)
		p.same()
		if p.drain(1) != 1 || len(p.h.Candidates()) != 0 {
			t.Errorf("it did not die: Candidates %v", p.h.Candidates())
		}
		p.same()
	}
}

// P13.1: what there is not, and what may not be, is named ahead of what is not live; nothing is changed, and nothing touched.
func TestPutErrors(t *testing.T) {
	pl := ordinary()
	p := made(t, pl)
	for class := range 3 {
		p.alloc(class)
	}
	changes := p.h.Changes()
	wrong := append(wrongValues(), strayPointers(pl.share)...)
	for cell, values := range p.m.values {
		for slot := range values {
			for _, v := range wrong {
				if e := p.h.Put(cell, slot, v); e != api.ErrArg {
					t.Errorf("Put into cell %d, slot %d, of %v: error %d, want ErrArg", cell, slot, v, e)
				}
			}
		}
		for _, slot := range absentSlots(len(values)) {
			for _, v := range append(slices.Clone(wrong), point(1), point(0), api.Value{}) {
				if e := p.h.Put(cell, slot, v); e != api.ErrArg {
					t.Errorf("Put into cell %d, slot %d, of %v: error %d, want ErrArg", cell, slot, v, e)
				}
			}
			p.get(cell, slot)
		}
	}
	for _, cell := range absentCells(pl.share) {
		for slot := range 4 {
			for _, v := range append(slices.Clone(wrong), point(1), point(0), api.Value{}) {
				if e := p.h.Put(cell, slot, v); e != api.ErrArg {
					t.Errorf("Put into cell %d, slot %d, of %v: error %d, want ErrArg", cell, slot, v, e)
				}
			}
			p.get(cell, slot)
		}
	}
	for _, x := range []struct {
		cell int
		v    api.Value
	}{{1, api.Value{}}, {1, data(3)}, {1, point(0)}, {1, point(1)}, {1, point(2)}, {0, point(1)}, {0, point(8)}, {8, point(0)}} {
		if e := p.h.Put(x.cell, 0, x.v); e != api.ErrNone {
			t.Errorf("Put into cell %d of %v: error %d, want ErrNone", x.cell, x.v, e)
		}
	}
	if p.h.Changes() != changes {
		t.Errorf("Changes %d, want %d", p.h.Changes(), changes)
	}
	p.same()
}

// P13.1: a Put that is refused leaves the slot's pointer, and what it points to, as they are.
func TestRefusedPutKeepsThePointer(t *testing.T) {
	p := made(t, ordinary())
	for range 2 {
		p.alloc(2)
	}
	p.put(6, 1, point(7))
	for _, v := range append(append(wrongValues(), strayPointers(p.m.share)...), point(8), point(0)) {
		p.put(6, 1, v)
		p.same()
	}
	if v, e := p.h.Get(6, 1); v != point(7) || e != api.OK || len(p.h.Queue()) != 0 {
		t.Errorf("Get %v, error %d, Queue %v", v, e, p.h.Queue())
	}
}

// P13.1: a Cut of a cell whose slots point to one cell more than once, to itself, and to others: what they pointed to is pushed by slots; of one without pointers it is a change all the same.
func TestCut(t *testing.T) {
	p := whole(t, ordinary())
	for slot, to := range []int{5, 2, 5, 6} {
		p.put(6, slot, point(to))
	}
	changes := p.h.Changes()
	p.cut(6)
	if !slices.Equal(p.h.Queue(), []int{5, 2, 6}) || p.h.Pending(5) != 2 || p.h.Pending(2) != 1 || p.h.Pending(6) != 1 || p.h.Changes() != changes+1 {
		t.Errorf("Queue %v, Pending %d, %d, %d, Changes %d", p.h.Queue(), p.h.Pending(5), p.h.Pending(2), p.h.Pending(6), p.h.Changes())
	}
	for slot := range 4 {
		if v, e := p.h.Get(6, slot); v != (api.Value{}) || e != api.OK {
			t.Errorf("slot %d: %v, error %d", slot, v, e)
		}
	}
	p.same()
	p.put(6, 1, data(4))
	p.cut(6)
	p.cut(6)
	if p.h.Changes() != changes+4 || len(p.h.Queue()) != 3 {
		t.Errorf("Changes %d, Queue %v", p.h.Changes(), p.h.Queue())
	}
	p.same()
	p.drain(99)
	p.same()
}

// P13.1: so many cells are drained as the budget is, at most as many as there are; each is a change.
func TestBudgets(t *testing.T) {
	for budget, want := range map[int]int{math.MinInt: 0, -1: 0, 0: 0, 1: 1, 4: 4, 8: 8, 9: 9, 10: 9, 1000: 9, math.MaxInt: 9} {
		p := whole(t, ordinary())
		for cell := range 9 {
			p.drop(8 - cell)
		}
		before := p.h.Changes()
		if n := p.drain(budget); n != want || p.h.Changes() != before+want || len(p.h.Queue()) != 9-want {
			t.Errorf("budget %d: %d died, Changes %d more, Queue %v", budget, n, p.h.Changes()-before, p.h.Queue())
		}
		p.same()
		if p.h.Drain(0) != 0 || p.h.Drain(-1) != 0 || p.h.Drain(math.MinInt) != 0 {
			t.Errorf("budget %d: a Drain of none drained", budget)
		}
		p.same()
		p.drain(math.MaxInt)
		if p.h.Used() != 0 || p.h.Drain(5) != 0 || p.h.Changes() != before+9 {
			t.Errorf("budget %d: Used %d, Changes %d", budget, p.h.Used(), p.h.Changes())
		}
		p.same()
	}
}

// P13.1: what is drained, and does not die, is of the budget, too, and is a change; a cell that was pushed often is drained once.
func TestBudgetOfWhatDoesNotDie(t *testing.T) {
	p := whole(t, ordinary())
	for range 5 {
		p.put(0, 0, point(3))
		p.put(1, 0, point(4))
	}
	before := p.h.Changes()
	if n := p.drain(1); n != 0 || p.h.Changes() != before+1 || !slices.Equal(p.h.Queue(), []int{4}) || !slices.Equal(p.h.Candidates(), []int{3}) {
		t.Errorf("%d died, Changes %d more, Queue %v, Candidates %v", n, p.h.Changes()-before, p.h.Queue(), p.h.Candidates())
	}
	p.same()
	if n := p.drain(7); n != 0 || p.h.Changes() != before+2 || !slices.Equal(p.h.Candidates(), []int{3, 4}) {
		t.Errorf("%d died, Changes %d more, Candidates %v", n, p.h.Changes()-before, p.h.Candidates())
	}
	p.same()
}

// P13.1: a cell that dies pushes by slots what it points to, behind what is there; that is drained of the same budget.
func TestDeathPushes(t *testing.T) {
	for budget := range 9 {
		p := whole(t, ordinary())
		for slot, to := range []int{5, 0, 5, 4} {
			p.put(8, slot, point(to))
		}
		p.put(5, 1, point(1))
		for _, cell := range []int{5, 0, 4, 1} {
			p.drop(cell)
		}
		p.drain(4)
		if !slices.Equal(p.h.Candidates(), []int{0, 1, 4, 5}) {
			t.Fatalf("Candidates %v", p.h.Candidates())
		}
		p.drop(8)
		p.drop(2)
		died := p.drain(budget)
		if want := min(budget, 6); died != want {
			t.Errorf("budget %d: %d died, want %d", budget, died, want)
		}
		queues := [][]int{{8, 2}, {2, 5, 0, 4}, {5, 0, 4}, {0, 4, 1}, {4, 1}, {1}, nil, nil, nil}
		if l := p.h.Queue(); !slices.Equal(l, queues[budget]) {
			t.Errorf("budget %d: Queue %v, want %v", budget, l, queues[budget])
		}
		p.same()
		p.drain(99)
		p.same()
	}
}

// P13.1: a cell that is pushed again while it is in the queue stays where it is; drained, it may be pushed anew.
func TestPushedAgain(t *testing.T) {
	p := whole(t, ordinary())
	p.put(0, 0, point(6))
	p.put(1, 0, point(6))
	p.put(0, 0, api.Value{})
	p.drop(7)
	p.put(1, 0, api.Value{})
	p.drop(6)
	if !slices.Equal(p.h.Queue(), []int{6, 7}) || p.h.Pending(6) != 3 || p.h.Pending(7) != 1 {
		t.Errorf("Queue %v, Pending %d, %d", p.h.Queue(), p.h.Pending(6), p.h.Pending(7))
	}
	p.hold(6)
	p.same()
	p.drain(1)
	p.drop(6)
	if !slices.Equal(p.h.Queue(), []int{7, 6}) || p.h.Pending(6) != 1 {
		t.Errorf("Queue %v, Pending %d", p.h.Queue(), p.h.Pending(6))
	}
	p.same()
	if p.drain(2) != 2 {
		t.Error("both ought to die")
	}
	p.same()
}

// P13.1: a candidate that dies is none any more, nor is what takes its place; one that is drained anew, and lives, stays one.
func TestCandidates(t *testing.T) {
	p := whole(t, ordinary())
	p.put(3, 0, point(0))
	p.put(3, 1, point(0))
	p.drop(0)
	for _, v := range []api.Value{{}, {}} {
		p.drain(1)
		if !slices.Equal(p.h.Candidates(), []int{0}) {
			t.Fatalf("Candidates %v, want 0", p.h.Candidates())
		}
		p.same()
		slot := 2 - len(p.m.out(3))
		p.put(3, slot, v)
	}
	if p.drain(1) != 1 || len(p.h.Candidates()) != 0 {
		t.Errorf("Candidates %v", p.h.Candidates())
	}
	if cell := p.alloc(0); cell != 0 || len(p.h.Candidates()) != 0 {
		t.Errorf("cell %d, Candidates %v", cell, p.h.Candidates())
	}
	p.same()
}

// P13.1: a cell whose generations are used up retires when it dies; what it used is refunded all the same.
func TestRetiredByDeath(t *testing.T) {
	for class, size := range []int{2, 3, 5} {
		for lives := 1; lives <= 3; lives++ {
			p := made(t, plot{api.Share{Cells: [3]int{1, 1, 1}, Quota: size, Start: greatest - lives}, 1, 1})
			for life := range lives {
				if free, gone := p.h.Room(class); free != 1 || gone != 0 {
					t.Fatalf("life %d of %d: Room %d, %d", life, lives, free, gone)
				}
				p.drop(p.alloc(class))
				if p.drain(1) != 1 || p.h.Used() != 0 {
					t.Fatalf("life %d of %d: Used %d", life, lives, p.h.Used())
				}
				p.same()
			}
			if free, gone := p.h.Room(class); free != 0 || gone != 1 {
				t.Errorf("%d lives: Room %d, %d", lives, free, gone)
			}
			if x, e := p.h.Header(class); x != (api.Header{Gen: greatest}) || e != api.OK {
				t.Errorf("%d lives: Header %v, error %d", lives, x, e)
			}
			if cell, e := p.h.Alloc(class); cell != 0 || e != api.ErrFull {
				t.Errorf("%d lives: Alloc %d, error %d, want 0, ErrFull", lives, cell, e)
			}
			p.same()
		}
	}
}

// P13.1: a Forget of candidates, of cells that are none, of the same more than once, and of no cells; it is no change, and what is forgotten may become one again.
func TestForget(t *testing.T) {
	p := whole(t, ordinary())
	for _, cell := range []int{3, 4, 5} {
		p.put(cell, 0, point(cell))
		p.drop(cell)
	}
	p.drain(3)
	changes := p.h.Changes()
	for _, x := range []struct{ forget, left []int }{
		{nil, []int{3, 4, 5}},
		{[]int{}, []int{3, 4, 5}},
		{[]int{0, 8, 77, 191, 192}, []int{3, 4, 5}},
		{absentCells(p.m.share), []int{3, 4, 5}},
		{[]int{4, 4, 9, -1, 4}, []int{3, 5}},
		{[]int{4}, []int{3, 5}},
		{[]int{5, 1, 3}, nil},
		{[]int{3, 4, 5}, nil},
	} {
		p.forget(x.forget...)
		if l := p.h.Candidates(); !slices.Equal(l, x.left) || p.h.Changes() != changes {
			t.Errorf("behind Forget of %v: Candidates %v, want %v, Changes %d", x.forget, l, x.left, p.h.Changes())
		}
		p.same()
	}
	p.hold(4)
	p.drop(4)
	p.drain(1)
	if !slices.Equal(p.h.Candidates(), []int{4}) {
		t.Errorf("Candidates %v, want 4", p.h.Candidates())
	}
	p.same()
}

// P13.1: Forget looks at the list alone, not at what lies behind it, and keeps nothing of it (rule 4).
func TestForgetKeepsNothing(t *testing.T) {
	p := whole(t, ordinary())
	for cell := range 6 {
		p.put(6, cell%4, point(cell))
		p.drop(cell)
	}
	p.drain(4)
	before := p.h.Candidates()
	l := append(make([]int, 0, 3), before...)
	p.h.Forget(l[:1])
	if got := p.h.Candidates(); !slices.Equal(got, before[1:]) || !slices.Equal(l, before) {
		t.Errorf("Candidates %v, want %v; the list is %v, was %v", got, before[1:], l, before)
	}
	l[0] = before[1]
	if got := p.h.Candidates(); !slices.Equal(got, before[1:]) {
		t.Errorf("Candidates %v, want %v", got, before[1:])
	}
}

// full lets a cell's header have a count: no acts that end lead to the greatest one.
func (p pair) full(cell, n int) {
	p.a.Write(p.m.ahead+headerAt(p.m.share, cell), uint64(p.m.gens[cell])<<32|used|uint64(n))
}

// P13.1: a count that can't be more is told behind all other errors, and nothing is changed then; one that is less by one can.
func TestFull(t *testing.T) {
	p := whole(t, ordinary())
	p.put(6, 2, point(4))
	p.put(6, 3, point(7))
	p.drop(4)
	p.drain(1)
	for _, act := range []func() api.Errno{
		func() api.Errno { return p.h.Hold(4) },
		func() api.Errno { return p.h.Put(6, 0, point(4)) },
		func() api.Errno { return p.h.Put(6, 2, point(4)) },
		func() api.Errno { return p.h.Put(6, 3, point(4)) },
		func() api.Errno { return p.h.Put(4, 0, point(4)) },
	} {
		p.full(4, lastCount)
		words, changes := all(p.a), p.h.Changes()
		if e := act(); e != api.ErrFull {
			t.Errorf("error %d, want ErrFull", e)
		}
		if !slices.Equal(all(p.a), words) || p.h.Changes() != changes || len(p.h.Queue()) != 0 {
			t.Errorf("words %x, were %x; Changes %d, were %d; Queue %v", all(p.a), words, p.h.Changes(), changes, p.h.Queue())
		}
		p.full(4, 1)
		p.same()
	}
	p.full(4, lastCount)
	if e := p.h.Put(6, 4, point(4)); e != api.ErrArg {
		t.Errorf("no such slot: error %d, want ErrArg", e)
	}
	p.full(4, lastCount-1)
	if e := p.h.Hold(4); e != api.OK {
		t.Errorf("Hold: error %d", e)
	}
	if x, e := p.h.Header(4); x != (api.Header{Gen: 5, Count: lastCount, Used: true}) || e != api.OK {
		t.Errorf("Header %v, error %d", x, e)
	}
	if e := p.h.Hold(4); e != api.OK {
		t.Errorf("Hold of a root: error %d: its count need not be more", e)
	}
	p.full(4, lastCount-1)
	if e := p.h.Put(6, 0, point(4)); e != api.OK {
		t.Errorf("Put: error %d", e)
	}
}

// P13.1: what is not live comes ahead of a count that can't be more.
func TestNotLiveAheadOfFull(t *testing.T) {
	p := made(t, ordinary())
	p.alloc(0)
	p.full(0, lastCount)
	if e := p.h.Put(1, 0, point(0)); e != api.ErrNone {
		t.Errorf("error %d, want ErrNone", e)
	}
}

// P13.1: data over a pointer, and nil, can be put whatever the counts are; what is drained of the greatest count lives.
func TestGreatestCounts(t *testing.T) {
	p := whole(t, ordinary())
	p.put(6, 0, point(4))
	p.put(6, 1, point(4))
	p.full(4, lastCount)
	if p.h.Put(6, 0, data(4)) != api.OK || p.h.Put(6, 1, api.Value{}) != api.OK || p.h.Drop(4) != api.OK || p.h.Drain(1) != 0 {
		t.Error("it ought to live")
	}
	if x, e := p.h.Header(4); x.Count != lastCount-3 || e != api.OK || !slices.Equal(p.h.Candidates(), []int{4}) {
		t.Errorf("Header %v, error %d, Candidates %v", x, e, p.h.Candidates())
	}
}

// P13.1, P1, rule 8: a nil heap.
func TestNilHeap(t *testing.T) {
	var h *heap.Heap
	numbers := []int{math.MinInt, -1, 0, 1, 2, 3, 191, 192, math.MaxInt}
	for _, n := range numbers {
		if cell, e := h.Alloc(n); cell != 0 || e != api.ErrArg {
			t.Errorf("Alloc of %d: %d, error %d", n, cell, e)
		}
		if hold, drop, cut := h.Hold(n), h.Drop(n), h.Cut(n); hold != api.ErrArg || drop != api.ErrArg || cut != api.ErrArg {
			t.Errorf("%d: Hold %d, Drop %d, Cut %d", n, hold, drop, cut)
		}
		if x, e := h.Header(n); x != (api.Header{}) || e != api.ErrArg {
			t.Errorf("Header of %d: %v, error %d", n, x, e)
		}
		if free, gone := h.Room(n); free+gone+h.Drain(n)+h.Slots(n)+h.Pending(n) != 0 {
			t.Errorf("%d: Room %d, %d, Drain %d, Slots %d, Pending %d", n, free, gone, h.Drain(n), h.Slots(n), h.Pending(n))
		}
		for _, slot := range numbers {
			if v, e := h.Get(n, slot); v != (api.Value{}) || e != api.ErrArg {
				t.Errorf("Get of %d, %d: %v, error %d", n, slot, v, e)
			}
			for _, v := range append(append(plainValues(), wrongValues()...), point(0)) {
				if e := h.Put(n, slot, v); e != api.ErrArg {
					t.Errorf("Put into %d, %d, of %v: error %d", n, slot, v, e)
				}
			}
		}
	}
	h.Forget(nil)
	h.Forget(numbers)
	g := h.Graph()
	if h.Used()+h.Changes()+len(h.Roots())+len(h.Queue())+len(h.Candidates())+len(g.Nodes)+len(g.Roots) != 0 {
		t.Errorf("Used %d, Changes %d, Roots %v, Queue %v, Candidates %v, Graph %v", h.Used(), h.Changes(), h.Roots(), h.Queue(), h.Candidates(), g)
	}
}

// P13.1, P13.3: two cells that point to each other, and are dropped, and drained, are both candidates, and live, till one is cut.
func TestRingOfTwo(t *testing.T) {
	p := made(t, plot{api.Share{Cells: [3]int{2, 0, 0}, Quota: 4, Start: 1}, 0, 0})
	a, b := p.alloc(0), p.alloc(0)
	p.put(a, 0, point(b))
	p.put(b, 0, point(a))
	p.drop(a)
	p.drop(b)
	if n := p.drain(2); n != 0 || !slices.Equal(p.h.Candidates(), []int{a, b}) || p.h.Used() != 4 {
		t.Errorf("%d died, Candidates %v, Used %d", n, p.h.Candidates(), p.h.Used())
	}
	p.same()
	p.cut(b)
	if n := p.drain(9); n != 2 || len(p.h.Candidates()) != 0 || p.h.Used() != 0 {
		t.Errorf("%d died, Candidates %v, Used %d", n, p.h.Candidates(), p.h.Used())
	}
	p.same()
}

// P13.3: a long chain, of which all but one are dropped and drained: what is behind that one is reached, and lives on; what is ahead of it, and all, once it is dropped too, dies cell by cell.
func TestChain(t *testing.T) {
	for _, root := range []int{0, 1, 20, 63} {
		p := made(t, plot{api.Share{Cells: [3]int{64, 0, 0}, Quota: 128, Start: 1}, 0, 0})
		for cell := range 64 {
			p.alloc(0)
			if cell > 0 {
				p.put(cell-1, 0, point(cell))
			}
		}
		for cell := 63; cell >= 0; cell-- {
			if cell != root {
				p.drop(cell)
				p.drain(1)
			}
		}
		p.same()
		p.drain(1000)
		p.same()
		if left := 2 * (64 - root); p.h.Used() != left {
			t.Errorf("root %d: Used %d, want %d", root, p.h.Used(), left)
		}
		p.drop(root)
		for left := 64 - root; left > 0; left-- {
			if n := p.drain(1); n != 1 {
				t.Errorf("root %d, %d are left: %d died, want 1", root, left, n)
			}
			p.same()
		}
		if p.h.Used() != 0 || len(p.h.Queue()) != 0 {
			t.Errorf("root %d: Used %d, Queue %v", root, p.h.Used(), p.h.Queue())
		}
	}
}

// walk does many acts of all kinds, wrong ones among them, holds each against the sheet, and, now and then, all there is.
func (p pair) walk(seed uint64, acts int, forgets bool) {
	p.t.Helper()
	n := count(p.m.share)
	for i := range acts {
		p.anyAct(&seed, forgets)
		if p.lists(); n < 20 || i%50 == 0 {
			p.same()
		}
	}
	for len(p.m.pushes) > 0 {
		p.drain(3)
		p.same()
	}
	p.same()
}

// anyCell is mostly one that there is, slots it has, and values that point to such.
func (p pair) anyCell(seed *uint64) int {
	if next(seed, 15) == 0 {
		return one(seed, absentCells(p.m.share))
	}
	return next(seed, count(p.m.share)+1)
}

func (p pair) anySlot(seed *uint64, cell int) int {
	slots := 1
	if p.m.has(cell) {
		slots = len(p.m.values[cell])
	}
	if next(seed, 15) == 0 {
		return one(seed, absentSlots(slots))
	}
	return next(seed, slots)
}

func (p pair) anyValue(seed *uint64) api.Value {
	switch next(seed, 14) {
	case 0:
		return one(seed, wrongValues())
	case 1:
		return one(seed, strayPointers(p.m.share))
	case 2, 3, 4:
		return one(seed, plainValues())
	}
	return point(next(seed, count(p.m.share)+1))
}

func (p pair) anyAct(seed *uint64, forgets bool) {
	p.t.Helper()
	cell := p.anyCell(seed)
	switch next(seed, 20) {
	case 0, 1, 2, 3:
		p.alloc(next(seed, 3))
	case 4:
		p.alloc(one(seed, absentClasses()))
	case 5, 6, 7:
		p.drop(cell)
	case 8:
		p.hold(cell)
	case 9, 10, 11, 12, 13, 14:
		p.put(cell, p.anySlot(seed, cell), p.anyValue(seed))
	case 15:
		p.get(cell, p.anySlot(seed, cell))
	case 16:
		p.cut(cell)
	case 17, 18:
		p.drain(next(seed, 6) - 1)
	case 19:
		if forgets {
			p.forget(cell, p.anyCell(seed), cell)
		} else {
			p.drain(next(seed, 200))
		}
	}
}

// P13.1, P13.2, P13.3, rule 3: through many acts, a heap tells what the sheet does, each word is what it ought to be, and each dead cell is covered; acts with errors change nothing that a later one tells.
func TestManyActs(t *testing.T) {
	for _, pl := range plots() {
		for seed := range uint64(6) {
			made(t, pl).walk(seed, 300, seed%2 == 1)
		}
	}
	for _, pl := range fullPlots() {
		made(t, pl).walk(5, 400, false)
		whole(t, plot{pl.share, 1, 0}).walk(6, 400, true)
	}
}

// P13.2, P13.3: a heap whose cells are all roots at first, of which many point to many; roots are dropped one by one.
func TestManyPointers(t *testing.T) {
	for seed := range uint64(8) {
		p := whole(t, ordinary())
		for cell, values := range p.m.values {
			for slot := range values {
				p.put(cell, slot, point(next(&seed, 9)))
			}
		}
		p.same()
		for range 9 {
			p.drop(one(&seed, p.h.Roots()))
			p.drain(next(&seed, 4))
			p.same()
		}
		p.drain(1000)
		p.same()
		for _, cell := range p.h.Candidates() {
			p.cut(cell)
			p.drain(next(&seed, 3))
			p.same()
		}
		p.drain(1000)
		p.same()
	}
}

// P2: two heaps, whose parts stand one behind the other in one arena, share nothing: neither sees the other one's acts, nor do its words change.
func TestNeighbours(t *testing.T) {
	s := api.Share{Cells: [3]int{2, 1, 2}, Quota: 14, Start: 3}
	words := wordsOf(s)
	a := marked(t, 2*words)
	first, e := heap.New(a, 0, s)
	second, e2 := heap.New(a, words, s)
	if e != api.OK || e2 != api.OK {
		t.Fatalf("New: errors %d, %d", e, e2)
	}
	busy := func(h *heap.Heap) {
		for class := range 3 {
			h.Alloc(class)
		}
		h.Put(0, 0, point(3))
		h.Put(3, 3, point(0))
		h.Drop(0)
		h.Drop(2)
		h.Drain(2)
		h.Drop(3)
		h.Alloc(0)
	}
	told := func(h *heap.Heap) []int {
		l := []int{h.Used(), h.Changes(), h.Pending(0), h.Pending(3)}
		l = append(append(append(l, h.Roots()...), h.Queue()...), h.Candidates()...)
		for cell := range 5 {
			x, _ := h.Header(cell)
			l = append(l, x.Gen, x.Count)
		}
		for _, node := range h.Graph().Nodes {
			l = append(append(l, node.ID), node.Out...)
		}
		return l
	}
	quiet, still := all(a)[words:], told(second)
	busy(first)
	if got := all(a)[words:]; !slices.Equal(got, quiet) || !slices.Equal(told(second), still) {
		t.Errorf("the second one's words are %x, want %x; it tells %v, want %v", got, quiet, told(second), still)
	}
	quiet, still = all(a)[:words], told(first)
	busy(second)
	if got := all(a); !slices.Equal(got[:words], quiet) || !slices.Equal(got[words:], quiet) {
		t.Errorf("the words are %x, want twice %x", got, quiet)
	}
	if !slices.Equal(told(first), still) || !slices.Equal(told(second), still) {
		t.Errorf("they tell %v, %v, want %v both times", told(first), told(second), still)
	}
}

// P2: heaps in parts of one arena, and in arenas of their own, that see acts by turns, each tell what their own sheet does.
func TestSideBySide(t *testing.T) {
	s := api.Share{Cells: [3]int{3, 2, 2}, Quota: 20, Start: lastStart - 2}
	words := wordsOf(s)
	a := marked(t, 2*words)
	var l []pair
	for i := range 2 {
		h, e := heap.New(a, i*words, s)
		if e != api.OK {
			t.Fatalf("New: error %d", e)
		}
		// Its sheet knows nothing of the other part's words: those are left to the third one.
		l = append(l, pair{t, a, h, newSheet(plot{share: s})})
	}
	l = append(l, made(t, plot{s, 2, 2}))
	seeds := []uint64{3, 4, 3}
	for range 600 {
		for i, p := range l {
			p.anyAct(&seeds[i], true)
			p.lists()
			p.graph()
			p.counted()
		}
	}
	l[2].same()
}

// P2: asking changes nothing.
func TestAskingChangesNothing(t *testing.T) {
	p := whole(t, ordinary())
	p.put(0, 0, point(6))
	p.put(6, 1, point(0))
	p.drop(0)
	p.drop(6)
	p.drain(1)
	for range 5 {
		p.same()
	}
	if p.drain(9) != 0 {
		t.Error("none ought to die")
	}
	p.same()
}

// Rule 4: what is answered is new memory, and stays as it is.
func TestAnswersAreNew(t *testing.T) {
	p := whole(t, ordinary())
	for slot, to := range []int{5, 2, 5, 6} {
		p.put(6, slot, point(to))
	}
	p.drop(5)
	p.drop(2)
	p.drain(1)
	g := p.h.Graph()
	lists := [][]int{p.h.Roots(), p.h.Queue(), p.h.Candidates(), g.Roots, g.Nodes[6].Out}
	var kept [][]int
	for _, l := range lists {
		if len(l) == 0 {
			t.Fatal("a list is empty")
		}
		kept = append(kept, slices.Clone(l))
	}
	p.drop(8)
	p.cut(6)
	p.drain(99)
	p.alloc(2)
	for i, l := range lists {
		if !slices.Equal(l, kept[i]) {
			t.Errorf("list %d became %v, was %v", i, l, kept[i])
		}
	}
	p.drop(6)
	spoil(p.h.Roots())
	spoil(p.h.Queue())
	spoil(p.h.Candidates())
	g = p.h.Graph()
	spoil(g.Roots)
	for i := range g.Nodes {
		spoil(g.Nodes[i].Out)
		g.Nodes[i] = api.Node{ID: -1}
	}
	p.same()
}

// spoil writes into a list, and into what its memory has behind it.
func spoil(l []int) {
	l = l[:cap(l)]
	for i := range l {
		l[i] = 4
	}
}

// Rule 4: the lists of one graph share no memory: what is written behind one's length is no other one's.
func TestListsOfAGraphAreApart(t *testing.T) {
	p := whole(t, ordinary())
	for cell, values := range p.m.values {
		for slot := range values {
			p.put(cell, slot, point((cell+slot)%9))
		}
	}
	g := p.h.Graph()
	spoil(g.Roots)
	for i, node := range g.Nodes {
		if !slices.Equal(node.Out, p.m.out(i)) {
			t.Errorf("node %d's Out became %v", i, node.Out)
		}
		spoil(node.Out)
	}
	if len(g.Roots) != 9 || slices.ContainsFunc(g.Roots, func(cell int) bool { return cell != 4 }) {
		t.Errorf("the roots became %v", g.Roots)
	}
}
