package tenant_test

import (
	"fmt"
	"maps"
	"math"
	"slices"
	"testing"

	"socage/api"
	"socage/arena"
	"socage/graph"
	"socage/tenant"
)

// P16.1: a new tenant, of each number, has no live cell, and uses nothing; its first words have its number.
func TestNew(t *testing.T) {
	for _, p := range append(plots(), fullPlots()...) {
		for owner := 1; owner <= 16; owner++ {
			p.number = owner
			w := made(t, p)
			if got := w.x.Usage(); got != number(0) || len(w.x.Heap().Graph().Nodes) != 0 {
				t.Errorf("%v: Usage %v, Graph %v", p, got, w.x.Heap().Graph())
			}
			for class, n := range p.share.Cells {
				if n > 0 && p.share.Quota > 1<<class {
					w.alloc(class)
				}
			}
		}
	}
	for owner, want := range map[int]uint64{1: 0x0400000000000001, 16: 0xf400000000000001} {
		a := marked(t, 2)
		x := newTenant(t, a, plot{api.Share{Cells: [3]int{1, 0, 0}, Quota: 2, Start: 1}, owner, 0, 0})
		if got := x.Alloc(0); got != pointer(want) {
			t.Errorf("tenant %d: %v, want %v", owner, got, pointer(want))
		}
	}
}

// refuse is that New tells ErrArg and no tenant, and leaves each word as it was.
func refuse(t *testing.T, a *arena.Arena, p plot) {
	t.Helper()
	before := all(a)
	if x, e := tenant.New(a, p.ahead, p.share, p.number); x != nil || e != api.ErrArg {
		t.Errorf("%v: New: %v, error %d, want nil, ErrArg", p, x, e)
	}
	if after := all(a); !slices.Equal(after, before) {
		t.Errorf("%v: New wrote: %x, was %x", p, after, before)
	}
}

// P16.1, P16.3: numbers that there are not; shares that may not be; a nil arena, places that it has not, and one that is a word too short.
func TestNewRefuses(t *testing.T) {
	a := marked(t, 60)
	for _, owner := range absentNumbers() {
		p := ordinary()
		p.number = owner
		refuse(t, a, p)
	}
	for _, s := range []api.Share{
		{}, {Start: -1}, {Start: greatest}, {Start: 1, Quota: -1}, {Start: 1, Quota: mostQuota + 1}, {Start: 1, Quota: math.MaxInt},
		{Start: 1, Cells: [3]int{-1, 0, 0}}, {Start: 1, Cells: [3]int{0, mostCells + 1, 0}}, {Start: 1, Cells: [3]int{0, 0, math.MaxInt}},
	} {
		refuse(t, a, plot{s, 1, 0, 0})
		refuse(t, a, plot{s, 17, 0, 0})
	}
	p := ordinary()
	for _, base := range []int{math.MinInt, -1, 60 - words(p.share) + 1, 60, 61, math.MaxInt} {
		p.ahead = base
		refuse(t, a, p)
	}
	p = ordinary()
	refuse(t, nil, p)
	refuse(t, marked(t, p.ahead+words(p.share)-1), p)
	p.share = api.Share{Start: 1}
	p.ahead = 61
	refuse(t, a, p)
}

// P16.1: acts of one tenant, written out by hand.
func TestOrdinary(t *testing.T) {
	x := made(t, ordinary()).x
	const (
		one   = 0x2400000000000005
		two   = 0x2400000300000005
		three = 0x2400000600000005
		again = 0x2400000300000006
	)
	for i, y := range []struct{ got, want api.Answer }{
		{x.Usage(), number(0)}, {x.Alloc(0), pointer(one)}, {x.Alloc(1), pointer(two)}, {x.Alloc(2), pointer(three)}, {x.Usage(), number(10)},
		{x.Load(three, 3), nothing}, {x.Store(three, 3, 0), nothing}, {x.Load(three, 3), number(0)}, {x.Store(three, 0, lastData), nothing}, {x.Load(three, 0), number(lastData)},
		{x.Point(three, 3, two), nothing}, {x.Point(two, 1, one), nothing}, {x.Point(one, 0, three), nothing}, {x.Drop(two), nothing}, {x.Load(two, 1), wrong(api.ErrStale)}, {x.Drain(9), number(0)},
		{x.Look(3, 5, 1), pointer(0)}, {x.Look(3, 5, 0), nothing}, {x.Look(6, 5, 0), number(lastData)}, {x.Load(three, 3), pointer(two)}, {x.Load(two, 1), pointer(one)}, {x.Load(two, 0), nothing},
		{x.Point(three, 3, 0), nothing}, {x.Load(three, 3), nothing}, {x.Drop(two), nothing}, {x.Look(3, 5, 1), pointer(0)}, {x.Drain(1), number(1)}, {x.Look(3, 5, 1), wrong(api.ErrRevoked)}, {x.Usage(), number(7)},
		{x.Alloc(1), pointer(again)}, {x.Load(again, 1), nothing}, {x.Load(two, 1), wrong(api.ErrStale)}, {x.Look(3, 6, 1), nothing}, {x.Collect(mostBudget), number(0)}, {x.Usage(), number(10)},
	} {
		if y.got != y.want {
			t.Errorf("%d: %v, want %v", i, y.got, y.want)
		}
	}
}

// P16.1, T4, T5: two cells that point to each other are dropped, and drained, and live; a round takes 4 units, then both are cut, drained, and die. What the size was can be allocated again.
func TestRing(t *testing.T) {
	w := made(t, plot{api.Share{Cells: [3]int{2, 1, 0}, Quota: 5, Start: 1}, 2, 0, 0})
	a, b := w.alloc(0).Word, w.alloc(0).Word
	w.point(a, 0, b)
	w.point(b, 0, a)
	w.drop(a)
	w.drop(b)
	for i, y := range []struct{ got, want api.Answer }{
		{w.drain(9), number(0)}, {w.usage(), number(4)}, {w.alloc(1), wrong(api.ErrQuota)}, {w.look(0, 1, 0), pointer(0)}, {w.collect(4), number(0)}, {w.look(0, 1, 0), pointer(0)},
		{w.collect(2), number(0)}, {w.look(0, 1, 0), nothing}, {w.collect(2), number(2)}, {w.look(0, 1, 0), wrong(api.ErrRevoked)}, {w.usage(), number(0)}, {w.collect(9), number(0)},
		{w.alloc(1), pointer(0x1400000200000001)}, {w.alloc(0), pointer(0x1400000000000002)},
	} {
		if y.got != y.want {
			t.Errorf("%d: %v, want %v", i, y.got, y.want)
		}
	}
	for _, of := range []uint64{a, b} {
		if _, e := w.cell(of); e != api.ErrStale {
			t.Errorf("%x: error %d, want ErrStale", of, e)
		}
	}
}

// P16.1: a change between units lets the round begin anew.
func TestRoundBegunAnew(t *testing.T) {
	w := made(t, plot{api.Share{Cells: [3]int{3, 0, 0}, Quota: 9, Start: 1}, 2, 0, 0})
	a, b, c := w.alloc(0).Word, w.alloc(0).Word, w.alloc(0).Word
	w.point(a, 0, b)
	w.point(b, 0, a)
	w.drop(a)
	w.drop(b)
	w.collect(5)
	w.store(c, 0, 7)
	if got := w.collect(4); got != number(0) || w.look(0, 1, 0) != pointer(0) {
		t.Errorf("Collect: %v", got)
	}
	if got := w.collect(4); got != number(2) {
		t.Errorf("Collect: %v, want 2", got)
	}
}

// P16.1, T5: what is told is a cell of that class, with its number and generation; classes that there are not; no room, and the quota, which is named ahead of that.
func TestAlloc(t *testing.T) {
	for class := range 3 {
		w := made(t, ordinary())
		for i := range 3 {
			if got, want := w.alloc(class), pointer(word(3, rootKind, 3*class+i, 5)); got != want {
				t.Errorf("class %d: %v, want %v", class, got, want)
			}
		}
		if got := w.alloc(class); got != wrong(api.ErrFull) {
			t.Errorf("class %d: %v, want ErrFull", class, got)
		}
		for _, none := range absentClasses() {
			if got := w.alloc(none); got != wrong(api.ErrOp) {
				t.Errorf("class %d: %v, want ErrOp", none, got)
			}
		}
	}
	for class := range 3 {
		for less := range 2 {
			s := api.Share{Quota: 2*(2+1<<class) - 2 - less, Start: 1}
			s.Cells[class] = 3
			w := made(t, plot{s, 1, 0, 0})
			w.alloc(class)
			want := pointer(word(1, rootKind, 1, 1))
			if less > 0 {
				want = wrong(api.ErrQuota)
			}
			if got := w.alloc(class); got != want {
				t.Errorf("class %d, quota %d: %v, want %v", class, s.Quota, got, want)
			}
		}
	}
	w := made(t, plot{api.Share{Cells: [3]int{1, 0, 1}, Quota: 7, Start: 1}, 1, 0, 0})
	w.alloc(0)
	for i, y := range []struct {
		class int
		want  api.Answer
	}{{0, wrong(api.ErrFull)}, {1, wrong(api.ErrFull)}, {3, wrong(api.ErrOp)}, {2, pointer(word(1, rootKind, 1, 1))}, {0, wrong(api.ErrQuota)}, {1, wrong(api.ErrQuota)}, {2, wrong(api.ErrQuota)}, {-1, wrong(api.ErrOp)}} {
		if got := w.alloc(y.class); got != y.want {
			t.Errorf("%d: Alloc of class %d: %v, want %v", i, y.class, got, y.want)
		}
	}
}

// varied is a tenant, and of each kind of word some, with what it ought to be told: of cells that are roots, live but none, freed, retired, and never allocated, at each generation around theirs.
func varied(t *testing.T) (*twin, map[uint64]api.Errno) {
	t.Helper()
	w := made(t, plot{api.Share{Cells: [3]int{2, 2, 2}, Quota: 99, Start: lastStart - 1}, 3, 2, 1})
	held, inner := w.alloc(2).Word, w.alloc(1).Word
	w.point(held, 0, inner)
	w.drop(inner)
	// Cell 3 lives once, and is freed; cell 0 lives twice, and is retired.
	w.drop(w.alloc(1).Word)
	w.drain(9)
	for range 2 {
		w.drop(w.alloc(0).Word)
		w.drain(9)
	}
	const gen = lastStart - 1
	m := map[uint64]api.Errno{
		held: api.OK, held - 1: api.ErrStale, held + 1: api.ErrHandle, word(3, rootKind, 4, 0): api.ErrStale, word(3, rootKind, 4, greatest): api.ErrHandle,
		inner: api.ErrStale, inner - 1: api.ErrStale, inner + 1: api.ErrHandle, word(3, rootKind, 2, greatest): api.ErrHandle,
		word(3, rootKind, 3, gen): api.ErrStale, word(3, rootKind, 3, gen+1): api.ErrStale, word(3, rootKind, 3, gen+2): api.ErrHandle,
		word(3, rootKind, 0, gen): api.ErrStale, word(3, rootKind, 0, gen+1): api.ErrStale, word(3, rootKind, 0, greatest): api.ErrStale,
		word(3, rootKind, 1, gen): api.ErrStale, word(3, rootKind, 1, gen-1): api.ErrStale, word(3, rootKind, 1, gen+1): api.ErrHandle,
		word(3, rootKind, 5, gen): api.ErrStale, word(3, rootKind, 5, gen+1): api.ErrHandle,
		0: api.ErrHandle, 1: api.ErrHandle, math.MaxUint64: api.ErrHandle, 1 << 63: api.ErrHandle,
	}
	for _, gen := range []int{0, 1, gen, greatest} {
		for _, index := range []int{6, 7, 191, 192, lastIndex} {
			m[word(3, rootKind, index, gen)] = api.ErrHandle
		}
	}
	for _, index := range []int{0, 1, 2, 3, 4, 5, 6, lastIndex} {
		for owner := 1; owner <= 16; owner++ {
			for kind := range 4 {
				if owner != 3 || kind != rootKind {
					m[word(owner, kind, index, gen)] = api.ErrHandle
				}
			}
		}
	}
	return w, m
}

// P16.1, P16.2, P16.3: what each word names, and its error, which each call tells whose word it is, and changes nothing.
func TestWords(t *testing.T) {
	w, m := varied(t)
	for _, of := range slices.Sorted(maps.Keys(m)) {
		want := m[of]
		cell, e := w.cell(of)
		if e != want || (e == api.OK) != (cell == 4) || e != api.OK && cell != 0 {
			t.Errorf("Cell of %016x: %d, error %d, want %d", of, cell, e, want)
		}
		if want == api.OK {
			continue
		}
		held := w.at(4)
		acts := map[string]api.Answer{"Drop": w.drop(of), "Load": w.load(of, 0), "Store": w.store(of, 0, 7), "Point": w.point(of, 0, held), "Point to nil": w.point(of, 0, 0), "Point to itself": w.point(of, 0, of)}
		if of != 0 {
			acts["Point to it"] = w.point(held, 0, of)
		}
		for what, got := range acts {
			if got != wrong(want) {
				t.Errorf("%s of %016x: %v, want error %d", what, of, got, want)
			}
		}
	}
}

// P16.1: a word that is dropped is stale, also while its cell lives on; told anew, it names it again, and need be dropped but once.
func TestDrop(t *testing.T) {
	w := made(t, ordinary())
	p, q := w.alloc(2).Word, w.alloc(0).Word
	w.point(p, 0, q)
	for range 3 {
		if got := w.drop(q); got != nothing {
			t.Errorf("Drop: %v", got)
		}
		if got := w.drop(q); got != wrong(api.ErrStale) {
			t.Errorf("a second Drop: %v, want ErrStale", got)
		}
		for range 2 {
			if got := w.load(p, 0); got != pointer(q) {
				t.Errorf("Load: %v, want %x", got, q)
			}
		}
		w.drain(1)
	}
	w.drop(p)
	w.drain(9)
	if got := w.load(q, 0); got != nothing {
		t.Errorf("Load: %v: it is a root still", got)
	}
	if w.drop(q); w.drain(9) != number(1) || w.usage() != number(0) {
		t.Errorf("Usage %v", w.usage())
	}
}

// P16.1: Load of nil, of a number, of a pointer to a root, which changes nothing, and of one to a cell that is none, which then is one; each slot, and those that there are not.
func TestLoad(t *testing.T) {
	for class := range 3 {
		w := made(t, ordinary())
		p, q := w.alloc(class).Word, w.alloc(2).Word
		w.store(q, 1, 5)
		for slot := range 1 << class {
			if got := w.load(p, slot); got != nothing {
				t.Errorf("slot %d: %v, want nil", slot, got)
			}
			w.store(p, slot, 70+uint64(slot))
			if got := w.load(p, slot); got != number(70+uint64(slot)) {
				t.Errorf("slot %d: %v", slot, got)
			}
			w.point(p, slot, q)
			changes := w.x.Heap().Changes()
			if got := w.load(p, slot); got != pointer(q) || w.x.Heap().Changes() != changes {
				t.Errorf("slot %d: %v, want %x; Changes %d, were %d", slot, got, q, w.x.Heap().Changes(), changes)
			}
			w.drop(q)
			if got := w.load(p, slot); got != pointer(q) || w.x.Heap().Changes() != changes+2 || w.load(q, 1) != number(5) {
				t.Errorf("slot %d: %v, want %x; Changes %d, were %d", slot, got, q, w.x.Heap().Changes(), changes)
			}
		}
		for _, slot := range absentSlots(1 << class) {
			if got := w.load(p, slot); got != wrong(api.ErrOp) {
				t.Errorf("slot %d: %v, want ErrOp", slot, got)
			}
		}
	}
}

// P16.1: what is loaded from a cell that was loaded: each one is told as it is come to, though none but the first was a root.
func TestLoadOnAndOn(t *testing.T) {
	w := whole(t, plot{api.Share{Cells: [3]int{6, 0, 0}, Quota: 99, Start: 3}, 1, 0, 0})
	for cell := range 5 {
		w.point(w.at(cell), 0, w.at(cell+1))
	}
	for cell := range 5 {
		w.drop(w.at(cell + 1))
	}
	w.drain(9)
	for cell := range 5 {
		if got := w.load(w.at(cell), 0); got != pointer(w.at(cell+1)) {
			t.Errorf("cell %d: %v", cell, got)
		}
		if w.drop(w.at(cell)); w.drain(9) != number(1) {
			t.Errorf("cell %d lives still", cell)
		}
	}
	if w.usage() != number(2) || w.load(w.at(5), 0) != nothing {
		t.Errorf("Usage %v", w.usage())
	}
}

// P16.1: numbers from 0 to 2^63 less 1, over one another and over pointers, into each slot; greater ones, and slots that there are not.
func TestStore(t *testing.T) {
	for class := range 3 {
		w := made(t, ordinary())
		p, q := w.alloc(class).Word, w.alloc(2).Word
		for slot := range 1 << class {
			for _, n := range []uint64{0, 1, 77, 1 << 62, lastData - 1, lastData} {
				w.point(p, slot, q)
				if got := w.store(p, slot, n); got != nothing || w.load(p, slot) != number(n) {
					t.Errorf("slot %d, number %d: %v", slot, n, got)
				}
			}
			for _, n := range []uint64{lastData + 1, lastData + 2, math.MaxUint64} {
				if got := w.store(p, slot, n); got != wrong(api.ErrOp) || w.load(p, slot) != number(lastData) {
					t.Errorf("slot %d, number %d: %v, want ErrOp", slot, n, got)
				}
			}
		}
		for _, slot := range absentSlots(1 << class) {
			for _, n := range []uint64{0, 1, lastData + 1} {
				if got := w.store(p, slot, n); got != wrong(api.ErrOp) {
					t.Errorf("slot %d, number %d: %v, want ErrOp", slot, n, got)
				}
			}
		}
	}
}

// P16.1: Point to a cell, to itself, and to 0, which is nil, over one another, into each slot; slots that there are not.
func TestPoint(t *testing.T) {
	for class := range 3 {
		w := made(t, ordinary())
		p, q := w.alloc(class).Word, w.alloc(2).Word
		for slot := range 1 << class {
			for _, to := range []uint64{q, p, q, q, 0, p, p, 0, 0} {
				want := pointer(to)
				if to == 0 {
					want = nothing
				}
				if got := w.point(p, slot, to); got != nothing || w.load(p, slot) != want {
					t.Errorf("slot %d: %v", slot, got)
				}
			}
			w.store(p, slot, 3)
			w.point(p, slot, q)
		}
		for _, slot := range absentSlots(1 << class) {
			for _, to := range []uint64{0, p, q} {
				if got := w.point(p, slot, to); got != wrong(api.ErrOp) {
					t.Errorf("slot %d: %v, want ErrOp", slot, got)
				}
			}
		}
		for cell := range 9 {
			w.drop(w.at(cell))
		}
		w.collect(mostBudget)
		if w.usage() != number(0) {
			t.Errorf("class %d: Usage %v", class, w.usage())
		}
	}
}

// P16.1, rule 1: where several errors apply, the word's is named ahead of the slot's, and that ahead of the other word's.
func TestErrorsInOrder(t *testing.T) {
	w := made(t, ordinary())
	p, q := w.alloc(0).Word, w.alloc(0).Word
	w.drop(q)
	far := p + 1
	for i, y := range []struct{ got, want api.Answer }{
		{w.load(q, 1), wrong(api.ErrStale)}, {w.load(far, -1), wrong(api.ErrHandle)}, {w.load(p, 1), wrong(api.ErrOp)},
		{w.store(q, 1, 1<<63), wrong(api.ErrStale)}, {w.store(q, 0, 1<<63), wrong(api.ErrStale)}, {w.store(q, 1, 0), wrong(api.ErrStale)}, {w.store(far, 1, 1<<63), wrong(api.ErrHandle)}, {w.store(p, 1, 1<<63), wrong(api.ErrOp)}, {w.store(p, 0, 1<<63), wrong(api.ErrOp)},
		{w.point(q, 1, far), wrong(api.ErrStale)}, {w.point(q, 0, far), wrong(api.ErrStale)}, {w.point(q, 1, p), wrong(api.ErrStale)}, {w.point(q, 1, 0), wrong(api.ErrStale)}, {w.point(far, 1, q), wrong(api.ErrHandle)}, {w.point(far, 0, q), wrong(api.ErrHandle)},
		{w.point(p, 1, q), wrong(api.ErrOp)}, {w.point(p, 1, far), wrong(api.ErrOp)}, {w.point(p, -1, 0), wrong(api.ErrOp)}, {w.point(p, 0, q), wrong(api.ErrStale)}, {w.point(p, 0, far), wrong(api.ErrHandle)}, {w.point(0, 0, 0), wrong(api.ErrHandle)},
		{w.look(1, 4, 1), wrong(api.ErrRevoked)}, {w.look(2, 5, 1), wrong(api.ErrRevoked)}, {w.look(9, 5, -1), wrong(api.ErrRevoked)}, {w.look(1, 5, 1), wrong(api.ErrOp)}, {w.load(p, 0), nothing},
	} {
		if y.got != y.want {
			t.Errorf("%d: %v, want %v", i, y.got, y.want)
		}
	}
}

// P16.1: as many units are done as the budget is, and as many died as is told; the least and the greatest budget; wrong ones, at which nothing is done.
func TestBudgets(t *testing.T) {
	for _, budget := range []int{1, 2, 4, 8, 9, 10, mostBudget - 1, mostBudget} {
		drained, collected := whole(t, ordinary()), whole(t, ordinary())
		for i, w := range []*twin{drained, collected} {
			work := []func(int) api.Answer{w.drain, w.collect}[i]
			for cell := range 9 {
				w.drop(w.at(cell))
			}
			for _, none := range wrongBudgets() {
				if d, c := w.drain(none), w.collect(none); d != wrong(api.ErrOp) || c != wrong(api.ErrOp) {
					t.Errorf("budget %d: %v, %v, want ErrOp", none, d, c)
				}
			}
			if got, want := work(budget), number(uint64(min(budget, 9))); got != want || len(w.x.Heap().Queue()) != max(9-budget, 0) {
				t.Errorf("budget %d: %v, want %v, Queue %v", budget, got, want, w.x.Heap().Queue())
			}
			work(mostBudget)
			if got := work(1); got != number(0) || w.usage() != number(0) {
				t.Errorf("budget %d: then %v, Usage %v", budget, got, w.usage())
			}
		}
	}
}

// P16.1: to drain does no other unit: a ring lives on, whatever is drained.
func TestDrainIsNoCollect(t *testing.T) {
	w := made(t, ordinary())
	p := w.alloc(0).Word
	w.point(p, 0, p)
	w.drop(p)
	for range 3 {
		if got := w.drain(mostBudget); got != number(0) || w.usage() != number(2) {
			t.Errorf("Drain %v, Usage %v", got, w.usage())
		}
	}
	if got := w.collect(mostBudget); got != number(1) || w.usage() != number(0) {
		t.Errorf("Collect %v, Usage %v", got, w.usage())
	}
}

// P16.1: what is used is the size of what is live: what is dropped, but not drained, too.
func TestUsage(t *testing.T) {
	w := whole(t, ordinary())
	used := 30
	for cell := range 9 {
		w.drop(w.at(cell))
		if w.usage() != number(uint64(used)) {
			t.Errorf("Usage %v, want %d", w.usage(), used)
		}
		w.drain(1)
		used -= []int{2, 3, 5}[cell/3]
		if w.usage() != number(uint64(used)) {
			t.Errorf("Usage %v, want %d", w.usage(), used)
		}
	}
}

// P16.1: Look at each slot of a cell, whether it is a root or not, at its generation, one less, and one more; pointers are told without a word, and what they point to is no root by that; cells that there are not, that are free, or have died.
func TestLook(t *testing.T) {
	w := made(t, ordinary())
	p, q := w.alloc(2).Word, w.alloc(1).Word
	w.point(p, 0, q)
	w.point(p, 1, p)
	w.store(p, 2, lastData)
	w.point(q, 1, p)
	w.store(q, 0, 0)
	w.drop(q)
	want := map[int][]api.Answer{6: {pointer(0), pointer(0), number(lastData), nothing}, 3: {number(0), pointer(0)}}
	looks := func() {
		t.Helper()
		for cell, slots := range want {
			for slot, shown := range slots {
				if got := w.look(cell, 5, slot); got != shown {
					t.Errorf("cell %d, slot %d: %v, want %v", cell, slot, got, shown)
				}
			}
			for _, slot := range append(absentSlots(len(slots)), 0) {
				for _, gen := range []int{math.MinInt, -1, 0, 4, 6, greatest, greatest + 1, 1<<32 + 5, math.MaxInt} {
					if got := w.look(cell, gen, slot); got != wrong(api.ErrRevoked) {
						t.Errorf("cell %d, generation %d, slot %d: %v, want ErrRevoked", cell, gen, slot, got)
					}
				}
				if got := w.look(cell, 5, slot); slot != 0 && got != wrong(api.ErrOp) {
					t.Errorf("cell %d, slot %d: %v, want ErrOp", cell, slot, got)
				}
			}
		}
		for _, cell := range append(absentCells(9), 0, 1, 2, 4, 5, 7, 8) {
			for _, gen := range []int{math.MinInt, -1, 0, 4, 5, 6, greatest, math.MaxInt} {
				if got := w.look(cell, gen, 0); got != wrong(api.ErrRevoked) {
					t.Errorf("cell %d, generation %d: %v, want ErrRevoked", cell, gen, got)
				}
			}
		}
	}
	looks()
	w.drop(p)
	looks()
	w.drain(9)
	looks()
	w.collect(mostBudget)
	for cell := range want {
		for _, gen := range []int{5, 6} {
			if got := w.look(cell, gen, 0); got != wrong(api.ErrRevoked) {
				t.Errorf("cell %d, generation %d: %v, want ErrRevoked", cell, gen, got)
			}
		}
	}
	if got := w.alloc(2); got != pointer(word(3, rootKind, 6, 6)) || w.look(6, 6, 2) != nothing || w.look(6, 5, 2) != wrong(api.ErrRevoked) {
		t.Errorf("Alloc %v, Look %v, %v", got, w.look(6, 6, 2), w.look(6, 5, 2))
	}
}

// full lets a live cell's count be another one, in both arenas, behind everyone's back.
func (w *twin) full(cell, n int) {
	w.t.Helper()
	x, _ := w.m.h.Header(cell)
	for _, a := range []*arena.Arena{w.a, w.m.a} {
		a.Write(w.m.ahead+headerAt(w.m.share, cell), uint64(x.Gen)<<32|1<<31|uint64(n))
	}
}

// P16.1, P16.3: a count that can't be more: neither is what is loaded held, nor does a slot point to it; that is told behind all other errors.
func TestFull(t *testing.T) {
	w := made(t, ordinary())
	p, q := w.alloc(2).Word, w.alloc(1).Word
	w.point(p, 0, q)
	w.full(3, lastCount)
	for i, y := range []struct{ got, want api.Answer }{
		{w.point(p, 0, q), wrong(api.ErrFull)}, {w.point(p, 3, q), wrong(api.ErrFull)}, {w.point(p, 4, q), wrong(api.ErrOp)}, {w.point(p, 0, q+1), wrong(api.ErrHandle)}, {w.load(p, 0), pointer(q)}, {w.load(p, 3), nothing}, {w.point(q, 0, p), nothing},
		{w.drop(q), nothing}, {w.load(p, 0), wrong(api.ErrFull)}, {w.load(p, 4), wrong(api.ErrOp)}, {w.load(q, 0), wrong(api.ErrStale)}, {w.point(p, 3, q), wrong(api.ErrStale)},
	} {
		if y.got != y.want {
			t.Errorf("%d: %v, want %v", i, y.got, y.want)
		}
	}
	w.full(3, lastCount-1)
	if got := w.load(p, 0); got != pointer(q) {
		t.Errorf("Load: %v, want %x", got, q)
	}
	w.full(3, lastCount-1)
	if got := w.point(p, 3, q); got != nothing {
		t.Errorf("Point: %v", got)
	}
}

// P16.1, P1, rule 8: a nil tenant, whatever else is wrong.
func TestNilTenant(t *testing.T) {
	var x *tenant.Tenant
	for _, of := range []uint64{0, 1, 0x0400000000000001, math.MaxUint64} {
		if cell, e := x.Cell(of); cell != 0 || e != api.ErrArg {
			t.Errorf("Cell: %d, error %d", cell, e)
		}
		for _, n := range []int{math.MinInt, -1, 0, 1, 2, 3, mostBudget, mostBudget + 1, math.MaxInt} {
			for what, got := range map[string]api.Answer{
				"Alloc": x.Alloc(n), "Drop": x.Drop(of), "Load": x.Load(of, n), "Store": x.Store(of, n, of), "Point": x.Point(of, n, of),
				"Drain": x.Drain(n), "Collect": x.Collect(n), "Usage": x.Usage(), "Look": x.Look(n, n, n),
			} {
				if got != wrong(api.ErrArg) {
					t.Errorf("%s: %v, want ErrArg", what, got)
				}
			}
		}
	}
	if h := x.Heap(); h != nil {
		t.Errorf("Heap: %v", h)
	}
}

// P16.2, T3: a cell that is freed, and allocated again, has another word each time; the old ones are stale for ever, also when it is retired.
func TestLives(t *testing.T) {
	w := made(t, plot{api.Share{Cells: [3]int{1, 0, 0}, Quota: 9, Start: greatest - 5}, 7, 1, 1})
	for life := range 5 {
		got := w.alloc(0)
		if want := pointer(word(7, rootKind, 0, greatest-5+life)); got != want {
			t.Fatalf("life %d: %v, want %v", life, got, want)
		}
		w.store(got.Word, 0, 9)
		w.drop(got.Word)
		w.drain(1)
		for gen := greatest - 6; gen <= greatest; gen++ {
			want := api.ErrStale
			if gen > greatest-4+life {
				want = api.ErrHandle
			}
			if _, e := w.cell(word(7, rootKind, 0, gen)); e != want {
				t.Errorf("life %d, generation %d: error %d, want %d", life, gen, e, want)
			}
		}
	}
	if got := w.alloc(0); got != wrong(api.ErrFull) || w.usage() != number(0) {
		t.Errorf("Alloc %v, Usage %v: it ought to be retired", got, w.usage())
	}
}

// P16.1, P16.2, P16.3, P1: many acts of all kinds, right and wrong, of shares of each class and of more than one, each held against the sheet; then 16 units for each cell, and 16 more, leave just what is reached (T4).
func TestManyActs(t *testing.T) {
	for i, p := range plots() {
		for run := range 12 {
			seed := uint64(1000*i + run)
			w := made(t, p)
			for range 250 {
				w.anyAct(&seed)
			}
			w.settle()
		}
	}
}

// settle does as many units as are enough, and holds that what is live is reached.
func (w *twin) settle() {
	w.t.Helper()
	w.collect(enough(w.m.share))
	h := w.x.Heap()
	if dead := graph.Dead(h.Graph()); len(dead) > 0 || len(h.Queue()) > 0 {
		w.t.Fatalf("%v: dead cells live still: %v, Queue %v", w.m.plot, dead, h.Queue())
	}
}

// T5, P16.1: of shares of many cells, which all point to any others, each act touches few words (each one's twin holds that).
func TestFewWords(t *testing.T) {
	for i, p := range fullPlots() {
		seed := uint64(i)
		w := whole(t, p)
		for range 300 {
			of := w.good(&seed)
			cell, _ := w.cell(of)
			w.point(of, next(&seed, w.x.Heap().Slots(cell)), w.good(&seed))
		}
		for range 150 {
			w.anyAct(&seed)
			w.drop(w.good(&seed))
		}
		w.settle()
	}
}

// names is that just the words of told name cells, out of these, and of those of each cell at each generation up to a greatest one.
func names(t *testing.T, x *tenant.Tenant, p plot, told map[uint64]bool, ever map[uint64]int, last int) {
	t.Helper()
	for cell := range count(p.share) {
		for gen := p.share.Start - 1; gen <= last; gen++ {
			of := word(p.number, rootKind, cell, gen)
			got, e := x.Cell(of)
			if (e == api.OK) != told[of] || told[of] && got != cell || !told[of] && got != 0 {
				t.Fatalf("%v: Cell of %016x: %d, error %d; told, and not dropped: %v", p, of, got, e, told[of])
			}
			if e == api.ErrHandle && ever[of] > 0 {
				t.Fatalf("%v: Cell of %016x: ErrHandle, of one that was told", p, of)
			}
		}
	}
	if n := len(x.Heap().Roots()); n != len(told) {
		t.Fatalf("%v: %d roots, want %d", p, n, len(told))
	}
}

// P16.2 (issued): by the acts alone, without a sheet: behind any acts a word names a cell just if Alloc or Load told it, and no Drop ended it; Alloc never tells one that was told ahead of it, Load just such as Alloc did.
func TestIssued(t *testing.T) {
	for i, p := range plots() {
		p.share.Start = min(p.share.Start, greatest-6)
		seed := uint64(77 + i)
		x := newTenant(t, marked(t, p.ahead+words(p.share)+p.behind), p)
		told, ever := map[uint64]bool{}, map[uint64]int{}
		pick := func() uint64 {
			l := slices.Sorted(maps.Keys(ever))
			if len(told) > 0 && next(&seed, 5) > 0 {
				l = slices.Sorted(maps.Keys(told))
			}
			if len(l) == 0 {
				return 0
			}
			return one(&seed, l) + one(&seed, []uint64{0, 0, 0, 0, 0, 0, 1, math.MaxUint64})
		}
		for range 700 {
			of, slot := pick(), next(&seed, 4)
			was := told[of]
			got := wrong(api.OK)
			switch next(&seed, 8) {
			case 0, 1:
				got, was = x.Alloc(next(&seed, 3)), true
				if got.Kind == api.Pointer {
					ever[got.Word]++
					told[got.Word] = true
					if ever[got.Word] > 1 {
						t.Fatalf("%v: Alloc told %016x twice", p, got.Word)
					}
				}
			case 2, 3:
				got = x.Drop(of)
				delete(told, of)
			case 4:
				got = x.Load(of, slot)
				if got.Kind == api.Pointer {
					told[got.Word] = true
					if ever[got.Word] == 0 {
						t.Fatalf("%v: Load told %016x, which Alloc never did", p, got.Word)
					}
				}
			case 5:
				got = x.Point(of, slot, pick())
			case 6:
				got = x.Point(of, slot, of)
			case 7:
				got, was = x.Collect(1+next(&seed, 20)), true
			}
			if !was && got != wrong(api.ErrStale) && got != wrong(api.ErrHandle) {
				t.Fatalf("%v: %v by %016x, which names none", p, got, of)
			}
			names(t, x, p, told, ever, min(p.share.Start+40, greatest))
		}
	}
}

// state is all that a tenant's heap, and its arena, tell.
func state(x *tenant.Tenant, a *arena.Arena, p plot) string {
	h := x.Heap()
	s := fmt.Sprint(h.Graph(), h.Roots(), h.Queue(), h.Candidates(), h.Used(), h.Changes(), x.Usage(), all(a))
	for cell := range count(p.share) {
		header, e := h.Header(cell)
		s += fmt.Sprint(header, e, h.Pending(cell))
		for slot := range h.Slots(cell) {
			v, e := h.Get(cell, slot)
			s += fmt.Sprint(v, e, x.Look(cell, header.Gen, slot))
		}
	}
	for class := range 3 {
		s += fmt.Sprint(h.Room(class))
	}
	return s
}

// P16.3 (errors): behind any acts, one whose answer has an error tells nothing else, and changes nothing that is told.
func TestErrorsChangeNothing(t *testing.T) {
	seen := map[api.Errno]int{}
	for i, p := range plots() {
		seed := uint64(500 + i)
		w := made(t, p)
		for range 400 {
			before := state(w.x, w.a, p)
			got := w.anyAct(&seed)
			if got.Error == api.OK {
				continue
			}
			seen[got.Error]++
			if got != wrong(got.Error) {
				t.Fatalf("%v: %v tells more than an error", p, got)
			}
			if after := state(w.x, w.a, p); after != before {
				t.Fatalf("%v: %v changed what is told: %s, was %s", p, got, after, before)
			}
		}
	}
	for _, e := range []api.Errno{api.ErrOp, api.ErrHandle, api.ErrStale, api.ErrRevoked, api.ErrQuota, api.ErrFull} {
		if seen[e] == 0 {
			t.Errorf("no act had the error %d", e)
		}
	}
}

// P16.3: between the units of a round, of cuts, and of what is drained then, acts with errors, and such as ask alone, change nothing of what the units do.
func TestErrorsBetweenUnits(t *testing.T) {
	ring := func() *twin {
		w := made(t, ordinary())
		p, q, r := w.alloc(0).Word, w.alloc(1).Word, w.alloc(2).Word
		w.point(p, 0, q)
		w.point(q, 0, r)
		w.point(r, 0, p)
		for _, of := range []uint64{q, r, p} {
			w.drop(of)
		}
		return w
	}
	quiet, asked := ring(), ring()
	free := asked.alloc(0).Word
	quiet.alloc(0)
	for unit := range 20 {
		for _, got := range []api.Answer{
			asked.drop(asked.at(3)), asked.load(free, 1), asked.load(0, 0), asked.store(free, 0, lastData+1), asked.point(free, 0, free+1), asked.point(free, 0, asked.at(6)),
			asked.alloc(3), asked.drain(0), asked.collect(0), asked.collect(mostBudget + 1), asked.look(0, 99, 0), asked.look(1, 5, 9),
		} {
			if got.Error == api.OK {
				t.Errorf("unit %d: %v, want an error", unit, got)
			}
		}
		asked.usage()
		asked.look(1, 5, 0)
		asked.cell(free)
		asked.load(free, 0)
		if got, want := asked.collect(1), quiet.collect(1); got != want {
			t.Errorf("unit %d: %v, want %v", unit, got, want)
		}
		if got, want := state(asked.x, asked.a, asked.m.plot), state(quiet.x, quiet.a, quiet.m.plot); got != want {
			t.Fatalf("unit %d: %s, want %s", unit, got, want)
		}
	}
	if asked.usage() != number(2) {
		t.Errorf("Usage %v, want 2", asked.usage())
	}
}

// P2: two tenants, whose words stand one behind the other in one arena, share nothing: neither sees the other one's acts, nor do its words change; a word of one is no handle of the other one's.
func TestTwoTenants(t *testing.T) {
	s := api.Share{Cells: [3]int{2, 2, 2}, Quota: 15, Start: 5}
	near, far := plot{s, 3, 0, words(s)}, plot{s, 4, words(s), 0}
	a := marked(t, 2*words(s))
	x, y := newTenant(t, a, near), newTenant(t, a, far)
	v, w := newSheet(t, near), newSheet(t, far)
	// Both look at one arena; each sheet's has the other one's words as they are.
	both := []*twin{{t, a, x, v}, {t, a, y, w}}
	mirror := func() {
		for at := range words(s) {
			u, _ := a.Read(at)
			w.a.Write(at, u)
			u, _ = a.Read(words(s) + at)
			v.a.Write(words(s)+at, u)
		}
	}
	mirror()
	seed := uint64(3)
	for range 1500 {
		z, other := both[0], both[1]
		if next(&seed, 2) == 0 {
			z, other = other, z
		}
		z.anyAct(&seed)
		mirror()
		other.same()
		for _, of := range slices.Sorted(maps.Keys(z.m.told)) {
			if cell, e := other.x.Cell(of); cell != 0 || e != api.ErrHandle {
				t.Fatalf("a word of the other one's: %d, error %d", cell, e)
			}
			if got := other.x.Drop(of); got != wrong(api.ErrHandle) {
				t.Fatalf("Drop of a word of the other one's: %v", got)
			}
			if held := other.good(&seed); held != 0 {
				if got := other.x.Point(held, 0, of); got != wrong(api.ErrHandle) {
					t.Fatalf("Point to a word of the other one's: %v", got)
				}
			}
		}
		other.same()
	}
}

// P2: two tenants that see the same acts answer alike, also with other numbers, but for the words' tenant, and at other places.
func TestAlike(t *testing.T) {
	p := ordinary()
	q := p
	q.number, q.ahead, q.behind = 12, 0, 9
	v, w := made(t, p), made(t, q)
	moved := func(of uint64) uint64 {
		if of == 0 {
			return 0
		}
		return of + (12-3)<<60
	}
	seed := uint64(8)
	for i := range 800 {
		of, to, slot, n := v.anyWord(&seed), v.anyWord(&seed), next(&seed, 5), next(&seed, 9)
		var got, want api.Answer
		switch i % 7 {
		case 0, 1:
			got, want = w.alloc(n%4), v.alloc(n%4)
		case 2:
			got, want = w.drop(moved(of)), v.drop(of)
		case 3:
			got, want = w.load(moved(of), slot), v.load(of, slot)
		case 4, 5:
			got, want = w.point(moved(of), slot, moved(to)), v.point(of, slot, to)
		case 6:
			got, want = w.collect(n), v.collect(n)
		}
		if want.Kind == api.Pointer {
			want.Word = moved(want.Word)
		}
		if got != want {
			t.Fatalf("%d: %v, want %v", i, got, want)
		}
	}
}

// P2: Cell, Usage, Look and Heap change nothing, and what is asked twice is answered alike.
func TestAskingChangesNothing(t *testing.T) {
	seed := uint64(21)
	w := made(t, ordinary())
	h := w.x.Heap()
	for range 200 {
		w.anyAct(&seed)
		before := state(w.x, w.a, w.m.plot)
		for range 2 {
			w.cell(w.anyWord(&seed))
			w.usage()
			w.look(next(&seed, 9), 5+next(&seed, 3), next(&seed, 4))
			if w.x.Heap() == nil || w.x.Heap() != h {
				t.Fatal("Heap is another one")
			}
		}
		if after := state(w.x, w.a, w.m.plot); after != before {
			t.Fatalf("%s, was %s", after, before)
		}
	}
}

// P1: any arguments, of any size, in any order: no call panics, and all end.
func TestAnyArguments(t *testing.T) {
	numbers := []int{math.MinInt, math.MinInt + 1, -1 << 32, -1, 0, 1, 2, 3, 4, 5, 6, 191, 192, lastIndex, lastIndex + 1, mostBudget, greatest, greatest + 1, math.MaxInt}
	seed := uint64(4)
	for _, p := range plots() {
		w := made(t, p)
		for range 400 {
			of, to := w.anyWord(&seed), w.anyWord(&seed)
			if next(&seed, 3) == 0 {
				to = uint64(next(&seed, math.MaxInt32)) << next(&seed, 34)
			}
			n, k, l := one(&seed, numbers), one(&seed, numbers), one(&seed, numbers)
			switch next(&seed, 8) {
			case 0:
				w.alloc(n)
			case 1:
				w.drop(to)
			case 2:
				w.load(of, n)
			case 3:
				w.store(of, n, to)
			case 4:
				w.point(of, n, to)
			case 5:
				w.drain(n)
			case 6:
				w.collect(n)
			case 7:
				w.look(n, k, l)
			}
		}
	}
}
