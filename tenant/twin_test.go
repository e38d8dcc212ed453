package tenant_test

import (
	"maps"
	"math"
	"slices"
	"testing"

	"socage/api"
	"socage/arena"
	"socage/collect"
	"socage/heap"
	"socage/tenant"
)

const (
	greatest   = 1<<32 - 1
	lastStart  = greatest - 1
	mostQuota  = 1 << 16
	mostBudget = 1 << 16
	mostCells  = 64
	lastCount  = 1<<31 - 1
	lastData   = 1<<63 - 1
	lastIndex  = 1<<26 - 1
	// unitWords is how many words of the arena a unit may touch; actWords is how many any other act may: few, and less than one of each of many cells.
	unitWords = 16
	actWords  = 32
)

// The kinds of handles.
const (
	rootKind  = 1
	proxyKind = 2
)

// nothing is an answer that is nil.
var nothing = api.Answer{}

func wrong(e api.Errno) api.Answer   { return api.Answer{Error: e} }
func number(n uint64) api.Answer     { return api.Answer{Kind: api.Data, Word: n} }
func pointer(word uint64) api.Answer { return api.Answer{Kind: api.Pointer, Word: word} }
func data(n uint64) api.Value        { return api.Value{Kind: api.Data, N: n} }
func point(cell int) api.Value       { return api.Value{Kind: api.Pointer, N: uint64(cell)} }

// word, count, words and headerAt are reckoned by hand.
func word(owner, kind, index, gen int) uint64 {
	return uint64(owner-1)<<60 | uint64(kind)<<58 | uint64(index)<<32 | uint64(gen)
}

func count(s api.Share) int { return s.Cells[0] + s.Cells[1] + s.Cells[2] }

func words(s api.Share) int { return 2*s.Cells[0] + 3*s.Cells[1] + 5*s.Cells[2] }

func headerAt(s api.Share, cell int) int {
	at := 0
	for class, n := range s.Cells {
		k := min(cell, n)
		at += k * (1 + 1<<class)
		cell -= k
	}
	return at
}

// enough is how many units free all that is dead: T4.
func enough(s api.Share) int { return 16*count(s) + 16 }

// plot is what a tenant is made of: so many words stand ahead of its own, and behind them.
type plot struct {
	share         api.Share
	number        int
	ahead, behind int
}

// plots have cells of one class, of two, of all, and of none; quotas of 0, of less than all cells have, and of more; cells that retire soon; and numbers from the first to the last.
func plots() []plot {
	return []plot{
		{api.Share{Cells: [3]int{4, 0, 0}, Quota: 8, Start: 1}, 1, 0, 0},
		{api.Share{Cells: [3]int{0, 6, 0}, Quota: 99, Start: 7}, 16, 3, 2},
		{api.Share{Cells: [3]int{0, 0, 5}, Quota: 20, Start: 1 << 31}, 2, 1, 0},
		{api.Share{Cells: [3]int{3, 3, 3}, Quota: 30, Start: 5}, 3, 7, 4},
		{api.Share{Cells: [3]int{2, 3, 4}, Quota: mostQuota, Start: greatest - 3}, 15, 2, 2},
		{api.Share{Cells: [3]int{4, 4, 4}, Quota: 35, Start: lastStart}, 9, 0, 1},
		{api.Share{Cells: [3]int{3, 0, 2}, Quota: 99, Start: greatest - 20}, 8, 1, 1},
		{api.Share{Cells: [3]int{1, 0, 0}, Quota: 5, Start: 1}, 16, 0, 3},
		{api.Share{Cells: [3]int{2, 2, 2}, Quota: 0, Start: 1}, 4, 1, 1},
		{api.Share{Quota: 9, Start: 1}, 5, 2, 3},
	}
}

// fullPlots have 64 cells of a class, or of all.
func fullPlots() []plot {
	return []plot{
		{api.Share{Cells: [3]int{mostCells, 0, 0}, Quota: 128, Start: 1}, 1, 0, 0},
		{api.Share{Cells: [3]int{mostCells, mostCells, mostCells}, Quota: mostQuota, Start: 9}, 16, 3, 3},
	}
}

// ordinary has cells 0 to 2 of class 0, 3 to 5 of class 1, 6 to 8 of class 2, and a quota for all of them.
func ordinary() plot {
	return plot{api.Share{Cells: [3]int{3, 3, 3}, Quota: 30, Start: 5}, 3, 2, 1}
}

func absentNumbers() []int {
	return []int{math.MinInt, -1 << 32, -16, -1, 0, 17, 18, 32, 1<<32 + 1, math.MaxInt - 1, math.MaxInt}
}

func absentClasses() []int {
	return []int{math.MinInt, -1 << 32, -2, -1, 3, 4, 1 << 32, math.MaxInt}
}

func absentSlots(slots int) []int {
	return []int{math.MinInt, -1 << 32, -2, -1, slots, slots + 1, slots + 4, 1 << 32, 1<<32 + 1, math.MaxInt}
}

func absentCells(n int) []int {
	return []int{math.MinInt, -1 << 32, -2, -1, n, n + 1, n + 191, lastIndex, lastIndex + 1, 1 << 32, math.MaxInt}
}

func wrongBudgets() []int {
	return []int{math.MinInt, -mostBudget, -2, -1, 0, mostBudget + 1, 1 << 32, 1<<32 + 1, math.MaxInt}
}

// marked is an arena with another word at each place.
func marked(t *testing.T, words int) *arena.Arena {
	t.Helper()
	a, e := arena.New(words)
	if e != api.OK {
		t.Fatalf("an arena of %d words: error %d", words, e)
	}
	for at := range words {
		a.Write(at, 1<<63|uint64(at)<<20|0x5555)
	}
	return a
}

func all(a *arena.Arena) []uint64 {
	var l []uint64
	for at := range a.Len() {
		w, _ := a.Read(at)
		l = append(l, w)
	}
	return l
}

// sheet is what a tenant ought to tell: each act is done, as the chapter's words have it, on a heap and a collector in an arena like the tenant's; which words name a cell is not asked of that heap's roots, but is which ones were told, and not dropped since.
type sheet struct {
	plot
	a *arena.Arena
	h *heap.Heap
	c *collect.Collector
	// told are those words, each with its cell; ever are all that were told at any time.
	told, ever map[uint64]int
}

func newSheet(t *testing.T, p plot) *sheet {
	t.Helper()
	a := marked(t, p.ahead+words(p.share)+p.behind)
	h, e := heap.New(a, p.ahead, p.share)
	if e != api.OK {
		t.Fatalf("%v: a heap: error %d", p, e)
	}
	c, e := collect.New(h)
	if e != api.OK {
		t.Fatalf("%v: a collector: error %d", p, e)
	}
	return &sheet{p, a, h, c, map[uint64]int{}, map[uint64]int{}}
}

// tell is that a live cell is told.
func (m *sheet) tell(cell int) api.Answer {
	x, _ := m.h.Header(cell)
	w := word(m.number, rootKind, cell, x.Gen)
	m.told[w], m.ever[w] = cell, cell
	return pointer(w)
}

// names is the cell that a word names.
func (m *sheet) names(w uint64) (int, api.Errno) {
	if cell, is := m.told[w]; is {
		return cell, api.OK
	}
	owner, kind, index, gen := int(w>>60)+1, int(w>>58&3), int(w>>32&lastIndex), int(w&greatest)
	if kind != rootKind || owner != m.number || index >= count(m.share) {
		return 0, api.ErrHandle
	}
	if x, _ := m.h.Header(index); gen > x.Gen {
		return 0, api.ErrHandle
	}
	return 0, api.ErrStale
}

// slot is the cell that a word names, if it has such a slot.
func (m *sheet) slot(w uint64, slot int) (int, api.Errno) {
	cell, e := m.names(w)
	if e == api.OK && (slot < 0 || slot >= m.h.Slots(cell)) {
		return 0, api.ErrOp
	}
	return cell, e
}

func (m *sheet) alloc(class int) api.Answer {
	if class < 0 || class > 2 {
		return wrong(api.ErrOp)
	}
	cell, e := m.h.Alloc(class)
	if e != api.OK {
		return wrong(e)
	}
	return m.tell(cell)
}

func (m *sheet) drop(w uint64) api.Answer {
	cell, e := m.names(w)
	if e == api.OK {
		delete(m.told, w)
		e = m.h.Drop(cell)
	}
	return wrong(e)
}

func (m *sheet) load(w uint64, slot int) api.Answer {
	cell, e := m.slot(w, slot)
	if e != api.OK {
		return wrong(e)
	}
	v, _ := m.h.Get(cell, slot)
	switch v.Kind {
	case api.Data:
		return number(v.N)
	case api.Pointer:
		if e := m.h.Hold(int(v.N)); e != api.OK {
			return wrong(e)
		}
		return m.tell(int(v.N))
	}
	return nothing
}

func (m *sheet) store(w uint64, slot int, n uint64) api.Answer {
	cell, e := m.slot(w, slot)
	if e != api.OK {
		return wrong(e)
	}
	if n > lastData {
		return wrong(api.ErrOp)
	}
	return wrong(m.h.Put(cell, slot, data(n)))
}

func (m *sheet) point(w uint64, slot int, to uint64) api.Answer {
	cell, e := m.slot(w, slot)
	if e != api.OK {
		return wrong(e)
	}
	if to == 0 {
		return wrong(m.h.Put(cell, slot, api.Value{}))
	}
	other, e := m.names(to)
	if e != api.OK {
		return wrong(e)
	}
	return wrong(m.h.Put(cell, slot, point(other)))
}

func (m *sheet) drain(budget int) api.Answer {
	if budget < 1 || budget > mostBudget {
		return wrong(api.ErrOp)
	}
	return number(uint64(m.h.Drain(budget)))
}

func (m *sheet) collect(budget int) api.Answer {
	if budget < 1 || budget > mostBudget {
		return wrong(api.ErrOp)
	}
	died, _ := m.c.Step(budget)
	return number(uint64(died))
}

func (m *sheet) usage() api.Answer {
	return number(uint64(m.h.Used()))
}

func (m *sheet) look(cell, gen, slot int) api.Answer {
	x, e := m.h.Header(cell)
	if e != api.OK || !x.Used || x.Gen != gen {
		return wrong(api.ErrRevoked)
	}
	if slot < 0 || slot >= m.h.Slots(cell) {
		return wrong(api.ErrOp)
	}
	v, _ := m.h.Get(cell, slot)
	if v.Kind == api.Pointer {
		return pointer(0)
	}
	return api.Answer{Kind: v.Kind, Word: v.N}
}

// twin is a tenant, and its sheet: each act is done to both, what they answer is held against each other, and so is, then, all that they tell.
type twin struct {
	t *testing.T
	a *arena.Arena
	x *tenant.Tenant
	m *sheet
}

func made(t *testing.T, p plot) *twin {
	t.Helper()
	a := marked(t, p.ahead+words(p.share)+p.behind)
	w := &twin{t, a, newTenant(t, a, p), newSheet(t, p)}
	w.same()
	return w
}

func newTenant(t *testing.T, a *arena.Arena, p plot) *tenant.Tenant {
	t.Helper()
	x, e := tenant.New(a, p.ahead, p.share, p.number)
	if x == nil || e != api.OK {
		t.Fatalf("%v: New: %v, error %d", p, x, e)
	}
	return x
}

// whole is one of which all cells are live roots.
func whole(t *testing.T, p plot) *twin {
	t.Helper()
	w := made(t, p)
	for class, n := range p.share.Cells {
		for range n {
			if got := w.alloc(class); got.Error != api.OK {
				t.Fatalf("%v: Alloc of class %d: %v", p, class, got)
			}
		}
	}
	return w
}

// at is the root word of a cell, with the generation that it has.
func (w *twin) at(cell int) uint64 {
	x, _ := w.m.h.Header(cell)
	return word(w.m.number, rootKind, cell, x.Gen)
}

// answered holds what an act answers, and how many words it touches, against what ought to be; then all else.
func (w *twin) answered(what string, most int, act, ought func() api.Answer) api.Answer {
	w.t.Helper()
	touched := w.a.Touched()
	got := act()
	if n := w.a.Touched() - touched; n > most {
		w.t.Fatalf("%v: %s: %d words touched, at most %d may be", w.m.plot, what, n, most)
	}
	if want := ought(); got != want {
		w.t.Fatalf("%v: %s: %v, want %v", w.m.plot, what, got, want)
	}
	w.same()
	return got
}

func (w *twin) alloc(class int) api.Answer {
	w.t.Helper()
	return w.answered("Alloc", actWords, func() api.Answer { return w.x.Alloc(class) }, func() api.Answer { return w.m.alloc(class) })
}

func (w *twin) drop(of uint64) api.Answer {
	w.t.Helper()
	return w.answered("Drop", actWords, func() api.Answer { return w.x.Drop(of) }, func() api.Answer { return w.m.drop(of) })
}

func (w *twin) load(of uint64, slot int) api.Answer {
	w.t.Helper()
	return w.answered("Load", actWords, func() api.Answer { return w.x.Load(of, slot) }, func() api.Answer { return w.m.load(of, slot) })
}

func (w *twin) store(of uint64, slot int, n uint64) api.Answer {
	w.t.Helper()
	return w.answered("Store", actWords, func() api.Answer { return w.x.Store(of, slot, n) }, func() api.Answer { return w.m.store(of, slot, n) })
}

func (w *twin) point(of uint64, slot int, to uint64) api.Answer {
	w.t.Helper()
	return w.answered("Point", actWords, func() api.Answer { return w.x.Point(of, slot, to) }, func() api.Answer { return w.m.point(of, slot, to) })
}

func (w *twin) drain(budget int) api.Answer {
	w.t.Helper()
	return w.answered("Drain", units(budget), func() api.Answer { return w.x.Drain(budget) }, func() api.Answer { return w.m.drain(budget) })
}

func (w *twin) collect(budget int) api.Answer {
	w.t.Helper()
	return w.answered("Collect", units(budget), func() api.Answer { return w.x.Collect(budget) }, func() api.Answer { return w.m.collect(budget) })
}

func (w *twin) usage() api.Answer {
	w.t.Helper()
	return w.answered("Usage", actWords, w.x.Usage, w.m.usage)
}

func (w *twin) look(cell, gen, slot int) api.Answer {
	w.t.Helper()
	return w.answered("Look", actWords, func() api.Answer { return w.x.Look(cell, gen, slot) }, func() api.Answer { return w.m.look(cell, gen, slot) })
}

// units is how many words so many may touch.
func units(budget int) int {
	return unitWords * min(max(budget, 1), mostBudget)
}

// cell holds what a word names against the sheet.
func (w *twin) cell(of uint64) (int, api.Errno) {
	w.t.Helper()
	touched := w.a.Touched()
	cell, e := w.x.Cell(of)
	if want, wantErr := w.m.names(of); cell != want || e != wantErr {
		w.t.Fatalf("%v: Cell of %016x: %d, error %d, want %d, error %d", w.m.plot, of, cell, e, want, wantErr)
	}
	if n := w.a.Touched() - touched; n > actWords {
		w.t.Fatalf("%v: Cell of %016x: %d words touched", w.m.plot, of, n)
	}
	return cell, e
}

func (w *twin) list(what string, got, want []int) {
	w.t.Helper()
	if !slices.Equal(got, want) {
		w.t.Fatalf("%v: %s: %v, want %v", w.m.plot, what, got, want)
	}
}

// same holds all that the tenant, its heap, and its arena tell against the sheet; and that its roots are just what was told, and not dropped.
func (w *twin) same() {
	w.t.Helper()
	h, other := w.x.Heap(), w.m.h
	w.list("Roots", h.Roots(), other.Roots())
	w.list("Roots", h.Roots(), slices.Sorted(maps.Values(w.m.told)))
	w.list("Queue", h.Queue(), other.Queue())
	w.list("Candidates", h.Candidates(), other.Candidates())
	if h.Used() != other.Used() || h.Changes() != other.Changes() || h.Used() > w.m.share.Quota {
		w.t.Fatalf("%v: Used %d, Changes %d, want %d, %d", w.m.plot, h.Used(), h.Changes(), other.Used(), other.Changes())
	}
	if got := w.x.Usage(); got != w.m.usage() {
		w.t.Fatalf("%v: Usage %v, want %v", w.m.plot, got, w.m.usage())
	}
	for cell := range count(w.m.share) {
		if got, want := h.Pending(cell), other.Pending(cell); got != want {
			w.t.Fatalf("%v: Pending of cell %d: %d, want %d", w.m.plot, cell, got, want)
		}
	}
	if got, want := all(w.a), all(w.m.a); !slices.Equal(got, want) {
		w.t.Fatalf("%v: the arena's words are %x, want %x", w.m.plot, got, want)
	}
	for of := range w.m.ever {
		w.cell(of)
	}
}

// next is a number that looks like any: the same ones come in each run.
func next(seed *uint64, below int) int {
	*seed = *seed*6364136223846793005 + 1442695040888963407
	return int(*seed>>33) % below
}

// one picks an item of a list.
func one[T any](seed *uint64, l []T) T {
	return l[next(seed, len(l))]
}

// good picks a word that names a cell, if there is one.
func (w *twin) good(seed *uint64) uint64 {
	if len(w.m.told) == 0 {
		return 0
	}
	return one(seed, slices.Sorted(maps.Keys(w.m.told)))
}

// anyWord picks one that names a cell, mostly; else one that was told once, or one that is off by a bit, or by much.
func (w *twin) anyWord(seed *uint64) uint64 {
	switch next(seed, 12) {
	case 0:
		if len(w.m.ever) > 0 {
			return one(seed, slices.Sorted(maps.Keys(w.m.ever)))
		}
	case 1:
		return w.good(seed) ^ 1<<next(seed, 64)
	case 2:
		return w.at(next(seed, 1+count(w.m.share))) + uint64(next(seed, 3)) - 1
	case 3:
		return one(seed, []uint64{0, 1, math.MaxUint64, 1 << 58, 1 << 63, w.good(seed) | proxyKind<<58})
	}
	return w.good(seed)
}

// anyAct does an act, right or wrong.
func (w *twin) anyAct(seed *uint64) api.Answer {
	w.t.Helper()
	of, slot := w.anyWord(seed), next(seed, 4)
	if cell, e := w.m.names(of); e == api.OK && next(seed, 6) > 0 {
		slot %= w.m.h.Slots(cell)
	}
	slot = one(seed, []int{slot, slot, slot, slot, slot, slot, slot, slot - 1, slot + 1, math.MinInt, math.MaxInt})
	switch next(seed, 18) {
	case 0, 1, 2:
		return w.alloc(next(seed, 3))
	case 3:
		return w.alloc(one(seed, absentClasses()))
	case 4, 5, 6:
		return w.drop(of)
	case 7, 8, 9:
		return w.load(of, slot)
	case 10:
		return w.store(of, slot, one(seed, []uint64{0, 1, 77, lastData, lastData + 1, math.MaxUint64}))
	case 11, 12, 13, 14:
		return w.point(of, slot, w.anyWord(seed))
	case 15:
		return w.drain(one(seed, []int{1, 1, 2, 3, mostBudget, 0, -1, mostBudget + 1}))
	case 16:
		return w.collect(one(seed, []int{1, 2, 3, 5, 9, 20, mostBudget, 0, -1, mostBudget + 1}))
	}
	cell := next(seed, 2+count(w.m.share)) - 1
	x, _ := w.m.h.Header(cell)
	return w.look(cell, x.Gen+one(seed, []int{0, 0, 0, 0, -1, 1}), slot)
}
