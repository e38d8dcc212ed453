package heap_test

import (
	"math"
	"slices"
	"testing"

	"socage/api"
	"socage/arena"
	"socage/heap"
)

const (
	greatest  = 1<<32 - 1
	lastStart = greatest - 1
	mostCells = 64
	mostQuota = 1 << 16
	lastCount = 1<<31 - 1
	lastData  = 1<<63 - 1
	lastCell  = 1<<63 - 2
	used      = 1 << 31
	// fewWords is how many words of the arena one act may touch, Graph alone left out.
	fewWords = 16
)

func data(n uint64) api.Value  { return api.Value{Kind: api.Data, N: n} }
func point(cell int) api.Value { return api.Value{Kind: api.Pointer, N: uint64(cell)} }

// slotsOf, sizeOf, count, wordsOf, classOf and headerAt are reckoned by hand.
func slotsOf(class int) int { return 1 << class }

func sizeOf(class int) int { return 1 + slotsOf(class) }

func count(s api.Share) int { return s.Cells[0] + s.Cells[1] + s.Cells[2] }

func wordsOf(s api.Share) int { return 2*s.Cells[0] + 3*s.Cells[1] + 5*s.Cells[2] }

func classOf(s api.Share, cell int) int {
	switch {
	case cell < s.Cells[0]:
		return 0
	case cell < s.Cells[0]+s.Cells[1]:
		return 1
	}
	return 2
}

func headerAt(s api.Share, cell int) int {
	at := 0
	for c := range cell {
		at += sizeOf(classOf(s, c))
	}
	return at
}

// mark is a word that no act here writes, another one at each place: it shows who touched what.
func mark(at int) uint64 {
	return 1<<63 | uint64(at)<<20 | 1<<19 | 0x5555
}

// marked is an arena with marks in all words.
func marked(t *testing.T, words int) *arena.Arena {
	t.Helper()
	a, e := arena.New(words)
	if e != api.OK {
		t.Fatalf("an arena of %d words: error %d", words, e)
	}
	for at := range words {
		a.Write(at, mark(at))
	}
	return a
}

func all(a *arena.Arena) []uint64 {
	var l []uint64
	for at := range a.Len() {
		w, _ := a.Read(at)
		l = append(l, w)
	}
	return l
}

// plot is where a heap is laid: so many words stand ahead of it, and behind it.
type plot struct {
	share         api.Share
	ahead, behind int
}

// plots are of shares with cells of one class, of two, of all, and of none; quotas of 0, of less than all cells have, of just that, and of more; and cells that retire soon.
func plots() []plot {
	return []plot{
		{api.Share{Cells: [3]int{4, 0, 0}, Quota: 8, Start: 1}, 0, 0},
		{api.Share{Cells: [3]int{0, 5, 0}, Quota: 14, Start: 7}, 3, 2},
		{api.Share{Cells: [3]int{0, 0, 6}, Quota: 99, Start: 1 << 31}, 1, 0},
		{api.Share{Cells: [3]int{3, 2, 0}, Quota: 11, Start: 1}, 0, 4},
		{api.Share{Cells: [3]int{0, 2, 2}, Quota: 16, Start: 1}, 2, 2},
		{api.Share{Cells: [3]int{3, 0, 2}, Quota: mostQuota, Start: lastStart - 9}, 2, 2},
		{api.Share{Cells: [3]int{3, 3, 3}, Quota: 30, Start: 5}, 4, 3},
		{api.Share{Cells: [3]int{2, 1, 3}, Quota: 22, Start: 1}, 1, 1},
		{api.Share{Cells: [3]int{4, 4, 4}, Quota: mostQuota, Start: lastStart - 3}, 0, 1},
		{api.Share{Cells: [3]int{5, 4, 3}, Quota: 25, Start: lastStart}, 5, 5},
		{api.Share{Cells: [3]int{2, 2, 2}, Quota: 1, Start: 1}, 1, 1},
		{api.Share{Cells: [3]int{2, 2, 2}, Quota: 2, Start: 1}, 1, 1},
		{api.Share{Cells: [3]int{2, 2, 2}, Start: 1}, 0, 0},
		{api.Share{Cells: [3]int{1, 0, 0}, Quota: 5, Start: 1}, 1, 1},
		{api.Share{Quota: 9, Start: 1}, 2, 3},
	}
}

// fullPlots have 64 cells of one class, or of all.
func fullPlots() []plot {
	return []plot{
		{api.Share{Cells: [3]int{mostCells, 0, 0}, Quota: 100, Start: 1}, 2, 1},
		{api.Share{Cells: [3]int{0, mostCells, mostCells}, Quota: mostQuota, Start: lastStart - 3}, 0, 1},
		{api.Share{Cells: [3]int{mostCells, mostCells, mostCells}, Quota: 640, Start: 1}, 3, 3},
	}
}

func absentClasses() []int {
	return []int{math.MinInt, math.MinInt + 1, -1 << 32, -2, -1, 3, 4, 1 << 32, 1<<32 + 1, math.MaxInt - 1, math.MaxInt}
}

func absentCells(s api.Share) []int {
	n := count(s)
	return []int{math.MinInt, math.MinInt + 1, -1 << 32, -n - 1, -2, -1, n, n + 1, n + 191, 1 << 32, 1<<32 + 1, math.MaxInt - 1, math.MaxInt}
}

func absentSlots(slots int) []int {
	return []int{math.MinInt, math.MinInt + 1, -1 << 32, -2, -1, slots, slots + 1, slots + 4, 1 << 32, 1<<32 + 1, math.MaxInt - 1, math.MaxInt}
}

// plainValues point to nothing.
func plainValues() []api.Value {
	return []api.Value{{}, data(0), data(1), data(77), data(lastData)}
}

func wrongValues() []api.Value {
	return []api.Value{
		{N: 1}, {N: math.MaxUint64}, data(lastData + 1), data(math.MaxUint64),
		{Kind: api.Pointer, N: lastCell + 1}, {Kind: api.Pointer, N: lastCell + 2}, {Kind: api.Pointer, N: math.MaxUint64},
		{Kind: -1}, {Kind: 3}, {Kind: 3, N: 1}, {Kind: math.MinInt, N: 1}, {Kind: math.MaxInt}, {Kind: 1 << 32},
	}
}

// strayPointers are values that may be, but point to cells that there are not.
func strayPointers(s api.Share) []api.Value {
	n := count(s)
	return []api.Value{point(n), point(n + 1), point(n + 191), point(1 << 32), {Kind: api.Pointer, N: 1 << 62}, {Kind: api.Pointer, N: lastCell - 1}, {Kind: api.Pointer, N: lastCell}}
}

// sheet is what a heap ought to tell, and what all words of the arena ought to be, reckoned otherwise: it keeps no counts, but reckons each one anew from all slots, roots and pushes; what is pushed stands in a list, once for each push.
type sheet struct {
	plot
	piles     [3][]int
	gens      []int
	live      []bool
	values    [][]api.Value
	held      []bool
	candidate []bool
	pushes    []int
	changes   int
	// forgotten is whether a candidate was, so that the dead need not be covered any more.
	forgotten bool
}

func newSheet(p plot) *sheet {
	m := &sheet{plot: p}
	for cell := range count(p.share) {
		class := classOf(p.share, cell)
		m.piles[class] = append(m.piles[class], cell)
		m.gens = append(m.gens, p.share.Start)
		m.live = append(m.live, false)
		m.values = append(m.values, make([]api.Value, slotsOf(class)))
		m.held = append(m.held, false)
		m.candidate = append(m.candidate, false)
	}
	return m
}

func (m *sheet) has(cell int) bool { return cell >= 0 && cell < len(m.gens) }

func (m *sheet) hasSlot(cell, slot int) bool {
	return m.has(cell) && slot >= 0 && slot < len(m.values[cell])
}

// marks are the cells that have a mark, rising.
func marks(l []bool) []int {
	var cells []int
	for cell, is := range l {
		if is {
			cells = append(cells, cell)
		}
	}
	return cells
}

func (m *sheet) out(cell int) []int {
	var l []int
	for _, v := range m.values[cell] {
		if v.Kind == api.Pointer {
			l = append(l, int(v.N))
		}
	}
	return l
}

func times(l []int, n int) int {
	k := 0
	for _, x := range l {
		if x == n {
			k++
		}
	}
	return k
}

// count is a cell's: P13.2.
func (m *sheet) count(cell int) int {
	n := times(m.pushes, cell)
	for from := range m.values {
		n += times(m.out(from), cell)
	}
	if m.held[cell] {
		n++
	}
	return n
}

func (m *sheet) used() int {
	n := 0
	for _, cell := range marks(m.live) {
		n += 1 + len(m.values[cell])
	}
	return n
}

// queue is each pushed cell once, as they came.
func (m *sheet) queue() []int {
	var l []int
	for _, cell := range m.pushes {
		if !slices.Contains(l, cell) {
			l = append(l, cell)
		}
	}
	return l
}

func (m *sheet) room(class int) (int, int) {
	if class < 0 || class > 2 {
		return 0, 0
	}
	gone := 0
	for cell, gen := range m.gens {
		if classOf(m.share, cell) == class && gen == greatest {
			gone++
		}
	}
	return len(m.piles[class]), gone
}

func (m *sheet) alloc(class int) (int, api.Errno) {
	switch {
	case class < 0 || class > 2:
		return 0, api.ErrArg
	case m.used()+sizeOf(class) > m.share.Quota:
		return 0, api.ErrQuota
	case len(m.piles[class]) == 0:
		return 0, api.ErrFull
	}
	cell := m.piles[class][0]
	m.piles[class] = slices.Clone(m.piles[class][1:])
	m.live[cell], m.held[cell] = true, true
	m.changes++
	return cell, api.OK
}

func (m *sheet) alive(cell int) api.Errno {
	switch {
	case !m.has(cell):
		return api.ErrArg
	case !m.live[cell]:
		return api.ErrNone
	}
	return api.OK
}

func (m *sheet) hold(cell int) api.Errno {
	e := m.alive(cell)
	if e == api.OK && !m.held[cell] {
		m.held[cell] = true
		m.changes++
	}
	return e
}

func (m *sheet) drop(cell int) api.Errno {
	switch {
	case !m.has(cell):
		return api.ErrArg
	case !m.held[cell]:
		return api.ErrNone
	}
	m.held[cell] = false
	m.pushes = append(m.pushes, cell)
	m.changes++
	return api.OK
}

func (m *sheet) get(cell, slot int) (api.Value, api.Errno) {
	if !m.hasSlot(cell, slot) {
		return api.Value{}, api.ErrArg
	}
	if !m.live[cell] {
		return api.Value{}, api.ErrNone
	}
	return m.values[cell][slot], api.OK
}

func (m *sheet) put(cell, slot int, v api.Value) api.Errno {
	wrong := v.Kind < 0 || v.Kind > 2 || v.Kind == 0 && v.N != 0 || v.Kind == 1 && v.N > lastData || v.Kind == 2 && v.N >= uint64(len(m.gens))
	if !m.hasSlot(cell, slot) || wrong {
		return api.ErrArg
	}
	if !m.live[cell] || v.Kind == 2 && !m.live[v.N] {
		return api.ErrNone
	}
	if old := m.values[cell][slot]; old.Kind == api.Pointer {
		m.pushes = append(m.pushes, int(old.N))
	}
	m.values[cell][slot] = v
	m.changes++
	return api.OK
}

func (m *sheet) cut(cell int) api.Errno {
	if e := m.alive(cell); e != api.OK {
		return e
	}
	m.pushes = append(m.pushes, m.out(cell)...)
	clear(m.values[cell])
	m.changes++
	return api.OK
}

func (m *sheet) forget(l []int) {
	for _, cell := range l {
		if m.has(cell) && m.candidate[cell] {
			m.candidate[cell], m.forgotten = false, true
		}
	}
}

func (m *sheet) drain(budget int) int {
	died := 0
	for ; budget > 0 && len(m.pushes) > 0; budget-- {
		cell := m.pushes[0]
		m.pushes = slices.DeleteFunc(m.pushes, func(x int) bool { return x == cell })
		m.changes++
		m.candidate[cell] = m.count(cell) > 0
		if !m.candidate[cell] {
			m.die(cell)
			died++
		}
	}
	return died
}

func (m *sheet) die(cell int) {
	m.pushes = append(m.pushes, m.out(cell)...)
	clear(m.values[cell])
	m.live[cell] = false
	m.gens[cell]++
	if m.gens[cell] < greatest {
		class := classOf(m.share, cell)
		m.piles[class] = append([]int{cell}, m.piles[class]...)
	}
}

// reach is which cells are reached from some: again and again, all are looked at, till no more come.
func (m *sheet) reach(from []int) []bool {
	l := make([]bool, len(m.gens))
	for _, cell := range from {
		l[cell] = true
	}
	for more := true; more; {
		more = false
		for cell := range l {
			for _, to := range m.out(cell) {
				more = more || l[cell] && !l[to]
				l[to] = l[to] || l[cell]
			}
		}
	}
	return l
}

// words are those of the whole arena, the marks ahead of the share and behind it among them.
func (m *sheet) words() []uint64 {
	var l []uint64
	for at := range m.ahead {
		l = append(l, mark(at))
	}
	for cell, values := range m.values {
		h := uint64(m.gens[cell]) << 32
		if m.live[cell] {
			h |= used | uint64(m.count(cell))
		}
		l = append(l, h)
		for _, v := range values {
			if v.Kind == api.Nil {
				l = append(l, 0)
			} else {
				l = append(l, 2*v.N+uint64(v.Kind))
			}
		}
	}
	for range m.behind {
		l = append(l, mark(len(l)))
	}
	return l
}

// pair is a heap, and a sheet that has seen the same acts.
type pair struct {
	t *testing.T
	a *arena.Arena
	h *heap.Heap
	m *sheet
}

func made(t *testing.T, p plot) pair {
	t.Helper()
	a := marked(t, p.ahead+wordsOf(p.share)+p.behind)
	h, e := heap.New(a, p.ahead, p.share)
	if h == nil || e != api.OK {
		t.Fatalf("%v: New: %v, error %d", p, h, e)
	}
	return pair{t, a, h, newSheet(p)}
}

// bounded is that an act touches few words, and none if it tells an error.
func (p pair) bounded(what string, most int, act func() api.Errno) {
	p.t.Helper()
	before := p.a.Touched()
	if act() != api.OK {
		most = 0
	}
	if n := p.a.Touched() - before; n > most {
		p.t.Fatalf("%v: %s: %d words touched, at most %d may be", p.m.plot, what, n, most)
	}
}

func (p pair) alloc(class int) int {
	p.t.Helper()
	want, wantErr := p.m.alloc(class)
	p.bounded("Alloc", fewWords, func() api.Errno {
		cell, e := p.h.Alloc(class)
		if cell != want || e != wantErr {
			p.t.Fatalf("%v: Alloc of class %d: %d, error %d, want %d, %d", p.m.plot, class, cell, e, want, wantErr)
		}
		return e
	})
	return want
}

// on is an act on a cell, that tells just an error.
func (p pair) on(what string, cell int, act func(int) api.Errno, ought func(int) api.Errno) {
	p.t.Helper()
	want := ought(cell)
	p.bounded(what, fewWords, func() api.Errno {
		e := act(cell)
		if e != want {
			p.t.Fatalf("%v: %s of cell %d: error %d, want %d", p.m.plot, what, cell, e, want)
		}
		return e
	})
}

func (p pair) hold(cell int) { p.t.Helper(); p.on("Hold", cell, p.h.Hold, p.m.hold) }
func (p pair) drop(cell int) { p.t.Helper(); p.on("Drop", cell, p.h.Drop, p.m.drop) }
func (p pair) cut(cell int)  { p.t.Helper(); p.on("Cut", cell, p.h.Cut, p.m.cut) }

func (p pair) get(cell, slot int) {
	p.t.Helper()
	want, wantErr := p.m.get(cell, slot)
	p.bounded("Get", 1, func() api.Errno {
		v, e := p.h.Get(cell, slot)
		if v != want || e != wantErr {
			p.t.Fatalf("%v: Get of cell %d, slot %d: %v, error %d, want %v, %d", p.m.plot, cell, slot, v, e, want, wantErr)
		}
		return e
	})
}

func (p pair) put(cell, slot int, v api.Value) {
	p.t.Helper()
	want := p.m.put(cell, slot, v)
	p.bounded("Put", fewWords, func() api.Errno {
		e := p.h.Put(cell, slot, v)
		if e != want {
			p.t.Fatalf("%v: Put into cell %d, slot %d, of %v: error %d, want %d", p.m.plot, cell, slot, v, e, want)
		}
		return e
	})
}

func (p pair) forget(l ...int) {
	p.t.Helper()
	p.m.forget(l)
	p.bounded("Forget", 0, func() api.Errno {
		given := slices.Clone(l)
		p.h.Forget(given)
		if !slices.Equal(given, l) {
			p.t.Fatalf("%v: Forget wrote into its list: %v, was %v", p.m.plot, given, l)
		}
		return api.OK
	})
}

// drain holds P13.3 as well: no cell that was reached from the roots is another one behind it.
func (p pair) drain(budget int) int {
	p.t.Helper()
	reached, gens := p.m.reach(marks(p.m.held)), slices.Clone(p.m.gens)
	want := p.m.drain(budget)
	p.bounded("Drain", fewWords*min(max(budget, 0), 1<<20), func() api.Errno {
		if n := p.h.Drain(budget); n != want {
			p.t.Fatalf("%v: Drain of %d: %d died, want %d", p.m.plot, budget, n, want)
		}
		return api.OK
	})
	for cell, is := range reached {
		if h, e := p.h.Header(cell); is && (e != api.OK || !h.Used || h.Gen != gens[cell]) {
			p.t.Fatalf("%v: Drain of %d: cell %d was reached, and has the header %v", p.m.plot, budget, cell, h)
		}
	}
	return want
}

func (p pair) header(cell int) {
	p.t.Helper()
	want, wantErr := api.Header{}, api.ErrArg
	if p.m.has(cell) {
		want, wantErr = api.Header{Gen: p.m.gens[cell], Used: p.m.live[cell]}, api.OK
		if p.m.live[cell] {
			want.Count = p.m.count(cell)
		}
	}
	p.bounded("Header", 1, func() api.Errno {
		h, e := p.h.Header(cell)
		if h != want || e != wantErr {
			p.t.Fatalf("%v: Header of cell %d: %v, error %d, want %v, %d", p.m.plot, cell, h, e, want, wantErr)
		}
		return e
	})
}

func (p pair) slots(cell int) {
	p.t.Helper()
	want := 0
	if p.m.has(cell) {
		want = len(p.m.values[cell])
	}
	if n := p.h.Slots(cell); n != want {
		p.t.Fatalf("%v: Slots of cell %d: %d, want %d", p.m.plot, cell, n, want)
	}
}

func (p pair) room(class int) {
	p.t.Helper()
	wantFree, wantGone := p.m.room(class)
	if free, gone := p.h.Room(class); free != wantFree || gone != wantGone {
		p.t.Fatalf("%v: Room of class %d: %d, %d, want %d, %d", p.m.plot, class, free, gone, wantFree, wantGone)
	}
}

func (p pair) pending(cell int) {
	p.t.Helper()
	if n := p.h.Pending(cell); n != times(p.m.pushes, cell) {
		p.t.Fatalf("%v: Pending of cell %d: %d, want %d", p.m.plot, cell, n, times(p.m.pushes, cell))
	}
}

func (p pair) list(what string, got, want []int) {
	p.t.Helper()
	if !slices.Equal(got, want) {
		p.t.Fatalf("%v: %s: %v, want %v", p.m.plot, what, got, want)
	}
}

func (p pair) graph() {
	p.t.Helper()
	g := p.h.Graph()
	var ids []int
	for _, node := range g.Nodes {
		ids = append(ids, node.ID)
	}
	p.list("Graph's nodes", ids, marks(p.m.live))
	for _, node := range g.Nodes {
		p.list("Graph's Out", node.Out, p.m.out(node.ID))
	}
	p.list("Graph's roots", g.Roots, marks(p.m.held))
}

// lists holds what is told of the whole heap against the sheet: all that is told without looking into the arena.
func (p pair) lists() {
	p.t.Helper()
	before := p.a.Touched()
	p.list("Roots", p.h.Roots(), marks(p.m.held))
	p.list("Queue", p.h.Queue(), p.m.queue())
	p.list("Candidates", p.h.Candidates(), marks(p.m.candidate))
	if p.h.Used() != p.m.used() || p.h.Changes() != p.m.changes {
		p.t.Fatalf("%v: Used %d, Changes %d, want %d, %d", p.m.plot, p.h.Used(), p.h.Changes(), p.m.used(), p.m.changes)
	}
	for class := range 3 {
		p.room(class)
	}
	for cell := range p.m.values {
		p.slots(cell)
		p.pending(cell)
	}
	if n := p.a.Touched() - before; n != 0 {
		p.t.Fatalf("%v: %d words touched", p.m.plot, n)
	}
}

// wordsSame holds each word of the arena against the sheet.
func (p pair) wordsSame() {
	p.t.Helper()
	if got, want := all(p.a), p.m.words(); !slices.Equal(got, want) {
		p.t.Fatalf("%v: the arena's words are %x, want %x", p.m.plot, got, want)
	}
}

// same holds all that a heap tells without being changed, and each word of the arena, against the sheet.
func (p pair) same() {
	p.t.Helper()
	p.lists()
	p.graph()
	for cell, values := range p.m.values {
		p.header(cell)
		for slot := range values {
			p.get(cell, slot)
		}
	}
	p.wordsSame()
	p.counted()
	p.covered()
}

// counted is P13.2, by what the heap itself tells alone.
func (p pair) counted() {
	p.t.Helper()
	g := p.h.Graph()
	size := 0
	for _, node := range g.Nodes {
		want := p.h.Pending(node.ID) + times(p.h.Roots(), node.ID)
		for _, from := range g.Nodes {
			want += times(from.Out, node.ID)
		}
		if h, e := p.h.Header(node.ID); h.Count != want || !h.Used || e != api.OK {
			p.t.Fatalf("%v: cell %d: %v, error %d, want the count %d", p.m.plot, node.ID, h, e, want)
		}
		size += 1 + p.h.Slots(node.ID)
	}
	if p.h.Used() != size {
		p.t.Fatalf("%v: Used %d, the live cells' size is %d", p.m.plot, p.h.Used(), size)
	}
}

// covered is P13.3: the dead are reached from candidates, or from the queue, and what stands there is live.
func (p pair) covered() {
	p.t.Helper()
	from := append(p.h.Candidates(), p.h.Queue()...)
	for _, cell := range append(from, p.h.Roots()...) {
		if !p.m.live[cell] {
			p.t.Fatalf("%v: cell %d is not live, and is a root, a candidate, or in the queue", p.m.plot, cell)
		}
	}
	if p.m.forgotten {
		return
	}
	reached, near := p.m.reach(marks(p.m.held)), p.m.reach(from)
	for _, cell := range marks(p.m.live) {
		if !reached[cell] && !near[cell] {
			p.t.Fatalf("%v: cell %d is dead, and not reached from %v", p.m.plot, cell, from)
		}
	}
}

// next is a number that looks like any: the same ones come in each run.
func next(seed *uint64, below int) int {
	*seed = *seed*6364136223846793005 + 1442695040888963407
	return int(*seed>>33) % below
}

// one picks an item of a list.
func one[T any](seed *uint64, l []T) T {
	return l[next(seed, len(l))]
}
