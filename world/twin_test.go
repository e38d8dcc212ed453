package world_test

import (
	"fmt"
	"maps"
	"math"
	"slices"
	"testing"

	"socage/api"
	"socage/arena"
	"socage/tenant"
	"socage/world"
)

const (
	greatest   = 1<<32 - 1
	lastStart  = greatest - 1
	mostQuota  = 1 << 16
	mostBudget = 1 << 16
	mostCells  = 64
	entries    = 8
	lastData   = 1<<63 - 1
	lastIndex  = 1<<26 - 1
	// unitWords is how many words of the arena a unit may touch; actWords is how many any other operation may: few, and less than one of each of many cells.
	unitWords = 16
	actWords  = 32
)

// The kinds of handles.
const (
	rootKind  = 1
	proxyKind = 2
)

// nothing is an answer that is nil.
var nothing = api.Answer{}

func wrong(e api.Errno) api.Answer   { return api.Answer{Error: e} }
func number(n uint64) api.Answer     { return api.Answer{Kind: api.Data, Word: n} }
func pointer(word uint64) api.Answer { return api.Answer{Kind: api.Pointer, Word: word} }

// word, count, words and enough are reckoned by hand.
func word(owner, kind, index, gen int) uint64 {
	return uint64(owner-1)<<60 | uint64(kind)<<58 | uint64(index)<<32 | uint64(gen)
}

// rootWord is what a tenant's cell has; proxyWord is what a tenant has for an entry of another one's.
func rootWord(owner, cell, gen int) uint64 { return word(owner, rootKind, cell, gen) }

func proxyWord(owner, from, entry, gen int) uint64 {
	return word(owner, proxyKind, 8*(from-1)+entry, gen)
}

func count(s api.Share) int { return s.Cells[0] + s.Cells[1] + s.Cells[2] }

func words(s api.Share) int { return 2*s.Cells[0] + 3*s.Cells[1] + 5*s.Cells[2] }

// enough is how many units free all that is dead: T4.
func enough(s api.Share) int { return 16*count(s) + 16 }

// small has a cell of each class, and a quota for all of them.
func small() api.Share {
	return api.Share{Cells: [3]int{1, 1, 1}, Quota: 10, Start: 1}
}

// worlds are of one tenant, of two, of three, of four, and of 16; of shares of each class, of more than one, and of none; of quotas of 0, of less than all cells have, and of more; and with cells that retire soon.
func worlds() [][]api.Share {
	return [][]api.Share{
		{{Cells: [3]int{3, 2, 2}, Quota: 20, Start: 1}},
		{{Cells: [3]int{4, 0, 0}, Quota: 8, Start: 1}, {Cells: [3]int{0, 4, 0}, Quota: 99, Start: 7}},
		{{Cells: [3]int{2, 2, 2}, Quota: 17, Start: 5}, {Cells: [3]int{0, 0, 3}, Quota: mostQuota, Start: 1 << 31}, {Cells: [3]int{3, 1, 0}, Quota: 7, Start: 1}},
		{{Cells: [3]int{2, 1, 1}, Quota: 99, Start: lastStart}, {Cells: [3]int{2, 2, 0}, Quota: 99, Start: greatest - 3}, {Cells: [3]int{1, 1, 1}, Quota: 0, Start: 1}, {Cells: [3]int{2, 0, 1}, Quota: 9, Start: greatest - 20}},
		{small(), {Quota: 9, Start: 1}, small()},
		slices.Repeat([]api.Share{small()}, 16),
	}
}

// three has a share of all classes, one of single cells, and one that is small.
func three() []api.Share {
	return []api.Share{{Cells: [3]int{3, 3, 3}, Quota: 30, Start: 5}, {Cells: [3]int{4, 0, 0}, Quota: 8, Start: 1}, small()}
}

func absentTenants(n int) []int {
	return []int{math.MinInt, -1 << 32, -16, -1, 0, n + 1, n + 16, 17, 1<<32 + 1, math.MaxInt - 1, math.MaxInt}
}

// others are the tenants beside one.
func others(n, tenant int) []int {
	var l []int
	for other := 1; other <= n; other++ {
		if other != tenant {
			l = append(l, other)
		}
	}
	return l
}

func absentDos() []api.Do {
	return []api.Do{math.MinInt, -1 << 32, -13, -2, -1, 13, 14, 26, 255, 256, 1 << 32, 1<<32 + 1, math.MaxInt}
}

func absentEntries() []int {
	return []int{math.MinInt, -1 << 32, -8, -1, 8, 9, 16, 1 << 32, 1<<32 + 1, math.MaxInt}
}

// grant is one that was made: of which cell, in which of its lives; by which entry, in which of its; and what became of it.
type grant struct {
	from, to, cell, gen, entry, life int
	accepted, revoked, closed        bool
}

func (g *grant) word() uint64 { return proxyWord(g.to, g.from, g.entry, g.life) }

// sheet is what a world ought to tell: its tenants stand in arenas of their own, and know nothing of grants; all grants ever made stand in one row, and what a word names is looked for there.
type sheet struct {
	shares  []api.Share
	tenants []*tenant.Tenant
	grants  []*grant
}

func newSheet(t *testing.T, l []api.Share) *sheet {
	t.Helper()
	m := &sheet{shares: slices.Clone(l)}
	for i, s := range l {
		a, e := arena.New(words(s))
		if e != api.OK {
			t.Fatalf("%v: an arena: error %d", s, e)
		}
		x, e := tenant.New(a, 0, s, i+1)
		if e != api.OK {
			t.Fatalf("%v: a tenant: error %d", s, e)
		}
		m.tenants = append(m.tenants, x)
	}
	return m
}

func (m *sheet) has(tenant int) bool { return tenant >= 1 && tenant <= len(m.tenants) }

// row is the grants of one tenant to another one, as they came.
func (m *sheet) row(from, to int) []*grant {
	var l []*grant
	for _, g := range m.grants {
		if g.from == from && g.to == to {
			l = append(l, g)
		}
	}
	return l
}

// life is the generation that an entry has: 1, and one more by each grant of it that was closed.
func (m *sheet) life(from, to, entry int) int {
	n := 1
	for _, g := range m.row(from, to) {
		if g.entry == entry && g.closed {
			n++
		}
	}
	return n
}

// at is what an entry has; nil, if it is empty.
func (m *sheet) at(from, to, entry int) *grant {
	for _, g := range m.row(from, to) {
		if g.entry == entry && !g.closed {
			return g
		}
	}
	return nil
}

// names is the grant that a tenant's word names.
func (m *sheet) names(tenant int, w uint64) (*grant, api.Errno) {
	owner, kind, index, gen := int(w>>60)+1, int(w>>58&3), int(w>>32&lastIndex), int(w&greatest)
	from, entry := index/8+1, index%8
	if kind != proxyKind || owner != tenant || from == tenant || !m.has(from) {
		return nil, api.ErrHandle
	}
	for _, g := range m.row(from, tenant) {
		if g.word() != w {
			continue
		}
		if !g.accepted {
			return nil, api.ErrHandle
		}
		if g.closed {
			return nil, api.ErrStale
		}
		return g, api.OK
	}
	if gen > m.life(from, tenant, entry) {
		return nil, api.ErrHandle
	}
	return nil, api.ErrStale
}

// do is what an operation ought to be answered.
func (m *sheet) do(op api.Op) api.Answer {
	if !m.has(op.Tenant) {
		return wrong(api.ErrOp)
	}
	x := m.tenants[op.Tenant-1]
	switch op.Do {
	case api.Alloc:
		return x.Alloc(op.N)
	case api.Drop:
		return x.Drop(op.Word)
	case api.Load:
		return x.Load(op.Word, op.N)
	case api.Store:
		return x.Store(op.Word, op.N, op.Other)
	case api.Point:
		return x.Point(op.Word, op.N, op.Other)
	case api.Grant, api.Revoke, api.Accept:
		if !m.has(op.N) || op.N == op.Tenant {
			return wrong(api.ErrOp)
		}
		return m.between(op, x)
	case api.Peek, api.Close:
		return m.named(op)
	case api.Drain:
		return x.Drain(op.N)
	case api.Collect:
		return x.Collect(op.N)
	case api.Usage:
		return x.Usage()
	}
	return wrong(api.ErrOp)
}

// between is what is done between two tenants that there are.
func (m *sheet) between(op api.Op, x *tenant.Tenant) api.Answer {
	switch op.Do {
	case api.Grant:
		cell, e := x.Cell(op.Word)
		if e != api.OK {
			return wrong(e)
		}
		for entry := range entries {
			if m.at(op.Tenant, op.N, entry) == nil {
				h, _ := x.Heap().Header(cell)
				m.grants = append(m.grants, &grant{from: op.Tenant, to: op.N, cell: cell, gen: h.Gen, entry: entry, life: m.life(op.Tenant, op.N, entry)})
				return number(uint64(entry))
			}
		}
		return wrong(api.ErrFull)
	case api.Revoke:
		if op.M < 0 || op.M >= entries {
			return wrong(api.ErrOp)
		}
		g := m.at(op.Tenant, op.N, op.M)
		if g == nil || g.revoked {
			return wrong(api.ErrNone)
		}
		g.revoked = true
		return nothing
	}
	for _, g := range m.row(op.N, op.Tenant) {
		if !g.accepted {
			g.accepted = true
			return pointer(g.word())
		}
	}
	return wrong(api.ErrNone)
}

// named is what is done by a proxy.
func (m *sheet) named(op api.Op) api.Answer {
	g, e := m.names(op.Tenant, op.Word)
	if e != api.OK {
		return wrong(e)
	}
	if op.Do == api.Close {
		g.closed = true
		return nothing
	}
	if g.revoked {
		return wrong(api.ErrRevoked)
	}
	return m.tenants[g.from-1].Look(g.cell, g.gen, op.N)
}

// twin is a world, and its sheet: each operation is done to both, what they answer is held against each other, and so is, then, all that they tell. It knows which words were told to each tenant, and which of them still name something.
type twin struct {
	t    *testing.T
	l    []api.Share
	x    *world.World
	m    *sheet
	told []map[uint64]bool
}

func newWorld(t *testing.T, l []api.Share) *world.World {
	t.Helper()
	x, e := world.New(l)
	if x == nil || e != api.OK {
		t.Fatalf("%v: New: %v, error %d", l, x, e)
	}
	return x
}

func made(t *testing.T, l []api.Share) *twin {
	t.Helper()
	w := &twin{t, l, newWorld(t, l), newSheet(t, l), make([]map[uint64]bool, len(l)+1)}
	for i := range w.told {
		w.told[i] = map[uint64]bool{}
	}
	w.same()
	return w
}

// most is how many words an operation may touch.
func most(op api.Op) int {
	if op.Do == api.Drain || op.Do == api.Collect {
		return unitWords * min(max(op.N, 1), mostBudget)
	}
	return actWords
}

// do does an operation, and holds what it answers, how many words it touches, and all that is told then against what ought to be.
func (w *twin) do(op api.Op) api.Answer {
	w.t.Helper()
	touched := w.x.Touched()
	got := w.x.Do(op)
	if n := w.x.Touched() - touched; n < 0 || n > most(op) {
		w.t.Fatalf("%v: %v: %d words touched, at most %d may be", w.l, op, n, most(op))
	}
	if want := w.m.do(op); got != want {
		w.t.Fatalf("%v: %v: %v, want %v", w.l, op, got, want)
	}
	if got.Error == api.OK {
		w.note(op, got)
	}
	w.same()
	return got
}

// note is that a word was told, or that it names nothing more.
func (w *twin) note(op api.Op, got api.Answer) {
	switch op.Do {
	case api.Alloc, api.Load, api.Accept:
		if got.Kind == api.Pointer {
			w.told[op.Tenant][got.Word] = true
		}
	case api.Drop, api.Close:
		w.told[op.Tenant][op.Word] = false
	}
}

// same holds all that the world and its heaps tell against the sheet.
func (w *twin) same() {
	w.t.Helper()
	if n := w.x.Tenants(); n != len(w.l) {
		w.t.Fatalf("%v: Tenants: %d", w.l, n)
	}
	for i, x := range w.m.tenants {
		h, other := w.x.Heap(i+1), x.Heap()
		if h == nil {
			w.t.Fatalf("%v: no Heap of the tenant %d", w.l, i+1)
		}
		if !slices.Equal(h.Roots(), other.Roots()) || !slices.Equal(h.Queue(), other.Queue()) || !slices.Equal(h.Candidates(), other.Candidates()) || h.Used() != other.Used() || h.Changes() != other.Changes() {
			w.t.Fatalf("%v: the tenant %d: Roots %v, Queue %v, Candidates %v, Used %d, Changes %d, want %v, %v, %v, %d, %d", w.l, i+1,
				h.Roots(), h.Queue(), h.Candidates(), h.Used(), h.Changes(), other.Roots(), other.Queue(), other.Candidates(), other.Used(), other.Changes())
		}
		for cell := range count(w.l[i]) {
			v, _ := h.Header(cell)
			u, _ := other.Header(cell)
			if v != u || h.Pending(cell) != other.Pending(cell) {
				w.t.Fatalf("%v: the tenant %d: cell %d: %v, Pending %d, want %v, %d", w.l, i+1, cell, v, h.Pending(cell), u, other.Pending(cell))
			}
			for slot := range h.Slots(cell) {
				v, _ := h.Get(cell, slot)
				if u, _ := other.Get(cell, slot); v != u {
					w.t.Fatalf("%v: the tenant %d: cell %d, slot %d: %v, want %v", w.l, i+1, cell, slot, v, u)
				}
			}
		}
	}
	w.peeks()
}

// peeks holds what each grant's word shows to the one that it was made to against the sheet.
func (w *twin) peeks() {
	w.t.Helper()
	for _, g := range w.m.grants[max(0, len(w.m.grants)-40):] {
		op := api.Op{Do: api.Peek, Tenant: g.to, Word: g.word()}
		if got, want := w.x.Do(op), w.m.do(op); got != want {
			w.t.Fatalf("%v: %v: %v, want %v", w.l, op, got, want)
		}
	}
}

// state is all that a tenant's heap tells.
func state(x *world.World, tenant, cells int) string {
	h := x.Heap(tenant)
	s := fmt.Sprint(h.Graph(), h.Roots(), h.Queue(), h.Candidates(), h.Used(), h.Changes(), x.Do(api.Op{Do: api.Usage, Tenant: tenant}))
	for cell := range cells {
		header, e := h.Header(cell)
		s += fmt.Sprint(header, e, h.Pending(cell))
		for slot := range h.Slots(cell) {
			v, e := h.Get(cell, slot)
			s += fmt.Sprint(v, e)
		}
	}
	for class := range 3 {
		s += fmt.Sprint(h.Room(class))
	}
	return s
}

// states are those of all tenants, and what each one sees by each entry, at the generations that it may have.
func states(x *world.World, l []api.Share, gens int) string {
	s := ""
	for i := range l {
		s += state(x, i+1, count(l[i]))
		for _, from := range others(len(l), i+1) {
			for entry := range entries {
				for gen := range gens {
					s += fmt.Sprint(x.Do(api.Op{Do: api.Peek, Tenant: i + 1, Word: proxyWord(i+1, from, entry, gen)}))
				}
			}
		}
	}
	return s
}

// next is a number that looks like any: the same ones come in each run.
func next(seed *uint64, below int) int {
	*seed = *seed*6364136223846793005 + 1442695040888963407
	return int(*seed>>33) % below
}

// one picks an item of a list.
func one[T any](seed *uint64, l []T) T {
	return l[next(seed, len(l))]
}

// good picks a word that was told to a tenant, and still names something of a kind, if there is one.
func (w *twin) good(seed *uint64, tenant, kind int) uint64 {
	var l []uint64
	for _, of := range slices.Sorted(maps.Keys(w.told[tenant])) {
		if w.told[tenant][of] && int(of>>58&3) == kind {
			l = append(l, of)
		}
	}
	if len(l) == 0 {
		return 0
	}
	return one(seed, l)
}

// anyWord picks a good one, mostly; else one that was told to anyone once, one that is granted, but may not be accepted, one that is off by a bit, or by one generation, or one of another kind.
func (w *twin) anyWord(seed *uint64, tenant, kind int) uint64 {
	of := w.good(seed, tenant, kind)
	switch next(seed, 14) {
	case 0:
		if l := slices.Sorted(maps.Keys(w.told[1+next(seed, len(w.l))])); len(l) > 0 {
			return one(seed, l)
		}
	case 1:
		if l := slices.Sorted(maps.Keys(w.told[tenant])); len(l) > 0 {
			return one(seed, l)
		}
	case 2:
		if len(w.m.grants) > 0 {
			return one(seed, w.m.grants).word()
		}
	case 3:
		return of ^ 1<<next(seed, 64)
	case 4:
		return of + uint64(next(seed, 3)) - 1
	case 5:
		return one(seed, []uint64{0, 1, math.MaxUint64, rootWord(tenant, 0, 1), proxyWord(tenant, 1, 0, 1), proxyWord(tenant, len(w.l), 7, 1), w.good(seed, tenant, 3-kind)})
	}
	return of
}

// anySlot is one that a cell has, mostly.
func anySlot(seed *uint64) int {
	return one(seed, []int{0, 0, 0, 0, 0, 1, 1, 2, 3, 4, -1, math.MinInt, math.MaxInt})
}

// anyOther is another tenant, mostly.
func (w *twin) anyOther(seed *uint64, tenant int) int {
	if l := others(len(w.l), tenant); len(l) > 0 && next(seed, 16) > 0 {
		return one(seed, l)
	}
	return one(seed, append(absentTenants(len(w.l)), tenant))
}

// anyOp is an operation of a tenant's, right or wrong.
func (w *twin) anyOp(seed *uint64, tenant int) api.Op {
	op := api.Op{Tenant: tenant}
	switch next(seed, 24) {
	case 0, 1, 2:
		op.Do, op.N = api.Alloc, one(seed, []int{0, 0, 1, 1, 2, 2, 2, -1, 3})
	case 3, 4:
		op.Do, op.Word = api.Drop, w.anyWord(seed, tenant, rootKind)
	case 5:
		op.Do, op.Word, op.N = api.Load, w.anyWord(seed, tenant, rootKind), anySlot(seed)
	case 6:
		op.Do, op.Word, op.N = api.Store, w.anyWord(seed, tenant, rootKind), anySlot(seed)
		op.Other = one(seed, []uint64{0, 1, 77, lastData, lastData + 1, math.MaxUint64})
	case 7, 8, 9:
		op.Do, op.Word, op.N, op.Other = api.Point, w.anyWord(seed, tenant, rootKind), anySlot(seed), w.anyWord(seed, tenant, rootKind)
	case 10, 11, 12, 13:
		op.Do, op.Word, op.N = api.Grant, w.anyWord(seed, tenant, rootKind), w.anyOther(seed, tenant)
	case 14:
		op.Do, op.N, op.M = api.Revoke, w.anyOther(seed, tenant), one(seed, []int{0, 0, 1, 1, 2, 3, 4, 7, -1, 8})
	case 15, 16, 17:
		op.Do, op.N = api.Accept, w.anyOther(seed, tenant)
	case 18, 19:
		op.Do, op.Word, op.N = api.Peek, w.anyWord(seed, tenant, proxyKind), anySlot(seed)
	case 20, 21:
		op.Do, op.Word = api.Close, w.anyWord(seed, tenant, proxyKind)
	case 22:
		op.Do, op.N = one(seed, []api.Do{api.Drain, api.Collect, api.Collect}), one(seed, []int{1, 1, 2, 3, 9, 30, mostBudget, 0, -1, mostBudget + 1})
	case 23:
		op.Do, op.N = one(seed, append(absentDos(), api.Usage, api.Usage, api.Usage, api.Usage, api.Usage)), next(seed, 3)
	}
	return op
}

// anyone is a tenant that there is, mostly.
func (w *twin) anyone(seed *uint64) int {
	if next(seed, 40) == 0 {
		return one(seed, absentTenants(len(w.l)))
	}
	return 1 + next(seed, len(w.l))
}

// any does an operation of any tenant's, right or wrong; one that there is not has operations such as the first one's.
func (w *twin) any(seed *uint64) (api.Op, api.Answer) {
	w.t.Helper()
	tenant := w.anyone(seed)
	op := w.anyOp(seed, max(1, min(tenant, len(w.l))))
	op.Tenant = tenant
	return op, w.do(op)
}

// The operations by their arguments.
func (w *twin) alloc(tenant, class int) api.Answer {
	w.t.Helper()
	return w.do(api.Op{Do: api.Alloc, Tenant: tenant, N: class})
}

func (w *twin) drop(tenant int, of uint64) api.Answer {
	w.t.Helper()
	return w.do(api.Op{Do: api.Drop, Tenant: tenant, Word: of})
}

func (w *twin) load(tenant int, of uint64, slot int) api.Answer {
	w.t.Helper()
	return w.do(api.Op{Do: api.Load, Tenant: tenant, Word: of, N: slot})
}

func (w *twin) store(tenant int, of uint64, slot int, n uint64) api.Answer {
	w.t.Helper()
	return w.do(api.Op{Do: api.Store, Tenant: tenant, Word: of, N: slot, Other: n})
}

func (w *twin) point(tenant int, of uint64, slot int, to uint64) api.Answer {
	w.t.Helper()
	return w.do(api.Op{Do: api.Point, Tenant: tenant, Word: of, N: slot, Other: to})
}

func (w *twin) grant(tenant int, of uint64, to int) api.Answer {
	w.t.Helper()
	return w.do(api.Op{Do: api.Grant, Tenant: tenant, Word: of, N: to})
}

func (w *twin) revoke(tenant, to, entry int) api.Answer {
	w.t.Helper()
	return w.do(api.Op{Do: api.Revoke, Tenant: tenant, N: to, M: entry})
}

func (w *twin) accept(tenant, from int) api.Answer {
	w.t.Helper()
	return w.do(api.Op{Do: api.Accept, Tenant: tenant, N: from})
}

func (w *twin) peek(tenant int, of uint64, slot int) api.Answer {
	w.t.Helper()
	return w.do(api.Op{Do: api.Peek, Tenant: tenant, Word: of, N: slot})
}

func (w *twin) close(tenant int, of uint64) api.Answer {
	w.t.Helper()
	return w.do(api.Op{Do: api.Close, Tenant: tenant, Word: of})
}

func (w *twin) drain(tenant, budget int) api.Answer {
	w.t.Helper()
	return w.do(api.Op{Do: api.Drain, Tenant: tenant, N: budget})
}

func (w *twin) collect(tenant, budget int) api.Answer {
	w.t.Helper()
	return w.do(api.Op{Do: api.Collect, Tenant: tenant, N: budget})
}

func (w *twin) usage(tenant int) api.Answer {
	w.t.Helper()
	return w.do(api.Op{Do: api.Usage, Tenant: tenant})
}

// shown grants a cell to another tenant, who accepts it: the proxy's word.
func (w *twin) shown(tenant int, of uint64, to int) uint64 {
	w.t.Helper()
	if got := w.grant(tenant, of, to); got.Error != api.OK {
		w.t.Fatalf("Grant of %016x to %d: %v", of, to, got)
	}
	got := w.accept(to, tenant)
	if got.Kind != api.Pointer {
		w.t.Fatalf("Accept by %d: %v", to, got)
	}
	return got.Word
}

// is holds an answer against the one that is written down.
func (w *twin) is(what string, got, want api.Answer) {
	w.t.Helper()
	if got != want {
		w.t.Errorf("%s: %v, want %v", what, got, want)
	}
}
