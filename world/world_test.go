package world_test

import (
	"math"
	"slices"
	"testing"

	"socage/api"
	"socage/graph"
	"socage/world"
)

// P17.1: a new world, of one tenant up to 16: how many there are, and a heap for each of them alone, without live cells; nothing was granted.
func TestNew(t *testing.T) {
	l := worlds()
	for n := 1; n <= 16; n++ {
		l = append(l, slices.Repeat([]api.Share{{Start: 1}}, n))
	}
	l = append(l, slices.Repeat([]api.Share{{Cells: [3]int{mostCells, mostCells, mostCells}, Quota: mostQuota, Start: lastStart}}, 16))
	for _, l := range l {
		w := made(t, l)
		for _, tenant := range absentTenants(len(l)) {
			if h := w.x.Heap(tenant); h != nil {
				t.Errorf("%v: a Heap of the tenant %d", l, tenant)
			}
		}
		for i := range l {
			w.is("Usage", w.usage(i+1), number(0))
			if h := w.x.Heap(i + 1); len(h.Graph().Nodes) != 0 || h.Used() != 0 {
				t.Errorf("%v: the tenant %d has %v", l, i+1, h.Graph())
			}
			for _, from := range others(len(l), i+1) {
				w.is("Accept", w.accept(i+1, from), wrong(api.ErrNone))
				w.is("Revoke", w.revoke(i+1, from, 0), wrong(api.ErrNone))
			}
		}
	}
}

// P17.1: what can't be a configuration: no tenant, too many, and a share that may not be, wherever it stands.
func TestNewRefuses(t *testing.T) {
	right := api.Share{Cells: [3]int{1, 1, 1}, Quota: 9, Start: 1}
	bad := [][]api.Share{nil, {}, slices.Repeat([]api.Share{right}, 17), make([]api.Share, 1), make([]api.Share, 16), make([]api.Share, 1000)}
	for _, s := range []api.Share{
		{Start: 0}, {Start: -1}, {Start: greatest}, {Start: math.MaxInt}, {Start: 1, Quota: -1}, {Start: 1, Quota: mostQuota + 1}, {Start: 1, Quota: math.MaxInt},
		{Start: 1, Cells: [3]int{-1, 0, 0}}, {Start: 1, Cells: [3]int{0, mostCells + 1, 0}}, {Start: 1, Cells: [3]int{0, 0, math.MaxInt}}, {Start: 1, Cells: [3]int{math.MinInt, 0, 0}},
	} {
		for at := range 3 {
			l := []api.Share{right, right, right}
			l[at] = s
			bad = append(bad, l)
		}
		bad = append(bad, []api.Share{s})
	}
	for _, l := range bad {
		if w, e := world.New(l); w != nil || e != api.ErrArg {
			t.Errorf("%v: %v, error %d, want nil, ErrArg", l, w, e)
		}
	}
}

// P17.1, rule 4: the list that New is handed is neither written into nor kept; what lies behind its length is not looked at.
func TestNewKeepsNothing(t *testing.T) {
	l := append(three(), api.Share{Start: -1})
	was := slices.Clone(l)
	w := newWorld(t, l[:3])
	if !slices.Equal(l, was) {
		t.Errorf("New wrote: %v, was %v", l, was)
	}
	clear(l)
	if n := w.Tenants(); n != 3 {
		t.Errorf("Tenants: %d", n)
	}
	if got, want := w.Do(api.Op{Do: api.Alloc, Tenant: 2}), pointer(rootWord(2, 0, 1)); got != want {
		t.Errorf("Alloc: %v, want %v", got, want)
	}
}

// P17.1: one of each operation, in a world of two tenants, with the words as they are written.
func TestOrdinary(t *testing.T) {
	w := made(t, []api.Share{{Cells: [3]int{1, 0, 1}, Quota: 9, Start: 1}, {Cells: [3]int{1, 0, 0}, Quota: 9, Start: 7}})
	const a, b, c, p = 0x0400000000000001, 0x0400000100000001, 0x1400000000000007, 0x1800000000000001
	w.is("Alloc", w.alloc(1, 0), pointer(a))
	w.is("Alloc", w.alloc(1, 2), pointer(b))
	w.is("Alloc", w.alloc(2, 0), pointer(c))
	w.is("Store", w.store(1, a, 0, 77), nothing)
	w.is("Point", w.point(1, b, 3, a), nothing)
	w.is("Load", w.load(1, a, 0), number(77))
	w.is("Load", w.load(1, b, 3), pointer(a))
	w.is("Load", w.load(1, b, 2), nothing)
	w.is("Usage", w.usage(1), number(7))
	w.is("Grant", w.grant(1, b, 2), number(0))
	w.is("Accept", w.accept(2, 1), pointer(p))
	w.is("Peek", w.peek(2, p, 3), pointer(0))
	w.is("Peek", w.peek(2, p, 0), nothing)
	w.is("Store", w.store(1, b, 0, lastData), nothing)
	w.is("Peek", w.peek(2, p, 0), number(lastData))
	w.is("Drop", w.drop(1, b), nothing)
	w.is("Load", w.load(1, b, 3), wrong(api.ErrStale))
	w.is("Peek", w.peek(2, p, 0), number(lastData))
	w.is("Drain", w.drain(1, 9), number(1))
	w.is("Peek", w.peek(2, p, 0), wrong(api.ErrRevoked))
	w.is("Revoke", w.revoke(1, 2, 0), nothing)
	w.is("Close", w.close(2, p), nothing)
	w.is("Close", w.close(2, p), wrong(api.ErrStale))
	w.is("Usage", w.usage(1), number(2))
	w.is("Usage", w.usage(2), number(2))
}

// P17.1: the proxy of tenant 3 for the entry 5 of tenant 1, of generation 258, is the one that the document writes; and those of the first and of the last entries of 16 tenants.
func TestProxyWords(t *testing.T) {
	w := made(t, three())
	of := w.alloc(1, 0).Word
	for range 5 {
		w.shown(1, of, 3)
	}
	for gen := 1; gen < 258; gen++ {
		p := w.shown(1, of, 3)
		if want := proxyWord(3, 1, 5, gen); p != want {
			t.Fatalf("%016x, want %016x", p, want)
		}
		w.close(3, p)
	}
	if p := w.shown(1, of, 3); p != 0x2800000500000102 {
		t.Errorf("%016x", p)
	}
	w = made(t, worlds()[5])
	for _, x := range []struct {
		from, to    int
		first, last uint64
	}{{1, 16, 0xf800000000000001, 0xf800000700000001}, {16, 1, 0x0800007800000001, 0x0800007f00000001}, {15, 16, 0xf800007000000001, 0xf800007700000001}, {2, 1, 0x0800000800000001, 0x0800000f00000001}} {
		of := w.alloc(x.from, 0).Word
		if of == 0 {
			of = w.good(new(uint64), x.from, rootKind)
		}
		for entry := range entries {
			p := w.shown(x.from, of, x.to)
			if entry == 0 && p != x.first || entry == 7 && p != x.last {
				t.Errorf("from %d to %d: entry %d: %016x", x.from, x.to, entry, p)
			}
		}
	}
}

// P17.1: a tenant that there is not, or Do that is below 0 or above 12, is ErrOp, whatever else is told, ahead of all else; tenants 1 and the last one, and Do 0 and 12, are none of these.
func TestWhoAndWhat(t *testing.T) {
	for _, l := range worlds() {
		w := made(t, l)
		for _, tenant := range absentTenants(len(l)) {
			for do := api.Alloc; do <= api.Usage; do++ {
				for _, n := range []int{0, 1, 2} {
					w.is("no tenant", w.do(api.Op{Do: do, Tenant: tenant, N: n, Word: rootWord(1, 0, 1)}), wrong(api.ErrOp))
				}
			}
		}
		for _, do := range absentDos() {
			for tenant := range len(l) + 2 {
				w.is("no operation", w.do(api.Op{Do: do, Tenant: tenant, N: 1, Word: rootWord(1, 0, 1)}), wrong(api.ErrOp))
			}
		}
		for _, tenant := range []int{1, len(l)} {
			if got := w.do(api.Op{Tenant: tenant}); got.Kind != api.Pointer && got.Error != api.ErrQuota && got.Error != api.ErrFull {
				t.Errorf("Do 0 by the tenant %d: %v", tenant, got)
			}
			if got := w.do(api.Op{Do: 12, Tenant: tenant}); got.Kind != api.Data {
				t.Errorf("Do 12 by the tenant %d: %v", tenant, got)
			}
		}
	}
}

// P17.1: what an operation has no use for makes no difference.
func TestNeedless(t *testing.T) {
	for _, n := range []int{math.MinInt, -1, 1, 99, math.MaxInt} {
		w := made(t, three())
		of := w.do(api.Op{Do: api.Alloc, Tenant: 1, N: 1, M: n, Word: uint64(n), Other: uint64(n)}).Word
		w.is("Store", w.do(api.Op{Do: api.Store, Tenant: 1, Word: of, N: 1, Other: 5, M: n}), nothing)
		w.is("Load", w.do(api.Op{Do: api.Load, Tenant: 1, Word: of, N: 1, Other: uint64(n), M: n}), number(5))
		w.is("Grant", w.do(api.Op{Do: api.Grant, Tenant: 1, Word: of, N: 2, Other: uint64(n), M: n}), number(0))
		p := w.do(api.Op{Do: api.Accept, Tenant: 2, N: 1, M: n, Word: uint64(n), Other: uint64(n)})
		w.is("Accept", p, pointer(proxyWord(2, 1, 0, 1)))
		w.is("Peek", w.do(api.Op{Do: api.Peek, Tenant: 2, Word: p.Word, N: 1, M: n, Other: uint64(n)}), number(5))
		w.is("Revoke", w.do(api.Op{Do: api.Revoke, Tenant: 1, N: 2, Word: uint64(n), Other: uint64(n)}), nothing)
		w.is("Close", w.do(api.Op{Do: api.Close, Tenant: 2, Word: p.Word, N: n, M: n, Other: uint64(n)}), nothing)
		w.is("Drop", w.do(api.Op{Do: api.Drop, Tenant: 1, Word: of, N: n, M: n, Other: uint64(n)}), nothing)
		w.is("Drain", w.do(api.Op{Do: api.Drain, Tenant: 1, N: 1, M: n, Word: uint64(n), Other: uint64(n)}), number(1))
		w.is("Collect", w.do(api.Op{Do: api.Collect, Tenant: 1, N: 1, M: n, Word: uint64(n), Other: uint64(n)}), number(0))
		w.is("Usage", w.do(api.Op{Do: api.Usage, Tenant: 1, N: n, M: n, Word: uint64(n), Other: uint64(n)}), number(0))
	}
}

// P17.1: N that is no other tenant: there is none such, or it is the tenant itself; the last other one is one.
func TestNoOther(t *testing.T) {
	for _, l := range worlds() {
		w := made(t, l)
		for _, tenant := range []int{1, len(l)} {
			of := w.alloc(tenant, 0).Word
			for _, n := range append(absentTenants(len(l)), tenant) {
				for _, word := range []uint64{of, 0, of + 1} {
					w.is("Grant", w.grant(tenant, word, n), wrong(api.ErrOp))
				}
				w.is("Revoke", w.revoke(tenant, n, 0), wrong(api.ErrOp))
				w.is("Revoke", w.revoke(tenant, n, 8), wrong(api.ErrOp))
				w.is("Accept", w.accept(tenant, n), wrong(api.ErrOp))
			}
		}
	}
	w := made(t, three())
	of := w.alloc(1, 0).Word
	w.is("Grant", w.grant(1, of, 3), number(0))
	w.is("Accept", w.accept(3, 1), pointer(proxyWord(3, 1, 0, 1)))
	w.is("Accept", w.accept(3, 2), wrong(api.ErrNone))
	of = w.alloc(3, 0).Word
	w.is("Grant", w.grant(3, of, 2), number(0))
	w.is("Accept", w.accept(2, 3), pointer(proxyWord(2, 3, 0, 1)))
}

// P17.1: Grant opens the first entry that is empty, of the table to that tenant alone; a full table is told behind a word that names no cell. One that is revoked is not empty, one that is closed is.
func TestGrant(t *testing.T) {
	w := made(t, three())
	a, b := w.alloc(1, 0).Word, w.alloc(1, 2).Word
	w.store(1, a, 0, 1)
	w.store(1, b, 0, 2)
	var got []uint64
	for entry := range entries {
		of := []uint64{a, b}[entry%2]
		w.is("Grant", w.grant(1, of, 2), number(uint64(entry)))
		got = append(got, w.accept(2, 1).Word)
	}
	for entry, p := range got {
		w.is("Peek", w.peek(2, p, 0), number(uint64(1+entry%2)))
	}
	w.is("a full table", w.grant(1, a, 2), wrong(api.ErrFull))
	w.is("another word", w.grant(1, a+1, 2), wrong(api.ErrHandle))
	w.is("no tenant", w.grant(1, a, 4), wrong(api.ErrOp))
	w.is("another table", w.grant(1, a, 3), number(0))
	w.revoke(1, 2, 5)
	w.is("revoked", w.grant(1, a, 2), wrong(api.ErrFull))
	w.close(2, got[6])
	w.close(2, got[3])
	w.is("closed", w.grant(1, b, 2), number(3))
	w.is("closed", w.grant(1, a, 2), number(6))
	w.is("full again", w.grant(1, a, 2), wrong(api.ErrFull))
	w.is("Accept", w.accept(2, 1), pointer(proxyWord(2, 1, 3, 2)))
	w.is("Accept", w.accept(2, 1), pointer(proxyWord(2, 1, 6, 2)))
	w.is("Peek", w.peek(2, proxyWord(2, 1, 3, 2), 0), number(2))
	w.is("Peek", w.peek(2, got[3], 0), wrong(api.ErrStale))
	w.drop(1, a)
	w.is("dropped", w.grant(1, a, 2), wrong(api.ErrStale))
	w.is("dropped", w.grant(1, a, 3), wrong(api.ErrStale))
}

// P17.1: words that name no cell of the tenant's are not granted: another tenant's, a proxy's, one of another generation, one that is no handle.
func TestGrantOfNone(t *testing.T) {
	w := made(t, three())
	a, b := w.alloc(1, 0).Word, w.alloc(2, 0).Word
	p := w.shown(2, b, 1)
	for _, of := range []uint64{b, p, 0, 1, a + 1, a | proxyKind<<58, rootWord(1, 9, 5), rootWord(1, lastIndex, 5), math.MaxUint64} {
		w.is("Grant", w.grant(1, of, 2), wrong(api.ErrHandle))
	}
	for _, of := range []uint64{a - 1, rootWord(1, 1, 5), rootWord(1, 0, 0)} {
		w.is("Grant", w.grant(1, of, 2), wrong(api.ErrStale))
	}
	w.is("Accept", w.accept(2, 1), wrong(api.ErrNone))
	w.is("Grant", w.grant(1, a, 2), number(0))
}

// P17.1: what came first leaves an inbox first, also what was revoked meanwhile; each two tenants have an inbox for each other. An entry that was closed comes again, with its next generation, behind what waits.
func TestAccept(t *testing.T) {
	w := made(t, three())
	a, b, c := w.alloc(1, 0).Word, w.alloc(2, 0).Word, w.alloc(3, 0).Word
	w.grant(1, a, 2)
	w.grant(1, a, 2)
	w.grant(2, b, 1)
	w.grant(3, c, 2)
	w.grant(1, a, 3)
	w.grant(1, a, 2)
	w.revoke(1, 2, 1)
	w.is("the first", w.accept(2, 1), pointer(proxyWord(2, 1, 0, 1)))
	w.close(2, proxyWord(2, 1, 0, 1))
	w.is("opened again", w.grant(1, a, 2), number(0))
	w.is("revoked", w.accept(2, 1), pointer(proxyWord(2, 1, 1, 1)))
	w.is("revoked", w.peek(2, proxyWord(2, 1, 1, 1), 0), wrong(api.ErrRevoked))
	w.is("the third", w.accept(2, 1), pointer(proxyWord(2, 1, 2, 1)))
	w.is("what came again", w.accept(2, 1), pointer(proxyWord(2, 1, 0, 2)))
	w.is("an empty inbox", w.accept(2, 1), wrong(api.ErrNone))
	w.is("for the third tenant", w.accept(2, 3), pointer(proxyWord(2, 3, 0, 1)))
	w.is("an empty inbox", w.accept(2, 3), wrong(api.ErrNone))
	w.is("the other way", w.accept(1, 2), pointer(proxyWord(1, 2, 0, 1)))
	w.is("the other way", w.accept(1, 2), wrong(api.ErrNone))
	w.is("to the third tenant", w.accept(3, 1), pointer(proxyWord(3, 1, 0, 1)))
	w.is("to the third tenant", w.accept(3, 2), wrong(api.ErrNone))
}

// P17.1: the inbox has a place for all that a table can have open; a cell that died meanwhile is accepted, too.
func TestAcceptOfTheDead(t *testing.T) {
	w := made(t, three())
	a := w.alloc(1, 0).Word
	for range entries {
		w.grant(1, a, 2)
	}
	w.drop(1, a)
	w.drain(1, 1)
	for entry := range entries {
		w.is("Accept", w.accept(2, 1), pointer(proxyWord(2, 1, entry, 1)))
		w.is("Peek", w.peek(2, proxyWord(2, 1, entry, 1), 0), wrong(api.ErrRevoked))
	}
	w.is("Accept", w.accept(2, 1), wrong(api.ErrNone))
}

// P17.1: Revoke of each entry, of one that is open, that waits, that is revoked, that is empty, that was closed, that was opened again; and of entries that there are not.
func TestRevoke(t *testing.T) {
	w := made(t, three())
	a := w.alloc(1, 0).Word
	for entry := range entries {
		w.is("an empty one", w.revoke(1, 2, entry), wrong(api.ErrNone))
	}
	for _, entry := range absentEntries() {
		w.is("no entry", w.revoke(1, 2, entry), wrong(api.ErrOp))
	}
	var got []uint64
	for range entries {
		got = append(got, w.shown(1, a, 2))
	}
	w.shown(1, a, 3)
	w.is("the other one's table", w.revoke(2, 1, 0), wrong(api.ErrNone))
	w.is("the last entry", w.revoke(1, 2, 7), nothing)
	w.is("the first entry", w.revoke(1, 2, 0), nothing)
	w.is("once more", w.revoke(1, 2, 7), wrong(api.ErrNone))
	for entry, p := range got {
		want := nothing
		if entry == 0 || entry == 7 {
			want = wrong(api.ErrRevoked)
		}
		w.is("Peek", w.peek(2, p, 0), want)
	}
	w.is("another tenant's", w.peek(3, proxyWord(3, 1, 0, 1), 0), nothing)
	w.close(2, got[7])
	w.is("a closed one", w.revoke(1, 2, 7), wrong(api.ErrNone))
	w.is("opened again", w.grant(1, a, 2), number(7))
	w.is("one that waits", w.revoke(1, 2, 7), nothing)
	w.is("one that waits, once more", w.revoke(1, 2, 7), wrong(api.ErrNone))
	w.is("accepted", w.accept(2, 1), pointer(proxyWord(2, 1, 7, 2)))
	w.is("Peek", w.peek(2, proxyWord(2, 1, 7, 2), 0), wrong(api.ErrRevoked))
	w.is("the tenant itself", w.revoke(1, 1, 0), wrong(api.ErrOp))
}

// P17.1: Peek at Nil, Data and a Pointer, at each slot, and at those that there are not; the word's error goes ahead, a revoked entry's ahead of the slot's.
func TestPeek(t *testing.T) {
	w := made(t, three())
	for class, slots := range []int{1, 2, 4} {
		of := w.alloc(1, class).Word
		p := w.shown(1, of, 2)
		for slot := range slots {
			w.is("Nil", w.peek(2, p, slot), nothing)
			for _, n := range []uint64{0, 1, lastData} {
				w.store(1, of, slot, n)
				w.is("Data", w.peek(2, p, slot), number(n))
			}
			w.point(1, of, slot, of)
			w.is("a Pointer", w.peek(2, p, slot), pointer(0))
			w.point(1, of, slot, 0)
			w.is("Nil again", w.peek(2, p, slot), nothing)
		}
		for _, slot := range []int{math.MinInt, -1 << 32, -1, slots, slots + 1, 1 << 32, 1<<32 + slots - 1, math.MaxInt} {
			w.is("no slot", w.peek(2, p, slot), wrong(api.ErrOp))
			w.is("no slot, another word", w.peek(2, p+1, slot), wrong(api.ErrHandle))
		}
		w.revoke(1, 2, class)
		w.is("revoked", w.peek(2, p, 0), wrong(api.ErrRevoked))
		w.is("revoked, no slot", w.peek(2, p, slots), wrong(api.ErrRevoked))
		w.close(2, p)
		w.is("closed, no slot", w.peek(2, p, slots), wrong(api.ErrStale))
		w.shown(1, of, 2)
	}
}

// P17.1: Peek at a cell that was dropped, but not drained; that was drained; that was allocated again; that retired.
func TestPeekAtTheDead(t *testing.T) {
	w := made(t, []api.Share{{Cells: [3]int{1, 0, 0}, Quota: 9, Start: greatest - 2}, {Start: 1}})
	a := w.alloc(1, 0).Word
	w.store(1, a, 0, 7)
	p := w.shown(1, a, 2)
	w.drop(1, a)
	w.is("dropped", w.peek(2, p, 0), number(7))
	w.is("dropped, no slot", w.peek(2, p, 1), wrong(api.ErrOp))
	w.drain(1, 1)
	w.is("drained", w.peek(2, p, 0), wrong(api.ErrRevoked))
	w.is("drained, no slot", w.peek(2, p, 1), wrong(api.ErrRevoked))
	b := w.alloc(1, 0).Word
	w.is("allocated again", pointer(b), pointer(rootWord(1, 0, greatest-1)))
	w.is("allocated again", w.peek(2, p, 0), wrong(api.ErrRevoked))
	q := w.shown(1, b, 2)
	w.is("the next life", w.peek(2, q, 0), nothing)
	w.drop(1, b)
	w.drain(1, 1)
	w.is("retired", w.alloc(1, 0), wrong(api.ErrFull))
	w.is("retired", w.peek(2, q, 0), wrong(api.ErrRevoked))
	w.is("Close of what shows nothing", w.close(2, p), nothing)
	w.is("Revoke of what shows nothing", w.revoke(1, 2, 1), nothing)
	w.is("Close of what is revoked", w.close(2, q), nothing)
}

// P17.1: a cell that is loaded again, having been dropped, has the word that it had: the entry shows it all along.
func TestPeekOn(t *testing.T) {
	w := made(t, three())
	a, b := w.alloc(1, 0).Word, w.alloc(1, 1).Word
	w.point(1, b, 0, a)
	p := w.shown(1, a, 2)
	w.drop(1, a)
	w.drain(1, 9)
	w.is("held by another cell", w.peek(2, p, 0), nothing)
	w.is("Load", w.load(1, b, 0), pointer(a))
	w.store(1, a, 0, 3)
	w.is("Peek", w.peek(2, p, 0), number(3))
}

// both holds what Peek, at slot 0, and Close are answered by a word that names no entry.
func (w *twin) both(what string, tenant int, of uint64, want api.Errno) {
	w.t.Helper()
	w.is(what+": Peek", w.peek(tenant, of, 0), wrong(want))
	w.is(what+": Peek at no slot", w.peek(tenant, of, -1), wrong(want))
	w.is(what+": Close", w.close(tenant, of), wrong(want))
}

// P17.1, P17.3: words that name no entry: of each Kind, of another tenant, of an Index whose other tenant there is not, or is the tenant itself, of an entry at its generation, one less, and one more, while it is empty, waits, is open, revoked, closed, and opened again.
func TestWords(t *testing.T) {
	w := made(t, three())
	a := w.alloc(1, 0).Word
	p := proxyWord(2, 1, 4, 1)
	around := func(what string, gen int, below, at, above api.Errno) {
		t.Helper()
		w.both(what+", less", 2, proxyWord(2, 1, 4, gen-1), below)
		if at != api.OK {
			w.both(what, 2, proxyWord(2, 1, 4, gen), at)
		}
		w.both(what+", more", 2, proxyWord(2, 1, 4, gen+1), above)
		w.both(what+", the greatest", 2, proxyWord(2, 1, 4, greatest), api.ErrHandle)
		w.both(what+", 0", 2, proxyWord(2, 1, 4, 0), api.ErrStale)
	}
	around("empty", 1, api.ErrStale, api.ErrStale, api.ErrHandle)
	for range 4 {
		w.shown(1, a, 2)
	}
	w.grant(1, a, 2)
	around("waits", 1, api.ErrStale, api.ErrHandle, api.ErrHandle)
	w.revoke(1, 2, 4)
	around("waits, revoked", 1, api.ErrStale, api.ErrHandle, api.ErrHandle)
	w.is("Accept", w.accept(2, 1), pointer(p))
	around("revoked", 1, api.ErrStale, api.OK, api.ErrHandle)
	w.is("revoked", w.peek(2, p, 0), wrong(api.ErrRevoked))
	w.is("revoked", w.close(2, p), nothing)
	around("closed", 2, api.ErrStale, api.ErrStale, api.ErrHandle)
	w.grant(1, a, 2)
	around("opened again, waits", 2, api.ErrStale, api.ErrHandle, api.ErrHandle)
	w.accept(2, 1)
	around("opened again", 2, api.ErrStale, api.OK, api.ErrHandle)
	w.is("open", w.peek(2, p+1, 0), nothing)
	for kind := range 4 {
		if kind != proxyKind {
			w.both("kind", 2, word(2, kind, 4, 2), api.ErrHandle)
		}
	}
	for owner := 1; owner <= 16; owner++ {
		if owner != 2 {
			w.both("owner", 2, proxyWord(owner, 1, 4, 2), api.ErrHandle)
		}
	}
	for _, tenant := range []int{1, 3} {
		w.both("another tenant's", tenant, p+1, api.ErrHandle)
	}
	for _, index := range []int{8, 12, 15, 24, 28, 31, 32, 127, 128, 132, lastIndex - 3, lastIndex} {
		for _, gen := range []int{0, 1, 2, greatest} {
			w.both("index", 2, word(2, proxyKind, index, gen), api.ErrHandle)
		}
	}
	w.both("an empty one of the third tenant's", 2, proxyWord(2, 3, 4, 1), api.ErrStale)
	w.both("one more of the third tenant's", 2, proxyWord(2, 3, 7, 2), api.ErrHandle)
	for _, of := range []uint64{0, 1, math.MaxUint64, 1 << 58, 1 << 59, 1 << 63, w.alloc(2, 0).Word, a} {
		w.both("no proxy", 2, of, api.ErrHandle)
	}
	w.is("Close", w.close(2, p+1), nothing)
}

// P17.1: in a world of one tenant, no word names an entry.
func TestAlone(t *testing.T) {
	w := made(t, worlds()[0])
	a := w.alloc(1, 0).Word
	for index := range 20 {
		for gen := range 3 {
			w.both("alone", 1, word(1, proxyKind, index, gen), api.ErrHandle)
		}
	}
	w.both("a root", 1, a, api.ErrHandle)
}

// P17.1: a proxy's word names no cell, a root's no entry: of the tenant, of the one that granted, and of any other one.
func TestProxiesAreNoRoots(t *testing.T) {
	w := made(t, three())
	a := w.alloc(1, 0).Word
	p := w.shown(1, a, 2)
	b := w.alloc(2, 0).Word
	for tenant := range 4 {
		for _, of := range []uint64{a, b, p} {
			if tenant == int(of>>60)+1 && of != p {
				continue
			}
			want := wrong(api.ErrHandle)
			if tenant == 0 {
				want = wrong(api.ErrOp)
			}
			w.is("Drop", w.drop(tenant, of), want)
			w.is("Load", w.load(tenant, of, 0), want)
			w.is("Store", w.store(tenant, of, 0, 1), want)
			w.is("Point", w.point(tenant, of, 0, 0), want)
		}
	}
	w.is("Point to a proxy", w.point(2, b, 0, p), wrong(api.ErrHandle))
	w.is("Point to another one's", w.point(2, b, 0, a), wrong(api.ErrHandle))
	w.is("Point of another one's", w.point(1, a, 0, b), wrong(api.ErrHandle))
}

// P17.1: Close of an open entry, and of a revoked one; the table has room for it again; the other entries, and the other tables, stay as they are.
func TestClose(t *testing.T) {
	w := made(t, three())
	a := w.alloc(1, 0).Word
	w.store(1, a, 0, 5)
	p, q, r := w.shown(1, a, 2), w.shown(1, a, 2), w.shown(1, a, 3)
	w.is("open", w.close(2, p), nothing)
	w.both("closed", 2, p, api.ErrStale)
	w.is("the other entry", w.peek(2, q, 0), number(5))
	w.is("the other table", w.peek(3, r, 0), number(5))
	w.revoke(1, 2, 1)
	w.is("revoked", w.close(2, q), nothing)
	w.is("the other table", w.close(3, r), nothing)
	w.is("Usage", w.usage(1), number(2))
	w.is("Load", w.load(1, a, 0), number(5))
	w.is("Grant", w.grant(1, a, 2), number(0))
	w.is("Grant", w.grant(1, a, 2), number(1))
	w.is("Grant", w.grant(1, a, 2), number(2))
}

// P17.1: which error is told where several apply: no tenant ahead of all, then no other tenant, then the word's, then the table's; the word's ahead of a slot's.
func TestErrorsInOrder(t *testing.T) {
	w := made(t, three())
	a := w.alloc(1, 0).Word
	for range entries {
		w.grant(1, a, 2)
	}
	w.is("no tenant", w.grant(4, a+1, 4), wrong(api.ErrOp))
	w.is("no other one", w.grant(1, a+1, 1), wrong(api.ErrOp))
	w.is("the word's", w.grant(1, a+1, 2), wrong(api.ErrHandle))
	w.is("the word's", w.grant(1, a-1, 2), wrong(api.ErrStale))
	w.is("the table's", w.grant(1, a, 2), wrong(api.ErrFull))
	w.is("no entry", w.revoke(1, 3, 8), wrong(api.ErrOp))
	w.is("no other one", w.revoke(1, 4, 0), wrong(api.ErrOp))
	w.is("it is not open", w.revoke(1, 3, 0), wrong(api.ErrNone))
	w.is("the word's", w.load(1, a+1, 9), wrong(api.ErrHandle))
	w.is("the slot's", w.load(1, a, 9), wrong(api.ErrOp))
	w.is("the class's", w.alloc(1, 3), wrong(api.ErrOp))
	w.is("the budget's", w.collect(1, 0), wrong(api.ErrOp))
	w.is("the budget's", w.drain(1, mostBudget+1), wrong(api.ErrOp))
	w.is("the quota's", w.alloc(2, 1), wrong(api.ErrFull))
}

// P17.1, P1, rule 8: a nil world, whatever else is wrong.
func TestNilWorld(t *testing.T) {
	var w *world.World
	for _, do := range append(absentDos(), 0, 1, 2, 3, 4, 5, 6, 7, 8, 9, 10, 11, 12) {
		for _, n := range []int{math.MinInt, -1, 0, 1, 2, math.MaxInt} {
			if got := w.Do(api.Op{Do: do, Tenant: n, N: n, M: n, Word: uint64(n), Other: uint64(n)}); got != wrong(api.ErrArg) {
				t.Errorf("Do %d: %v, want ErrArg", do, got)
			}
			if h := w.Heap(n); h != nil {
				t.Errorf("Heap of %d: %v", n, h)
			}
		}
	}
	if w.Tenants() != 0 || w.Touched() != 0 {
		t.Errorf("Tenants %d, Touched %d", w.Tenants(), w.Touched())
	}
}

// P17.1, T5: Touched grows by the words that an operation touches, in whichever tenant's part: few ones (each twin holds how many there may be), but some where something is read or written; by what there is no tenant for, none.
func TestTouched(t *testing.T) {
	w := made(t, three())
	grows := func(what string, least int, act func() api.Answer) api.Answer {
		t.Helper()
		touched := w.x.Touched()
		got := act()
		if n := w.x.Touched() - touched; n < least || least == 0 && n > 0 {
			t.Errorf("%s: %d words touched, want at least %d, and none if that is 0", what, n, least)
		}
		return got
	}
	for tenant := 1; tenant <= 3; tenant++ {
		a := grows("Alloc", 1, func() api.Answer { return w.x.Do(api.Op{Do: api.Alloc, Tenant: tenant}) }).Word
		grows("Store", 1, func() api.Answer { return w.x.Do(api.Op{Do: api.Store, Tenant: tenant, Word: a, Other: 5}) })
		grows("Load", 1, func() api.Answer { return w.x.Do(api.Op{Do: api.Load, Tenant: tenant, Word: a}) })
		to := 1 + tenant%3
		w.x.Do(api.Op{Do: api.Grant, Tenant: tenant, Word: a, N: to})
		p := w.x.Do(api.Op{Do: api.Accept, Tenant: to, N: tenant}).Word
		grows("Peek", 1, func() api.Answer { return w.x.Do(api.Op{Do: api.Peek, Tenant: to, Word: p}) })
	}
	grows("no tenant", 0, func() api.Answer { return w.x.Do(api.Op{Tenant: 4}) })
	grows("no operation", 0, func() api.Answer { return w.x.Do(api.Op{Do: 13, Tenant: 1}) })
	grows("Tenants", 0, func() api.Answer { return number(uint64(w.x.Tenants())) })
	grows("Touched", 0, func() api.Answer { return number(uint64(w.x.Touched())) })
}

// T5: of shares of many cells, each operation touches few words (each twin holds that).
func TestFewWords(t *testing.T) {
	l := slices.Repeat([]api.Share{{Cells: [3]int{20, 20, 20}, Quota: mostQuota, Start: 1}}, 2)
	w := made(t, l)
	seed := uint64(6)
	for i := range 300 {
		tenant := 1 + i%2
		w.alloc(tenant, i/2%3)
		w.point(tenant, w.good(&seed, tenant, rootKind), 0, w.good(&seed, tenant, rootKind))
	}
	for range 300 {
		w.any(&seed)
	}
}

// expected are errors that the many operations below ought to come upon, each.
func expected() map[api.Do][]api.Errno {
	return map[api.Do][]api.Errno{
		api.Alloc:   {api.OK, api.ErrOp, api.ErrQuota, api.ErrFull},
		api.Drop:    {api.OK, api.ErrOp, api.ErrHandle, api.ErrStale},
		api.Load:    {api.OK, api.ErrOp, api.ErrHandle, api.ErrStale},
		api.Store:   {api.OK, api.ErrOp, api.ErrHandle, api.ErrStale},
		api.Point:   {api.OK, api.ErrOp, api.ErrHandle, api.ErrStale},
		api.Grant:   {api.OK, api.ErrOp, api.ErrHandle, api.ErrStale, api.ErrFull},
		api.Revoke:  {api.OK, api.ErrOp, api.ErrNone},
		api.Accept:  {api.OK, api.ErrOp, api.ErrNone},
		api.Peek:    {api.OK, api.ErrOp, api.ErrHandle, api.ErrStale, api.ErrRevoked},
		api.Close:   {api.OK, api.ErrOp, api.ErrHandle, api.ErrStale},
		api.Drain:   {api.OK, api.ErrOp},
		api.Collect: {api.OK, api.ErrOp},
		api.Usage:   {api.OK, api.ErrOp},
	}
}

// P17.1, P17.3, P1: many operations of all kinds, right and wrong, in worlds of one tenant up to 16, each held against the sheet; then what is dead is freed (P17.4).
func TestManyOperations(t *testing.T) {
	seen := map[api.Do]map[api.Errno]bool{}
	for i, l := range worlds() {
		for run := range 8 {
			seed := uint64(1000*i + run)
			w := made(t, l)
			for range 500 {
				op, got := w.any(&seed)
				if seen[op.Do] == nil {
					seen[op.Do] = map[api.Errno]bool{}
				}
				seen[op.Do][got.Error] = true
			}
			w.settle()
		}
	}
	for do, errors := range expected() {
		for _, e := range errors {
			if !seen[do][e] {
				t.Errorf("no operation %d had the error %d", do, e)
			}
		}
	}
}

// settle does as many units as are enough, and holds that what is live then is reached: T4.
func (w *twin) settle() {
	w.t.Helper()
	for i, s := range w.l {
		w.collect(i+1, enough(s))
		h := w.x.Heap(i + 1)
		g := h.Graph()
		if dead := graph.Dead(g); len(dead) > 0 || len(h.Queue()) > 0 || len(graph.Reach(g, h.Roots())) != len(g.Nodes) {
			w.t.Fatalf("%v: the tenant %d: dead cells live still: %v, Queue %v", w.l, i+1, dead, h.Queue())
		}
	}
}

// P1: any arguments, of any size, of any tenant: no call panics, and all end.
func TestAnyArguments(t *testing.T) {
	numbers := []int{math.MinInt, math.MinInt + 1, -1 << 32, -1, 0, 1, 2, 3, 4, 7, 8, 12, 13, 16, 17, 191, lastIndex, mostBudget, greatest, greatest + 1, math.MaxInt}
	seed := uint64(4)
	for _, l := range worlds() {
		w := made(t, l)
		for range 400 {
			tenant := w.anyone(&seed)
			op := w.anyOp(&seed, max(1, min(tenant, len(l))))
			op.Tenant = tenant
			switch next(&seed, 5) {
			case 0:
				op.N = one(&seed, numbers)
			case 1:
				op.M = one(&seed, numbers)
			case 2:
				op.Word = uint64(next(&seed, math.MaxInt32)) << next(&seed, 34)
			case 3:
				op.Other = uint64(next(&seed, math.MaxInt32)) << next(&seed, 34)
			case 4:
				op.Tenant, op.Do = one(&seed, numbers), api.Do(one(&seed, numbers))
			}
			w.do(op)
			w.x.Heap(one(&seed, numbers))
		}
	}
}
