package world_test

import (
	"slices"
	"testing"

	"socage/api"
	"socage/world"
)

// four are tenants of which the first one shows things to the last one alone.
func four() []api.Share {
	return []api.Share{{Cells: [3]int{2, 2, 1}, Quota: 13, Start: 3}, {Cells: [3]int{3, 1, 0}, Quota: 9, Start: 1}, {Cells: [3]int{1, 1, 1}, Quota: 10, Start: lastStart}, {Cells: [3]int{2, 0, 2}, Quota: 14, Start: 9}}
}

// done is an operation, and how it was answered.
type done struct {
	op  api.Op
	got api.Answer
}

// first is the tenant that the others are to see nothing of; friend is the one that it may grant things, and that may grant it things.
const (
	first  = 1
	friend = 4
)

// meets tells whether an operation would grant something between the first tenant and one that is no friend.
func meets(op api.Op) bool {
	return op.Do == api.Grant && (op.Tenant == first && op.N != friend || op.N == first && op.Tenant != friend)
}

// P17.2 (apart): what is answered to a tenant is the same whatever another one does, while neither ever grants the other one anything; also if both grant things to a third one, which does what it did.
func TestApart(t *testing.T) {
	for run := range 40 {
		seed := uint64(run)
		w := made(t, four())
		var l []done
		for range 400 {
			op := w.anyOp(&seed, 1+next(&seed, 4))
			if !meets(op) {
				l = append(l, done{op, w.do(op)})
			}
		}
		// The first one does nothing; or other things, few, and many.
		for often := range 3 {
			v := made(t, four())
			seed := uint64(9000 + 10*run + often)
			for i, d := range l {
				if d.op.Tenant == first {
					for range often * next(&seed, 3) {
						if op := v.anyOp(&seed, first); !meets(op) {
							v.do(op)
						}
					}
					continue
				}
				if got := v.do(d.op); d.op.Tenant != friend && got != d.got {
					t.Fatalf("run %d, %d: %d: %v: %v, was %v", run, often, i, d.op, got, d.got)
				}
			}
			for _, tenant := range []int{2, 3} {
				if a, b := state(v.x, tenant, count(four()[tenant-1])), state(w.x, tenant, count(four()[tenant-1])); a != b {
					t.Fatalf("run %d, %d: the tenant %d has %s, had %s", run, often, tenant, a, b)
				}
			}
		}
	}
}

// P17.2: a quota that another one used up, cells that it retired, and words of its that are guessed, make no difference.
func TestApartByHand(t *testing.T) {
	l := []api.Share{{Cells: [3]int{1, 0, 0}, Quota: 2, Start: lastStart}, {Cells: [3]int{1, 0, 0}, Quota: 2, Start: lastStart}}
	busy, quiet := newWorld(t, l), newWorld(t, l)
	same := func(op api.Op) {
		t.Helper()
		if got, want := busy.Do(op), quiet.Do(op); got != want {
			t.Errorf("%v: %v, without the other one %v", op, got, want)
		}
	}
	guess := func() {
		t.Helper()
		for _, of := range []uint64{rootWord(2, 0, lastStart), rootWord(1, 0, lastStart), proxyWord(2, 1, 0, 1), proxyWord(2, 1, 0, 2), proxyWord(1, 2, 0, 1), proxyWord(2, 2, 0, 1)} {
			for _, do := range []api.Do{api.Load, api.Store, api.Point, api.Peek, api.Close} {
				same(api.Op{Do: do, Tenant: 2, Word: of, Other: of})
			}
		}
		same(api.Op{Do: api.Accept, Tenant: 2, N: 1})
		same(api.Op{Do: api.Revoke, Tenant: 2, N: 1})
		same(api.Op{Do: api.Usage, Tenant: 2})
		same(api.Op{Do: api.Collect, Tenant: 2, N: 1})
	}
	guess()
	busy.Do(api.Op{Tenant: 1})
	guess()
	busy.Do(api.Op{Do: api.Store, Tenant: 1, Word: rootWord(1, 0, lastStart), Other: 9})
	guess()
	same(api.Op{Tenant: 2})
	guess()
	busy.Do(api.Op{Do: api.Drop, Tenant: 1, Word: rootWord(1, 0, lastStart)})
	busy.Do(api.Op{Do: api.Collect, Tenant: 1, N: 9})
	busy.Do(api.Op{Tenant: 1})
	guess()
	same(api.Op{Do: api.Drop, Tenant: 2, Word: rootWord(2, 0, lastStart)})
	same(api.Op{Do: api.Drain, Tenant: 2, N: 1})
	same(api.Op{Tenant: 2})
	guess()
}

// told is an entry's word that was told to a tenant: of which cell of which one's, in which life; and whether it was revoked.
type told struct {
	from, to, entry, cell, gen int
	revoked                    bool
}

// ledger is which words were told, by the answers alone, and not ended since: those of cells, by Alloc and Load, those of entries, by Accept. What was granted, but not accepted, stands in the inboxes.
type ledger struct {
	x       *world.World
	l       []api.Share
	cells   map[uint64]bool
	entries map[uint64]*told
	inboxes map[[2]int][]*told
	ever    map[uint64]int
}

func newLedger(t *testing.T, l []api.Share) *ledger {
	return &ledger{newWorld(t, l), l, map[uint64]bool{}, map[uint64]*told{}, map[[2]int][]*told{}, map[uint64]int{}}
}

// note is what an operation without an error told, or ended.
func (b *ledger) note(t *testing.T, op api.Op, got api.Answer) {
	t.Helper()
	switch op.Do {
	case api.Alloc:
		b.ever[got.Word]++
		b.cells[got.Word] = true
	case api.Load:
		if got.Kind == api.Pointer {
			b.cells[got.Word] = true
		}
	case api.Drop:
		delete(b.cells, op.Word)
	case api.Grant:
		pair := [2]int{op.Tenant, op.N}
		b.inboxes[pair] = append(b.inboxes[pair], &told{op.Tenant, op.N, int(got.Word), int(op.Word >> 32 & lastIndex), int(op.Word & greatest), false})
	case api.Accept:
		pair := [2]int{op.N, op.Tenant}
		b.ever[got.Word]++
		b.entries[got.Word] = b.inboxes[pair][0]
		b.inboxes[pair] = b.inboxes[pair][1:]
	case api.Revoke:
		for _, x := range b.shown(op.Tenant, op.N) {
			x.revoked = x.revoked || x.entry == op.M
		}
	case api.Close:
		delete(b.entries, op.Word)
	}
	if b.ever[got.Word] > 1 && (op.Do == api.Alloc || op.Do == api.Accept) {
		t.Fatalf("%v told %016x twice", op, got.Word)
	}
}

// shown is what one tenant shows another one now.
func (b *ledger) shown(from, to int) []*told {
	l := slices.Clone(b.inboxes[[2]int{from, to}])
	for _, x := range b.entries {
		if x.from == from && x.to == to {
			l = append(l, x)
		}
	}
	return l
}

// hold holds that a word reaches a cell, or an entry, just if it stands in the ledger: of all words that may be, of so many generations.
func (b *ledger) hold(t *testing.T, gens int) {
	t.Helper()
	for i, s := range b.l {
		tenant := i + 1
		for cell := range count(s) {
			for gen := s.Start - 1; gen <= min(greatest, s.Start+gens); gen++ {
				of := rootWord(tenant, cell, gen)
				// There is no such slot, so that nothing changes; that is told just of a word that names a cell.
				got := b.x.Do(api.Op{Do: api.Load, Tenant: tenant, Word: of, N: 9})
				if b.cells[of] != (got == wrong(api.ErrOp)) || !b.cells[of] && got != wrong(api.ErrStale) && got != wrong(api.ErrHandle) {
					t.Fatalf("%016x: %v; it was told, and not dropped: %v", of, got, b.cells[of])
				}
			}
		}
		for _, from := range others(len(b.l), tenant) {
			for entry := range entries {
				for gen := range gens {
					b.holdEntry(t, tenant, from, proxyWord(tenant, from, entry, gen))
				}
			}
		}
	}
}

// holdEntry holds what a proxy shows: what was told, if it was not revoked, and if the cell has that life still.
func (b *ledger) holdEntry(t *testing.T, tenant, from int, of uint64) {
	t.Helper()
	got := b.x.Do(api.Op{Do: api.Peek, Tenant: tenant, Word: of})
	x := b.entries[of]
	if x == nil {
		if got != wrong(api.ErrStale) && got != wrong(api.ErrHandle) {
			t.Fatalf("%016x: %v; it was not told, or closed", of, got)
		}
		return
	}
	h := b.x.Heap(from)
	want := wrong(api.ErrRevoked)
	if header, _ := h.Header(x.cell); header.Used && header.Gen == x.gen && !x.revoked {
		v, _ := h.Get(x.cell, 0)
		want = api.Answer{Kind: v.Kind, Word: v.N}
		if v.Kind == api.Pointer {
			want.Word = 0
		}
	}
	if got != want {
		t.Fatalf("%016x: %v, want %v", of, got, want)
	}
}

// P17.3 (issued): by the answers alone, without a sheet: behind any operations a word reaches a cell, or an entry, just if it was told to that tenant for the life that it has now, and nothing ended it; no word is told twice by Alloc, or by Accept.
func TestIssued(t *testing.T) {
	for i, l := range worlds() {
		if len(l) > 4 {
			continue
		}
		for run := range 3 {
			seed := uint64(100*i + run)
			w := made(t, l)
			b := newLedger(t, l)
			for range 300 {
				op := w.anyOp(&seed, 1+next(&seed, len(l)))
				w.do(op)
				if got := b.x.Do(op); got.Error == api.OK {
					b.note(t, op, got)
				}
				b.hold(t, 6)
			}
		}
	}
}

// P17.3, rule 3: behind any operations, one whose answer has an error tells nothing else, and changes nothing that is told.
func TestErrorsChangeNothing(t *testing.T) {
	seen := map[api.Errno]int{}
	for i, l := range worlds() {
		if len(l) > 4 {
			continue
		}
		seed := uint64(500 + i)
		w := made(t, l)
		for range 500 {
			before := states(w.x, l, 5)
			op, got := w.any(&seed)
			if got.Error == api.OK {
				continue
			}
			seen[got.Error]++
			if got != wrong(got.Error) {
				t.Fatalf("%v: %v tells more than an error", op, got)
			}
			if after := states(w.x, l, 5); after != before {
				t.Fatalf("%v: %v changed what is told: %s, was %s", op, got, after, before)
			}
		}
	}
	for _, e := range []api.Errno{api.ErrOp, api.ErrHandle, api.ErrStale, api.ErrRevoked, api.ErrQuota, api.ErrFull, api.ErrNone} {
		if seen[e] == 0 {
			t.Errorf("no operation had the error %d", e)
		}
	}
}

// P17.4 (weak): what is granted, accepted, and peeked at is freed as if it were not: one cell, and two that point to each other.
func TestWeak(t *testing.T) {
	w := made(t, three())
	a, b, c := w.alloc(1, 0).Word, w.alloc(1, 1).Word, w.alloc(1, 2).Word
	w.point(1, b, 0, c)
	w.point(1, c, 3, b)
	var got []uint64
	for _, of := range []uint64{a, b, c} {
		for _, to := range []int{2, 3} {
			w.grant(1, of, to)
			got = append(got, w.shown(1, of, to))
		}
	}
	for _, of := range []uint64{a, b, c} {
		w.drop(1, of)
	}
	w.is("Drain", w.drain(1, 9), number(1))
	w.is("Usage", w.usage(1), number(8))
	w.is("Collect", w.collect(1, enough(three()[0])), number(2))
	w.is("Usage", w.usage(1), number(0))
	for _, p := range got {
		for _, tenant := range []int{2, 3} {
			if got := w.peek(tenant, p, 0); got != wrong(api.ErrRevoked) && got != wrong(api.ErrHandle) {
				t.Errorf("%016x: %v", p, got)
			}
		}
	}
	for range entries {
		w.accept(2, 1)
	}
	if h := w.x.Heap(1); len(h.Graph().Nodes) != 0 || len(h.Candidates()) != 0 {
		t.Errorf("%v, Candidates %v", h.Graph(), h.Candidates())
	}
}

// P17.4: behind any operations, also with peeks between the units, 16 units of Collect for each cell of a tenant, and 16 more, leave just what is reached from its roots.
func TestAllTheDead(t *testing.T) {
	for i, l := range worlds() {
		for run := range 4 {
			seed := uint64(7000 + 100*i + run)
			w := made(t, l)
			for range 200 {
				w.any(&seed)
			}
			for tenant, s := range l {
				for unit := range enough(s) {
					w.x.Do(api.Op{Do: api.Collect, Tenant: tenant + 1, N: 1})
					w.m.tenants[tenant].Collect(1)
					if unit%5 == 0 {
						w.peeks()
					}
				}
			}
			w.same()
			for tenant := range l {
				g := w.x.Heap(tenant + 1).Graph()
				before := len(g.Nodes)
				w.is("Collect", w.collect(tenant+1, mostBudget), number(0))
				if after := len(w.x.Heap(tenant + 1).Graph().Nodes); after != before {
					t.Errorf("%v: the tenant %d: %d cells, were %d", l, tenant+1, after, before)
				}
			}
			w.settle()
		}
	}
}

// P17.4: Grant, Revoke, Accept, Peek and Close change no heap.
func TestHeapsStay(t *testing.T) {
	for i, l := range worlds() {
		seed := uint64(300 + i)
		w := made(t, l)
		for range 500 {
			op := w.anyOp(&seed, 1+next(&seed, len(l)))
			if op.Do < api.Grant || op.Do > api.Close {
				w.do(op)
				continue
			}
			var before, after []string
			for j, s := range l {
				before = append(before, state(w.x, j+1, count(s)))
			}
			w.do(op)
			for j, s := range l {
				after = append(after, state(w.x, j+1, count(s)))
			}
			if !slices.Equal(before, after) {
				t.Fatalf("%v: %v, was %v", op, after, before)
			}
		}
	}
}

// P17.4, P2: Peek, Usage, Tenants, Heap and Touched change nothing, and what is asked twice is answered alike.
func TestAskingChangesNothing(t *testing.T) {
	l := three()
	seed := uint64(21)
	w := made(t, l)
	h := w.x.Heap(2)
	for range 200 {
		w.any(&seed)
		before := states(w.x, l, 5)
		for range 2 {
			w.peek(1+next(&seed, 3), w.anyWord(&seed, 2, proxyKind), anySlot(&seed))
			w.usage(1 + next(&seed, 3))
			if w.x.Heap(2) != h || w.x.Tenants() != 3 || w.x.Touched() != w.x.Touched() {
				t.Fatal("Heap, Tenants, or Touched is another one")
			}
		}
		if after := states(w.x, l, 5); after != before {
			t.Fatalf("%s, was %s", after, before)
		}
	}
}

// P2: two worlds share nothing, and two that see the same operations answer alike.
func TestTwoWorlds(t *testing.T) {
	l := three()
	v, w, other := made(t, l), newWorld(t, l), made(t, l)
	seed, noise := uint64(8), uint64(9)
	for range 500 {
		op, got := v.any(&seed)
		other.any(&noise)
		if again := w.Do(op); again != got {
			t.Fatalf("%v: %v, in the other world %v", op, again, got)
		}
	}
	if a, b := states(v.x, l, 5), states(w, l, 5); a != b {
		t.Errorf("%s, in the other world %s", a, b)
	}
}
