package proxy_test

import (
	"testing"

	"socage/api"
	"socage/proxy"
)

const (
	entries  = 8
	lastCell = 191
	lastGen  = 1<<32 - 1
)

// grant is one that was made: what it shows, and what became of it.
type grant struct {
	cell, gen       int
	revoked, closed bool
}

// sheet is what a table ought to have, reckoned otherwise: it keeps all grants ever made, those of each entry in a row. The generation of one is where the entry began, and how many were closed ahead of it.
type sheet struct {
	start  int
	grants [entries][]*grant
}

// gen is an entry's generation.
func (m *sheet) gen(entry int) int {
	n := m.start
	for _, g := range m.grants[entry] {
		if g.closed {
			n++
		}
	}
	return n
}

// last is what an entry has; nil, if it is empty.
func (m *sheet) last(entry int) *grant {
	row := m.grants[entry]
	if len(row) == 0 || row[len(row)-1].closed {
		return nil
	}
	return row[len(row)-1]
}

func (m *sheet) grant(cell, gen int) (int, api.Errno) {
	if cell < 0 || cell > lastCell || gen < 0 || gen > lastGen {
		return 0, api.ErrArg
	}
	for entry := range entries {
		if m.last(entry) == nil && m.gen(entry) != lastGen {
			m.grants[entry] = append(m.grants[entry], &grant{cell: cell, gen: gen})
			return entry, api.OK
		}
	}
	return 0, api.ErrFull
}

func (m *sheet) revoke(entry int) api.Errno {
	if entry < 0 || entry >= entries {
		return api.ErrArg
	}
	g := m.last(entry)
	if g == nil || g.revoked {
		return api.ErrNone
	}
	g.revoked = true
	return api.OK
}

// find is the grant that was made with an entry and its generation.
func (m *sheet) find(entry, gen int) (*grant, api.Errno) {
	if entry < 0 || entry >= entries || gen > m.gen(entry) {
		return nil, api.ErrHandle
	}
	if gen < m.start || gen-m.start >= len(m.grants[entry]) {
		return nil, api.ErrStale
	}
	g := m.grants[entry][gen-m.start]
	if g.closed {
		return nil, api.ErrStale
	}
	return g, api.OK
}

func (m *sheet) look(entry, gen int) (int, int, api.Errno) {
	g, e := m.find(entry, gen)
	if e != api.OK {
		return 0, 0, e
	}
	if g.revoked {
		return 0, 0, api.ErrRevoked
	}
	return g.cell, g.gen, api.OK
}

func (m *sheet) close(entry, gen int) api.Errno {
	g, e := m.find(entry, gen)
	if e != api.OK {
		return e
	}
	g.closed = true
	return api.OK
}

// begin lets the sheet begin at a generation: no one has been granted yet, and none of another generation but 1 was begun at.
func (m *sheet) begin(gen int) api.Errno {
	if gen < 1 || gen > lastGen || m.start != 1 {
		return api.ErrArg
	}
	for entry := range entries {
		if len(m.grants[entry]) > 0 {
			return api.ErrArg
		}
	}
	m.start = gen
	return api.OK
}

// both is a table, and its sheet: each call is done to both, what they answer is held against each other, and so is, then, all that the table tells.
type both struct {
	t     *testing.T
	table *proxy.Table
	sheet *sheet
}

func made(t *testing.T) *both {
	t.Helper()
	x := proxy.New()
	if x == nil {
		t.Fatal("New: nil")
	}
	b := &both{t, x, &sheet{start: 1}}
	b.same()
	return b
}

// begun is one that begins at a generation.
func begun(t *testing.T, gen int) *both {
	t.Helper()
	b := made(t)
	if e := b.start(gen); e != api.OK {
		t.Fatalf("Start at %d: error %d", gen, e)
	}
	return b
}

// same holds all that the table tells without being changed against the sheet: each entry at its generation, and at those around it.
func (b *both) same() {
	b.t.Helper()
	for entry := -1; entry <= entries; entry++ {
		want := 0
		if entry >= 0 && entry < entries {
			want = b.sheet.gen(entry)
		}
		if got := b.table.Gen(entry); got != want {
			b.t.Fatalf("Gen of %d: %d, want %d", entry, got, want)
		}
		for _, gen := range []int{0, want - 2, want - 1, want, want + 1, want + 2} {
			b.lookQuiet(entry, gen)
		}
	}
}

func (b *both) lookQuiet(entry, gen int) (int, int, api.Errno) {
	b.t.Helper()
	cell, life, e := b.table.Look(entry, gen)
	wantCell, wantLife, want := b.sheet.look(entry, gen)
	if cell != wantCell || life != wantLife || e != want {
		b.t.Fatalf("Look of %d at %d: %d, %d, error %d, want %d, %d, error %d", entry, gen, cell, life, e, wantCell, wantLife, want)
	}
	return cell, life, e
}

func (b *both) look(entry, gen int) (int, int, api.Errno) {
	b.t.Helper()
	cell, life, e := b.lookQuiet(entry, gen)
	b.same()
	return cell, life, e
}

func (b *both) grant(cell, gen int) (int, api.Errno) {
	b.t.Helper()
	entry, e := b.table.Grant(cell, gen)
	wantEntry, want := b.sheet.grant(cell, gen)
	if entry != wantEntry || e != want {
		b.t.Fatalf("Grant of %d, %d: %d, error %d, want %d, error %d", cell, gen, entry, e, wantEntry, want)
	}
	b.same()
	return entry, e
}

func (b *both) revoke(entry int) api.Errno {
	b.t.Helper()
	e, want := b.table.Revoke(entry), b.sheet.revoke(entry)
	if e != want {
		b.t.Fatalf("Revoke of %d: error %d, want %d", entry, e, want)
	}
	b.same()
	return e
}

func (b *both) close(entry, gen int) api.Errno {
	b.t.Helper()
	e, want := b.table.Close(entry, gen), b.sheet.close(entry, gen)
	if e != want {
		b.t.Fatalf("Close of %d at %d: error %d, want %d", entry, gen, e, want)
	}
	b.same()
	return e
}

func (b *both) start(gen int) api.Errno {
	b.t.Helper()
	e, want := b.table.Start(gen), b.sheet.begin(gen)
	if e != want {
		b.t.Fatalf("Start at %d: error %d, want %d", gen, e, want)
	}
	b.same()
	return e
}

// fill grants till all entries that may be are open.
func (b *both) fill() {
	b.t.Helper()
	for i := range entries {
		if entry, e := b.grant(10+i, 20+i); entry != i || e != api.OK {
			b.t.Fatalf("Grant: %d, error %d, want %d", entry, e, i)
		}
	}
}

// shut closes an entry at the generation that it has.
func (b *both) shut(entry int) {
	b.t.Helper()
	if e := b.close(entry, b.table.Gen(entry)); e != api.OK {
		b.t.Fatalf("Close of %d at %d: error %d", entry, b.table.Gen(entry), e)
	}
}
