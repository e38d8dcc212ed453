package proxy_test

import (
	"math"
	"testing"

	"socage/api"
	"socage/proxy"
)

// next is a number below one that is told, and looks like any: the same ones come in each run.
func next(seed *uint64, below int) int {
	*seed = *seed*6364136223846793005 + 1442695040888963407
	return int(*seed>>33) % below
}

func one(seed *uint64, l []int) int {
	return l[next(seed, len(l))]
}

// noEntries, noCells and noGens are numbers that none has. Some of them would be as good as right ones, if they lost their upper bits.
func noEntries() []int {
	return []int{-1, -2, -7, -8, -9, -256, -1 << 31, -1 << 32, -1 << 61, math.MinInt + 1, math.MinInt, 8, 9, 15, 16, 255, 256, 257, 1 << 16, 1<<32 - 1, 1 << 32, 1<<32 + 3, 1 << 61, math.MaxInt - 1, math.MaxInt}
}

func noCells() []int {
	return []int{-1, -2, -64, -191, -192, -256, -1<<32 + 5, -1 << 32, math.MinInt + 5, math.MinInt, 192, 193, 255, 256, 256 + 5, 1 << 16, 1<<16 + 5, 1 << 32, 1<<32 + 5, math.MaxInt - 1, math.MaxInt}
}

func noGens() []int {
	return []int{-1, -2, -lastGen, -lastGen - 1, -lastGen - 2, -1 << 40, math.MinInt + 7, math.MinInt + 1, math.MinInt, lastGen + 1, lastGen + 2, lastGen + 8, 1<<33 - 1, 1 << 33, 1<<33 + 7, 1 << 62, math.MaxInt - 1, math.MaxInt}
}

// P15.1: a new table's entries are all empty, with the generation 1.
func TestNew(t *testing.T) {
	b := made(t)
	for entry := range entries {
		if got := b.table.Gen(entry); got != 1 {
			t.Errorf("Gen of %d: %d, want 1", entry, got)
		}
		if cell, gen, e := b.look(entry, 1); cell != 0 || gen != 0 || e != api.ErrStale {
			t.Errorf("Look of %d at 1: %d, %d, error %d, want 0, 0, ErrStale", entry, cell, gen, e)
		}
		if e := b.close(entry, 1); e != api.ErrStale {
			t.Errorf("Close of %d at 1: error %d, want ErrStale", entry, e)
		}
		if e := b.revoke(entry); e != api.ErrNone {
			t.Errorf("Revoke of %d: error %d, want ErrNone", entry, e)
		}
	}
	b.fill()
}

// P15.1: acts on one table, written out by hand.
func TestOrdinary(t *testing.T) {
	x := proxy.New()
	grant := func(cell, gen, want int, wantE api.Errno) {
		t.Helper()
		if entry, e := x.Grant(cell, gen); entry != want || e != wantE {
			t.Errorf("Grant of %d, %d: %d, error %d, want %d, error %d", cell, gen, entry, e, want, wantE)
		}
	}
	look := func(entry, gen, want, wantGen int, wantE api.Errno) {
		t.Helper()
		if cell, life, e := x.Look(entry, gen); cell != want || life != wantGen || e != wantE {
			t.Errorf("Look of %d at %d: %d, %d, error %d, want %d, %d, error %d", entry, gen, cell, life, e, want, wantGen, wantE)
		}
	}
	is := func(what string, e, want api.Errno) {
		t.Helper()
		if e != want {
			t.Errorf("%s: error %d, want %d", what, e, want)
		}
	}
	grant(5, 7, 0, api.OK)
	grant(5, 7, 1, api.OK)
	grant(9, 258, 2, api.OK)
	look(0, 1, 5, 7, api.OK)
	look(1, 1, 5, 7, api.OK)
	look(2, 1, 9, 258, api.OK)
	look(2, 2, 0, 0, api.ErrHandle)
	look(2, 0, 0, 0, api.ErrStale)
	look(3, 1, 0, 0, api.ErrStale)
	look(3, 2, 0, 0, api.ErrHandle)
	is("Revoke of 1", x.Revoke(1), api.OK)
	is("Revoke of 1 again", x.Revoke(1), api.ErrNone)
	is("Revoke of 3", x.Revoke(3), api.ErrNone)
	look(1, 1, 0, 0, api.ErrRevoked)
	look(0, 1, 5, 7, api.OK)
	is("Close of 0 at 2", x.Close(0, 2), api.ErrHandle)
	is("Close of 0 at 0", x.Close(0, 0), api.ErrStale)
	is("Close of 0 at 1", x.Close(0, 1), api.OK)
	is("Close of 0 at 1 again", x.Close(0, 1), api.ErrStale)
	is("Close of 0 at 2, empty", x.Close(0, 2), api.ErrStale)
	look(0, 1, 0, 0, api.ErrStale)
	look(0, 2, 0, 0, api.ErrStale)
	look(0, 3, 0, 0, api.ErrHandle)
	grant(6, 1, 0, api.OK)
	look(0, 2, 6, 1, api.OK)
	look(0, 1, 0, 0, api.ErrStale)
	grant(6, 1, 3, api.OK)
	is("Close of 1 at 1, revoked", x.Close(1, 1), api.OK)
	look(1, 1, 0, 0, api.ErrStale)
	grant(0, 0, 1, api.OK)
	look(1, 2, 0, 0, api.OK)
	is("Start at 2", x.Start(2), api.ErrArg)
	for entry, want := range []int{2, 2, 1, 1, 1, 1, 1, 1} {
		if got := x.Gen(entry); got != want {
			t.Errorf("Gen of %d: %d, want %d", entry, got, want)
		}
	}
}

// P15.1: the entries are opened in order, each with what it was granted for, until all eight are; then there is no room, till one is closed. To revoke one makes no room.
func TestFull(t *testing.T) {
	b := made(t)
	b.fill()
	for entry := range entries {
		if cell, gen, e := b.look(entry, 1); cell != 10+entry || gen != 20+entry || e != api.OK {
			t.Errorf("Look of %d: %d, %d, error %d", entry, cell, gen, e)
		}
	}
	full := func() {
		t.Helper()
		for range 3 {
			if entry, e := b.grant(1, 1); entry != 0 || e != api.ErrFull {
				t.Errorf("Grant, when all are in use: %d, error %d, want 0, ErrFull", entry, e)
			}
		}
	}
	full()
	for entry := range entries {
		if e := b.revoke(entry); e != api.OK {
			t.Errorf("Revoke of %d: error %d", entry, e)
		}
		full()
	}
	for entry := range entries {
		b.shut(entry)
		if got, e := b.grant(50+entry, 60); got != entry || e != api.OK {
			t.Errorf("Grant, behind a Close of %d: %d, error %d", entry, got, e)
		}
		full()
	}
}

// P15.1, rule 1: a cell, or a generation, that may not be is named ahead of there being no room.
func TestWrongWhenFull(t *testing.T) {
	b := made(t)
	b.fill()
	for _, cell := range noCells() {
		if entry, e := b.grant(cell, 1); entry != 0 || e != api.ErrArg {
			t.Errorf("Grant of cell %d: %d, error %d, want 0, ErrArg", cell, entry, e)
		}
	}
	for _, gen := range noGens() {
		if entry, e := b.grant(1, gen); entry != 0 || e != api.ErrArg {
			t.Errorf("Grant of generation %d: %d, error %d, want 0, ErrArg", gen, entry, e)
		}
	}
}

// P15.1: whichever entries are in use, open or revoked, the first of the others is opened.
func TestFirstEmpty(t *testing.T) {
	for used := range 1 << entries {
		for _, revoked := range []int{0, used, used & 0x55, used & 0xf0} {
			b := made(t)
			b.fill()
			want := -1
			for i := range entries {
				entry := entries - 1 - i
				if used>>entry&1 == 0 {
					b.shut(entry)
					want = entry
				} else if revoked>>entry&1 == 1 {
					b.revoke(entry)
				}
			}
			entry, e := b.grant(3, 4)
			if want < 0 {
				if entry != 0 || e != api.ErrFull {
					t.Fatalf("Grant, when all are in use: %d, error %d, want 0, ErrFull", entry, e)
				}
				continue
			}
			if entry != want || e != api.OK || b.table.Gen(entry) != 2 {
				t.Fatalf("Grant, when %08b are in use: %d, error %d, want %d", used, entry, e, want)
			}
			if cell, gen, e := b.look(entry, 2); cell != 3 || gen != 4 || e != api.OK {
				t.Fatalf("Look of %d at 2: %d, %d, error %d", entry, cell, gen, e)
			}
		}
	}
}

// P15.1: each cell may be granted, at the least and the greatest generation; what is granted is what is shown.
func TestGrantEdges(t *testing.T) {
	b := made(t)
	for cell := range lastCell + 1 {
		for _, gen := range []int{0, 1, 2, 258, 1<<31 - 1, 1 << 31, lastGen - 1, lastGen} {
			entry, e := b.grant(cell, gen)
			if entry != 0 || e != api.OK {
				t.Fatalf("Grant of %d, %d: %d, error %d", cell, gen, entry, e)
			}
			if c, g, e := b.look(0, b.table.Gen(0)); c != cell || g != gen || e != api.OK {
				t.Fatalf("Look, behind a Grant of %d, %d: %d, %d, error %d", cell, gen, c, g, e)
			}
			b.shut(0)
			if len(b.sheet.grants[0]) > 40 {
				b = made(t)
			}
		}
	}
}

// P15.1, P1, rule 3: cells, and generations, that none has are refused, and nothing is opened.
func TestGrantWrong(t *testing.T) {
	b := made(t)
	for range 2 {
		for _, cell := range noCells() {
			for _, gen := range append(noGens(), 0, 1, lastGen) {
				if entry, e := b.grant(cell, gen); entry != 0 || e != api.ErrArg {
					t.Errorf("Grant of %d, %d: %d, error %d, want 0, ErrArg", cell, gen, entry, e)
				}
			}
		}
		for _, gen := range noGens() {
			for _, cell := range []int{0, 1, 100, lastCell} {
				if entry, e := b.grant(cell, gen); entry != 0 || e != api.ErrArg {
					t.Errorf("Grant of %d, %d: %d, error %d, want 0, ErrArg", cell, gen, entry, e)
				}
			}
		}
		if entry, e := b.grant(1, 1); e != api.OK || b.table.Gen(entry) != 1 {
			t.Errorf("Grant, behind wrong ones: %d, error %d", entry, e)
		}
	}
}

// at is a table whose entry i is empty, open, or revoked, of generation 5, while the others are in use.
func at(t *testing.T, i int, acts string) *both {
	t.Helper()
	b := begun(t, 4)
	b.fill()
	b.shut(i)
	for _, act := range acts {
		switch act {
		case 'o':
			if entry, e := b.grant(77, 88); entry != i || e != api.OK {
				t.Fatalf("Grant: %d, error %d, want %d", entry, e, i)
			}
		case 'r':
			if e := b.revoke(i); e != api.OK {
				t.Fatalf("Revoke of %d: error %d", i, e)
			}
		}
	}
	return b
}

// P15.1: Look, and Close, of an entry that is empty, open, or revoked, at its generation, and at less and more.
func TestLookAndClose(t *testing.T) {
	for _, x := range []struct {
		acts        string
		look, close api.Errno
	}{{"", api.ErrStale, api.ErrStale}, {"o", api.OK, api.OK}, {"or", api.ErrRevoked, api.OK}} {
		for i := range entries {
			for _, y := range []struct {
				gen         int
				look, close api.Errno
			}{
				{5, x.look, x.close},
				{4, api.ErrStale, api.ErrStale},
				{3, api.ErrStale, api.ErrStale},
				{1, api.ErrStale, api.ErrStale},
				{0, api.ErrStale, api.ErrStale},
				{-1, api.ErrStale, api.ErrStale},
				{5 - 1<<32, api.ErrStale, api.ErrStale},
				{math.MinInt, api.ErrStale, api.ErrStale},
				{6, api.ErrHandle, api.ErrHandle},
				{7, api.ErrHandle, api.ErrHandle},
				{lastGen, api.ErrHandle, api.ErrHandle},
				{lastGen + 1, api.ErrHandle, api.ErrHandle},
				{5 + 1<<32, api.ErrHandle, api.ErrHandle},
				{math.MaxInt, api.ErrHandle, api.ErrHandle},
			} {
				b := at(t, i, x.acts)
				cell, gen, e := b.look(i, y.gen)
				if e != y.look || e == api.OK && (cell != 77 || gen != 88) || e != api.OK && (cell != 0 || gen != 0) {
					t.Errorf("Look of %d, %q, at %d: %d, %d, error %d, want error %d", i, x.acts, y.gen, cell, gen, e, y.look)
				}
				if e := b.close(i, y.gen); e != y.close {
					t.Errorf("Close of %d, %q, at %d: error %d, want %d", i, x.acts, y.gen, e, y.close)
				}
				want := 5
				if y.close == api.OK {
					want = 6
				}
				if got := b.table.Gen(i); got != want {
					t.Errorf("Gen of %d, %q, behind a Close at %d: %d, want %d", i, x.acts, y.gen, got, want)
				}
			}
		}
	}
}

// P15.1: Revoke of an entry that is empty, open, or revoked; it leaves the generation as it is, and may be closed but once.
func TestRevoke(t *testing.T) {
	for i := range entries {
		if e := at(t, i, "").revoke(i); e != api.ErrNone {
			t.Errorf("Revoke of %d, that is empty: error %d, want ErrNone", i, e)
		}
		b := at(t, i, "o")
		if e := b.revoke(i); e != api.OK || b.table.Gen(i) != 5 {
			t.Errorf("Revoke of %d, that is open: error %d; its generation is %d", i, e, b.table.Gen(i))
		}
		for range 3 {
			if e := b.revoke(i); e != api.ErrNone {
				t.Errorf("Revoke of %d, that is revoked: error %d, want ErrNone", i, e)
			}
			if cell, gen, e := b.look(i, 5); cell != 0 || gen != 0 || e != api.ErrRevoked {
				t.Errorf("Look of %d, that is revoked: %d, %d, error %d, want 0, 0, ErrRevoked", i, cell, gen, e)
			}
		}
		b.shut(i)
		if e := b.revoke(i); e != api.ErrNone {
			t.Errorf("Revoke of %d, that was closed: error %d, want ErrNone", i, e)
		}
		if e := b.close(i, 5); e != api.ErrStale {
			t.Errorf("Close of %d again: error %d, want ErrStale", i, e)
		}
	}
}

// P15.1, P1, rule 3: entries that there are not, whatever the generation; nothing is changed.
func TestNoEntry(t *testing.T) {
	gens := append(noGens(), 0, 1, 2, lastGen)
	for _, b := range []*both{made(t), at(t, 0, "o"), at(t, 7, "or")} {
		for _, entry := range noEntries() {
			if got := b.table.Gen(entry); got != 0 {
				t.Errorf("Gen of %d: %d, want 0", entry, got)
			}
			if e := b.revoke(entry); e != api.ErrArg {
				t.Errorf("Revoke of %d: error %d, want ErrArg", entry, e)
			}
			for _, gen := range gens {
				if cell, life, e := b.look(entry, gen); cell != 0 || life != 0 || e != api.ErrHandle {
					t.Errorf("Look of %d at %d: %d, %d, error %d, want 0, 0, ErrHandle", entry, gen, cell, life, e)
				}
				if e := b.close(entry, gen); e != api.ErrHandle {
					t.Errorf("Close of %d at %d: error %d, want ErrHandle", entry, gen, e)
				}
			}
		}
	}
}

// P15.1: Start of a table that is as New made it, at each kind of generation that may be. At 1 it is as it was, and may be started once more; then no more.
func TestStart(t *testing.T) {
	for _, gen := range []int{2, 3, 258, 1<<31 - 1, 1 << 31, 1<<31 + 1, lastGen - 9, lastGen - 2} {
		b := begun(t, gen)
		for entry := range entries {
			if got := b.table.Gen(entry); got != gen {
				t.Errorf("Gen of %d, started at %d: %d", entry, gen, got)
			}
			if cell, life, e := b.look(entry, gen); cell != 0 || life != 0 || e != api.ErrStale {
				t.Errorf("Look of %d, started at %d: %d, %d, error %d", entry, gen, cell, life, e)
			}
		}
		for _, again := range []int{1, 2, gen, gen + 1, lastGen} {
			if e := b.start(again); e != api.ErrArg {
				t.Errorf("Start at %d, behind one at %d: error %d, want ErrArg", again, gen, e)
			}
		}
		b.fill()
		if cell, life, e := b.look(7, gen); cell != 17 || life != 27 || e != api.OK {
			t.Errorf("Look of 7 at %d: %d, %d, error %d", gen, cell, life, e)
		}
	}
	b := made(t)
	for range 3 {
		if e := b.start(1); e != api.OK {
			t.Errorf("Start at 1: error %d", e)
		}
	}
	if e := b.start(9); e != api.OK || b.table.Gen(0) != 9 || b.table.Gen(7) != 9 {
		t.Errorf("Start at 9, behind some at 1: error %d", e)
	}
	if e := b.start(1); e != api.ErrArg {
		t.Errorf("Start at 1, behind one at 9: error %d, want ErrArg", e)
	}
}

// P15.1, P1, rule 3: Start at what may not be, of a table that is as New made it, and of others; nothing is changed.
func TestStartWrong(t *testing.T) {
	b := made(t)
	for _, gen := range append(noGens(), 0) {
		if e := b.start(gen); e != api.ErrArg {
			t.Errorf("Start at %d: error %d, want ErrArg", gen, e)
		}
	}
	if e := b.start(2); e != api.OK {
		t.Errorf("Start at 2, behind wrong ones: error %d", e)
	}
	for _, gen := range append(noGens(), 0) {
		if e := b.start(gen); e != api.ErrArg {
			t.Errorf("Start at %d: error %d, want ErrArg", gen, e)
		}
	}
}

// P15.1: Start of a table of which one entry, whichever it is, is open, revoked, was closed, or is open again; also if it begins at 1, and of which all are in use.
func TestStartUsed(t *testing.T) {
	for i := range entries {
		for _, acts := range []string{"", "r", "c", "rc"} {
			for _, others := range []bool{false, true} {
				b := made(t)
				b.fill()
				for _, act := range acts {
					if act == 'r' {
						b.revoke(i)
					} else {
						b.shut(i)
					}
				}
				if others {
					for entry := range entries {
						if entry != i {
							b.shut(entry)
						}
					}
				}
				for _, gen := range []int{1, 2, 3, lastGen - 1, lastGen} {
					if e := b.start(gen); e != api.ErrArg {
						t.Errorf("Start at %d, %q of %d: error %d, want ErrArg", gen, acts, i, e)
					}
				}
			}
		}
	}
	b := made(t)
	b.grant(0, 0)
	if e := b.start(1); e != api.ErrArg {
		t.Errorf("Start at 1, when cell 0 was granted: error %d, want ErrArg", e)
	}
	b.revoke(0)
	if e := b.start(1); e != api.ErrArg {
		t.Errorf("Start at 1, when one is revoked: error %d, want ErrArg", e)
	}
	b.shut(0)
	if e := b.start(1); e != api.ErrArg {
		t.Errorf("Start at 1, when one was closed: error %d, want ErrArg", e)
	}
}

// P15.1: what begins at the greatest generation is retired at once: all are empty, none is ever opened, and none has a greater one.
func TestStartRetired(t *testing.T) {
	b := begun(t, lastGen)
	for range 3 {
		if entry, e := b.grant(1, 1); entry != 0 || e != api.ErrFull {
			t.Errorf("Grant, when all are retired: %d, error %d, want 0, ErrFull", entry, e)
		}
		if entry, e := b.grant(192, 1); entry != 0 || e != api.ErrArg {
			t.Errorf("Grant of cell 192, when all are retired: %d, error %d, want 0, ErrArg", entry, e)
		}
		for entry := range entries {
			if e := b.revoke(entry); e != api.ErrNone {
				t.Errorf("Revoke of %d, retired: error %d, want ErrNone", entry, e)
			}
			for gen, want := range map[int]api.Errno{lastGen: api.ErrStale, lastGen - 1: api.ErrStale, lastGen + 1: api.ErrHandle} {
				if _, _, e := b.look(entry, gen); e != want {
					t.Errorf("Look of %d, retired, at %d: error %d, want %d", entry, gen, e, want)
				}
				if e := b.close(entry, gen); e != want {
					t.Errorf("Close of %d, retired, at %d: error %d, want %d", entry, gen, e, want)
				}
			}
		}
	}
	if e := b.start(1); e != api.ErrArg {
		t.Errorf("Start, when all are retired: error %d, want ErrArg", e)
	}
}

// P15.1: an entry whose generation is one less than the greatest is opened once more, then retired; the first of the others that are not is opened then.
func TestRetired(t *testing.T) {
	for _, revoked := range []bool{false, true} {
		b := begun(t, lastGen-1)
		for entry := range entries {
			got, e := b.grant(30+entry, lastGen)
			if got != entry || e != api.OK || b.table.Gen(entry) != lastGen-1 {
				t.Errorf("Grant, when %d are retired: %d, error %d", entry, got, e)
			}
			if revoked {
				b.revoke(entry)
			}
			b.shut(entry)
			if b.table.Gen(entry) != lastGen {
				t.Errorf("Gen of %d: %d, want %d", entry, b.table.Gen(entry), lastGen)
			}
			if e := b.close(entry, lastGen); e != api.ErrStale {
				t.Errorf("Close of %d, retired: error %d, want ErrStale", entry, e)
			}
		}
		if entry, e := b.grant(1, 1); entry != 0 || e != api.ErrFull {
			t.Errorf("Grant, when all are retired: %d, error %d, want 0, ErrFull", entry, e)
		}
	}
	b := begun(t, lastGen-2)
	b.fill()
	for _, entry := range []int{2, 5} {
		b.shut(entry)
		if got, e := b.grant(1, 2); got != entry || e != api.OK {
			t.Errorf("Grant: %d, error %d, want %d", got, e, entry)
		}
		b.shut(entry)
	}
	b.shut(4)
	if got, e := b.grant(3, 4); got != 4 || e != api.OK {
		t.Errorf("Grant, when 2 and 5 are retired, and 4 is empty: %d, error %d, want 4", got, e)
	}
	if got, e := b.grant(3, 4); got != 0 || e != api.ErrFull {
		t.Errorf("Grant, when 2 and 5 are retired, and the others open: %d, error %d, want 0, ErrFull", got, e)
	}
}

// P15.1, rule 8: a nil table, which is named ahead of what else is wrong.
func TestNilTable(t *testing.T) {
	var x *proxy.Table
	numbers := append(append(append(noEntries(), noCells()...), noGens()...), 0, 1, 2, 7, lastCell, lastGen)
	for _, n := range numbers {
		if got := x.Gen(n); got != 0 {
			t.Errorf("Gen of %d: %d, want 0", n, got)
		}
		if e := x.Revoke(n); e != api.ErrArg {
			t.Errorf("Revoke of %d: error %d, want ErrArg", n, e)
		}
		if e := x.Start(n); e != api.ErrArg {
			t.Errorf("Start at %d: error %d, want ErrArg", n, e)
		}
		for _, m := range []int{-1, 0, 1, 5, 8, lastCell, lastGen, lastGen + 1} {
			if entry, e := x.Grant(n, m); entry != 0 || e != api.ErrArg {
				t.Errorf("Grant of %d, %d: %d, error %d, want 0, ErrArg", n, m, entry, e)
			}
			if cell, gen, e := x.Look(n, m); cell != 0 || gen != 0 || e != api.ErrArg {
				t.Errorf("Look of %d at %d: %d, %d, error %d, want 0, 0, ErrArg", n, m, cell, gen, e)
			}
			if e := x.Close(n, m); e != api.ErrArg {
				t.Errorf("Close of %d at %d: error %d, want ErrArg", n, m, e)
			}
		}
	}
}

// P15.2: what was revoked, then closed, is not shown when the entry is opened again, not even if the same cell is granted anew: the old generation stays stale.
func TestNoSecondLife(t *testing.T) {
	for i := range entries {
		b := made(t)
		b.fill()
		for gen := 1; gen < 40; gen++ {
			if gen%2 == 0 {
				b.revoke(i)
				if cell, life, e := b.look(i, gen); cell != 0 || life != 0 || e != api.ErrRevoked {
					t.Fatalf("Look of %d at %d, revoked: %d, %d, error %d", i, gen, cell, life, e)
				}
			}
			b.shut(i)
			if entry, e := b.grant(10+i, 20+i); entry != i || e != api.OK || b.table.Gen(i) != gen+1 {
				t.Fatalf("Grant: %d, error %d, want %d; its generation is %d", entry, e, i, b.table.Gen(i))
			}
			for old := range gen + 1 {
				if cell, life, e := b.look(i, old); cell != 0 || life != 0 || e != api.ErrStale {
					t.Fatalf("Look of %d at %d, that was closed: %d, %d, error %d", i, old, cell, life, e)
				}
				if e := b.close(i, old); e != api.ErrStale {
					t.Fatalf("Close of %d at %d, that was closed: error %d", i, old, e)
				}
			}
			if cell, life, e := b.look(i, gen+1); cell != 10+i || life != 20+i || e != api.OK {
				t.Fatalf("Look of %d at %d: %d, %d, error %d", i, gen+1, cell, life, e)
			}
		}
	}
}

// act does an act of any kind to a table and its sheet: right ones mostly, wrong ones of all sizes among them.
func act(b *both, seed *uint64) api.Errno {
	b.t.Helper()
	entry := next(seed, entries)
	gen := b.table.Gen(entry)
	switch next(seed, 12) {
	case 0:
		entry = one(seed, noEntries())
	case 1:
		gen = one(seed, noGens())
	case 2:
		gen += next(seed, 5) - 2
	}
	var e api.Errno
	switch next(seed, 16) {
	case 0:
		_, e = b.grant(one(seed, noCells()), next(seed, lastGen+1))
	case 1:
		_, e = b.grant(next(seed, lastCell+1), one(seed, noGens()))
	case 2, 3:
		e = b.revoke(entry)
	case 4, 5, 6, 7:
		e = b.close(entry, gen)
	case 8:
		_, _, e = b.look(entry, gen)
	case 9:
		e = b.start(one(seed, []int{0, 1, 2, lastGen - 1, lastGen, lastGen + 1}))
	default:
		_, e = b.grant(next(seed, lastCell+1), one(seed, []int{0, 1, 2, 258, lastGen - 1, lastGen}))
	}
	return e
}

// starts are where the tables of many acts begin: at the last one all entries are retired soon.
func starts() []int {
	return []int{1, 2, 258, 1<<31 - 3, lastGen - 30, lastGen - 5, lastGen - 1, lastGen}
}

// P15.1, P15.2: many acts of all kinds, each held against the sheet.
func TestManyActs(t *testing.T) {
	for _, gen := range starts() {
		for seed := range uint64(4) {
			b := begun(t, gen)
			for range 400 {
				act(b, &seed)
			}
		}
	}
}

// pair is an entry, and its generation.
type pair struct{ entry, gen int }

// told is what became of a pair: what it was granted for, and what ended it.
type told struct {
	cell, gen       int
	revoked, closed bool
}

// P15.2 (no second life): the same, told by the acts alone, without a sheet: no pair is granted twice; each shows just what it was granted for, till it is revoked or closed, nothing when it is revoked, and is stale for ever when it was closed.
func TestPairsOnce(t *testing.T) {
	for _, gen := range starts() {
		for seed := range uint64(6) {
			x := proxy.New()
			if e := x.Start(gen); e != api.OK {
				t.Fatalf("Start at %d: error %d", gen, e)
			}
			all := map[pair]*told{}
			for range 300 {
				live(t, x, all, &seed)
				for p, y := range all {
					shows(t, x, p, y)
				}
			}
		}
	}
}

// live does an act, and writes down what it made of a pair.
func live(t *testing.T, x *proxy.Table, all map[pair]*told, seed *uint64) {
	t.Helper()
	entry := next(seed, entries)
	p := pair{entry, x.Gen(entry)}
	switch next(seed, 5) {
	case 0:
		if x.Revoke(entry) == api.OK {
			all[p].revoked = true
		}
	case 1, 2:
		if x.Close(p.entry, p.gen) == api.OK {
			all[p].closed = true
		}
	default:
		cell, gen := next(seed, lastCell+1), next(seed, lastGen+1)
		entry, e := x.Grant(cell, gen)
		if e != api.OK {
			return
		}
		p := pair{entry, x.Gen(entry)}
		if all[p] != nil {
			t.Fatalf("%v is granted twice", p)
		}
		all[p] = &told{cell: cell, gen: gen}
	}
}

func shows(t *testing.T, x *proxy.Table, p pair, y *told) {
	t.Helper()
	cell, gen, e := x.Look(p.entry, p.gen)
	switch {
	case y.closed:
		if cell != 0 || gen != 0 || e != api.ErrStale || x.Close(p.entry, p.gen) != api.ErrStale {
			t.Fatalf("%v, that was closed, shows %d, %d, error %d", p, cell, gen, e)
		}
	case y.revoked:
		if cell != 0 || gen != 0 || e != api.ErrRevoked {
			t.Fatalf("%v, that was revoked, shows %d, %d, error %d", p, cell, gen, e)
		}
	case cell != y.cell || gen != y.gen || e != api.OK:
		t.Fatalf("%v shows %d, %d, error %d, want %d, %d", p, cell, gen, e, y.cell, y.gen)
	}
}

// P15.1, P2: Gen and Look change nothing, and what is asked twice is answered alike; nor does what is answered with an error.
func TestAskingChangesNothing(t *testing.T) {
	for _, acts := range []string{"", "o", "or"} {
		b := at(t, 3, acts)
		for range 30 {
			b.same()
			b.grant(192, 0)
			b.grant(0, -1)
			b.revoke(8)
			b.close(3, 6)
			b.close(3, 4)
			b.start(2)
		}
		for entry := range entries {
			b.close(entry, b.table.Gen(entry))
		}
		b.grant(1, 1)
	}
}

// P2: what is done to one table is not seen in another one, and the same acts are answered alike.
func TestTablesStandApart(t *testing.T) {
	a, b, c := made(t), made(t), begun(t, 9)
	a.fill()
	b.same()
	c.same()
	c.fill()
	c.shut(2)
	a.same()
	b.start(5)
	a.revoke(1)
	c.same()
	seedA, seedB, seedC := uint64(1), uint64(2), uint64(3)
	for range 200 {
		act(a, &seedA)
		act(b, &seedB)
		act(c, &seedC)
		a.same()
		b.same()
	}
	d, e := made(t), made(t)
	seedD, seedE := uint64(4), uint64(4)
	for range 200 {
		if x, y := act(d, &seedD), act(e, &seedE); x != y {
			t.Fatalf("the same acts: errors %d, %d", x, y)
		}
	}
	f := made(t)
	f.fill()
}
