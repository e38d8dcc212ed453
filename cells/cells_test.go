package cells_test

import (
	"math"
	"slices"
	"testing"

	"socage/api"
	"socage/arena"
	"socage/cells"
)

const (
	greatest  = 1<<32 - 1
	lastStart = greatest - 1
	mostCells = 64
	mostQuota = 1 << 16
	mostWords = 1 << 16
	lastCount = 1<<31 - 1
	lastData  = 1<<63 - 1
	lastCell  = 1<<63 - 2
	used      = 1 << 31
)

func data(n uint64) api.Value    { return api.Value{Kind: api.Data, N: n} }
func pointer(n uint64) api.Value { return api.Value{Kind: api.Pointer, N: n} }

// slotsOf, wordsOf, classOf and headerAt are reckoned by hand.
func slotsOf(class int) int { return 1 << class }

func count(s api.Share) int { return s.Cells[0] + s.Cells[1] + s.Cells[2] }

func wordsOf(s api.Share) int { return 2*s.Cells[0] + 3*s.Cells[1] + 5*s.Cells[2] }

func classOf(s api.Share, cell int) int {
	switch {
	case cell < s.Cells[0]:
		return 0
	case cell < s.Cells[0]+s.Cells[1]:
		return 1
	}
	return 2
}

func headerAt(s api.Share, cell int) int {
	at := 0
	for c := range cell {
		at += 1 + slotsOf(classOf(s, c))
	}
	return at
}

// mark is a word that no act here writes, another one at each place: it shows who touched what.
func mark(at int) uint64 {
	return 1<<63 | uint64(at)<<20 | 1<<19 | 0x5555
}

// marked is an arena with marks in all words.
func marked(t *testing.T, words int) *arena.Arena {
	t.Helper()
	a, e := arena.New(words)
	if e != api.OK {
		t.Fatalf("an arena of %d words: error %d", words, e)
	}
	for at := range words {
		a.Write(at, mark(at))
	}
	return a
}

func all(a *arena.Arena) []uint64 {
	var l []uint64
	for at := range a.Len() {
		w, _ := a.Read(at)
		l = append(l, w)
	}
	return l
}

// plot is where cells are laid: so many words stand ahead of them, and behind them.
type plot struct {
	share         api.Share
	ahead, behind int
}

// plots are ordinary ones, and such as stand at the edges: classes without cells and with 64, Start 1 and 2^32 less 2, a place of 0, and one from which the words just end where the arena does.
func plots() []plot {
	return []plot{
		{api.Share{Cells: [3]int{2, 1, 3}, Quota: 9, Start: 1}, 0, 0},
		{api.Share{Cells: [3]int{2, 1, 3}, Quota: 9, Start: 1}, 4, 3},
		{api.Share{Cells: [3]int{3, 4, 2}, Quota: 100, Start: 1000}, 7, 0},
		{api.Share{Cells: [3]int{3, 2, 4}, Start: lastStart}, 0, 5},
		{api.Share{Cells: [3]int{3, 2, 4}, Start: lastStart - 1}, 1, 1},
		{api.Share{Cells: [3]int{2, 3, 1}, Quota: mostQuota, Start: lastStart - 4}, 2, 0},
		{api.Share{Start: 1}, 0, 0},
		{api.Share{Start: lastStart}, 3, 0},
		{api.Share{Start: 5}, 0, 3},
		{api.Share{Cells: [3]int{1, 0, 0}, Start: 1}, 1, 1},
		{api.Share{Cells: [3]int{0, 1, 0}, Start: lastStart}, 1, 1},
		{api.Share{Cells: [3]int{0, 0, 1}, Start: lastStart - 2}, 1, 1},
		{api.Share{Cells: [3]int{2, 0, 2}, Start: 1 << 31}, 5, 5},
		{api.Share{Cells: [3]int{0, 3, 0}, Start: 2}, 0, 1},
	}
}

// fullPlots have 64 cells of one class, or of all.
func fullPlots() []plot {
	return []plot{
		{api.Share{Cells: [3]int{mostCells, 0, 0}, Start: 1}, 2, 1},
		{api.Share{Cells: [3]int{0, mostCells, 0}, Start: lastStart}, 0, 1},
		{api.Share{Cells: [3]int{0, 0, mostCells}, Start: lastStart - 1}, 3, 0},
		{api.Share{Cells: [3]int{mostCells, mostCells, mostCells}, Quota: mostQuota, Start: 1}, 0, 0},
		{api.Share{Cells: [3]int{mostCells, mostCells, mostCells}, Quota: mostQuota, Start: lastStart}, 9, 9},
	}
}

func absentClasses() []int {
	return []int{math.MinInt, math.MinInt + 1, -1 << 32, -2, -1, 3, 4, 1 << 32, 1<<32 + 1, math.MaxInt - 1, math.MaxInt}
}

func absentCells(s api.Share) []int {
	n := count(s)
	return []int{math.MinInt, math.MinInt + 1, -1 << 32, -n - 1, -2, -1, n, n + 1, n + mostCells, 1 << 32, 1<<32 + 1, math.MaxInt - 1, math.MaxInt}
}

func absentSlots(slots int) []int {
	return []int{math.MinInt, math.MinInt + 1, -1 << 32, -2, -1, slots, slots + 1, slots + 4, 1 << 32, 1<<32 + 1, math.MaxInt - 1, math.MaxInt}
}

func rightCounts() []int { return []int{0, 1, 2, 77, 1 << 30, lastCount - 1, lastCount} }

func wrongCounts() []int {
	return []int{math.MinInt, math.MinInt + 1, -1 << 31, -2, -1, lastCount + 1, lastCount + 2, 1<<32 - 1, 1 << 32, 1<<32 + 1, math.MaxInt - 1, math.MaxInt}
}

func rightValues() []api.Value {
	return []api.Value{
		{}, data(0), data(1), data(7), data(1 << 62), data(lastData - 1), data(lastData),
		pointer(0), pointer(1), pointer(5), pointer(1 << 62), pointer(lastCell - 1), pointer(lastCell),
	}
}

func wrongValues() []api.Value {
	return []api.Value{
		{N: 1}, {N: math.MaxUint64}, data(lastData + 1), data(math.MaxUint64), pointer(lastCell + 1), pointer(lastCell + 2), pointer(math.MaxUint64),
		{Kind: -1}, {Kind: 3}, {Kind: 3, N: 1}, {Kind: math.MinInt, N: 1}, {Kind: math.MaxInt}, {Kind: 1 << 32},
	}
}

// sheet is what cells ought to tell, and what all words of the arena ought to be, reckoned otherwise: a cell's word is found from its count, and its slots' values, and piles stand with the top first.
type sheet struct {
	plot
	piles  [3][]int
	gens   []int
	live   []bool
	counts []int
	values [][]api.Value
}

func newSheet(p plot) *sheet {
	m := &sheet{plot: p}
	for cell := range count(p.share) {
		class := classOf(p.share, cell)
		m.piles[class] = append(m.piles[class], cell)
		m.gens = append(m.gens, p.share.Start)
		m.live = append(m.live, false)
		m.counts = append(m.counts, 0)
		m.values = append(m.values, make([]api.Value, slotsOf(class)))
	}
	return m
}

func (m *sheet) has(cell int) bool { return cell >= 0 && cell < len(m.gens) }

func (m *sheet) hasSlot(cell, slot int) bool {
	return m.has(cell) && slot >= 0 && slot < len(m.values[cell])
}

func (m *sheet) alloc(class int) (int, api.Errno) {
	if class < 0 || class > 2 {
		return 0, api.ErrArg
	}
	if len(m.piles[class]) == 0 {
		return 0, api.ErrFull
	}
	cell := m.piles[class][0]
	m.piles[class] = slices.Clone(m.piles[class][1:])
	m.live[cell] = true
	return cell, api.OK
}

func (m *sheet) free(cell int) (bool, api.Errno) {
	if !m.has(cell) {
		return false, api.ErrArg
	}
	if !m.live[cell] {
		return false, api.ErrNone
	}
	m.live[cell], m.counts[cell] = false, 0
	clear(m.values[cell])
	m.gens[cell]++
	if m.gens[cell] == greatest {
		return true, api.OK
	}
	class := classOf(m.share, cell)
	m.piles[class] = append([]int{cell}, m.piles[class]...)
	return false, api.OK
}

func (m *sheet) setCount(cell, n int) api.Errno {
	if !m.has(cell) || n < 0 || n > lastCount {
		return api.ErrArg
	}
	if !m.live[cell] {
		return api.ErrNone
	}
	m.counts[cell] = n
	return api.OK
}

func (m *sheet) get(cell, slot int) (api.Value, api.Errno) {
	if !m.hasSlot(cell, slot) {
		return api.Value{}, api.ErrArg
	}
	if !m.live[cell] {
		return api.Value{}, api.ErrNone
	}
	return m.values[cell][slot], api.OK
}

func (m *sheet) set(cell, slot int, v api.Value) api.Errno {
	wrong := v.Kind < 0 || v.Kind > 2 || v.Kind == 0 && v.N != 0 || v.Kind == 1 && v.N > lastData || v.Kind == 2 && v.N > lastCell
	if !m.hasSlot(cell, slot) || wrong {
		return api.ErrArg
	}
	if !m.live[cell] {
		return api.ErrNone
	}
	m.values[cell][slot] = v
	return api.OK
}

func (m *sheet) allLive() []int {
	var l []int
	for cell, live := range m.live {
		if live {
			l = append(l, cell)
		}
	}
	return l
}

func (m *sheet) room(class int) (int, int) {
	if class < 0 || class > 2 {
		return 0, 0
	}
	gone := 0
	for cell, gen := range m.gens {
		if classOf(m.share, cell) == class && gen == greatest {
			gone++
		}
	}
	return len(m.piles[class]), gone
}

// words are those of the whole arena, the marks ahead of the share and behind it among them.
func (m *sheet) words() []uint64 {
	var l []uint64
	for at := range m.ahead {
		l = append(l, mark(at))
	}
	for cell, values := range m.values {
		h := uint64(m.gens[cell])<<32 | uint64(m.counts[cell])
		if m.live[cell] {
			h |= used
		}
		l = append(l, h)
		for _, v := range values {
			if v.Kind == api.Nil {
				l = append(l, 0)
			} else {
				l = append(l, 2*v.N+uint64(v.Kind))
			}
		}
	}
	for range m.behind {
		l = append(l, mark(len(l)))
	}
	return l
}

// pair is cells, and a sheet that has seen the same acts.
type pair struct {
	t *testing.T
	a *arena.Arena
	c *cells.Cells
	m *sheet
}

func made(t *testing.T, p plot) pair {
	t.Helper()
	a := marked(t, p.ahead+wordsOf(p.share)+p.behind)
	c, e := cells.New(a, p.ahead, p.share)
	if c == nil || e != api.OK {
		t.Fatalf("%v: New: %v, error %d", p, c, e)
	}
	return pair{t, a, c, newSheet(p)}
}

// bounded is that an act touches no more words than it may, and none if it tells an error.
func (p pair) bounded(what string, most int, act func() api.Errno) {
	p.t.Helper()
	before := p.a.Touched()
	if act() != api.OK {
		most = 0
	}
	if n := p.a.Touched() - before; n > most {
		p.t.Fatalf("%v: %s: %d words touched, at most %d may be", p.m.plot, what, n, most)
	}
}

// size is how many words a cell has, or 0.
func (p pair) size(cell int) int {
	if !p.m.has(cell) {
		return 0
	}
	return 1 + len(p.m.values[cell])
}

func (p pair) alloc(class int) int {
	p.t.Helper()
	want, wantErr := p.m.alloc(class)
	p.bounded("Alloc", p.size(want), func() api.Errno {
		cell, e := p.c.Alloc(class)
		if cell != want || e != wantErr {
			p.t.Fatalf("%v: Alloc of class %d: %d, error %d, want %d, %d", p.m.plot, class, cell, e, want, wantErr)
		}
		return e
	})
	return want
}

func (p pair) free(cell int) {
	p.t.Helper()
	want, wantErr := p.m.free(cell)
	p.bounded("Free", p.size(cell), func() api.Errno {
		gone, e := p.c.Free(cell)
		if gone != want || e != wantErr {
			p.t.Fatalf("%v: Free of cell %d: %v, error %d, want %v, %d", p.m.plot, cell, gone, e, want, wantErr)
		}
		return e
	})
}

func (p pair) setCount(cell, n int) {
	p.t.Helper()
	want := p.m.setCount(cell, n)
	p.bounded("SetCount", 2, func() api.Errno {
		e := p.c.SetCount(cell, n)
		if e != want {
			p.t.Fatalf("%v: SetCount of cell %d to %d: error %d, want %d", p.m.plot, cell, n, e, want)
		}
		return e
	})
}

func (p pair) get(cell, slot int) {
	p.t.Helper()
	want, wantErr := p.m.get(cell, slot)
	p.bounded("Get", 2, func() api.Errno {
		v, e := p.c.Get(cell, slot)
		if v != want || e != wantErr {
			p.t.Fatalf("%v: Get of cell %d, slot %d: %v, error %d, want %v, %d", p.m.plot, cell, slot, v, e, want, wantErr)
		}
		return e
	})
}

func (p pair) set(cell, slot int, v api.Value) {
	p.t.Helper()
	want := p.m.set(cell, slot, v)
	p.bounded("Set", 2, func() api.Errno {
		e := p.c.Set(cell, slot, v)
		if e != want {
			p.t.Fatalf("%v: Set of cell %d, slot %d to %v: error %d, want %d", p.m.plot, cell, slot, v, e, want)
		}
		return e
	})
}

func (p pair) header(cell int) {
	p.t.Helper()
	want, wantErr := api.Header{}, api.ErrArg
	if p.m.has(cell) {
		want, wantErr = api.Header{Gen: p.m.gens[cell], Count: p.m.counts[cell], Used: p.m.live[cell]}, api.OK
	}
	p.bounded("Header", 1, func() api.Errno {
		h, e := p.c.Header(cell)
		if h != want || e != wantErr {
			p.t.Fatalf("%v: Header of cell %d: %v, error %d, want %v, %d", p.m.plot, cell, h, e, want, wantErr)
		}
		return e
	})
}

func (p pair) slots(cell int) {
	p.t.Helper()
	want := max(p.size(cell)-1, 0)
	if n := p.c.Slots(cell); n != want {
		p.t.Fatalf("%v: Slots of cell %d: %d, want %d", p.m.plot, cell, n, want)
	}
}

func (p pair) room(class int) {
	p.t.Helper()
	wantFree, wantGone := p.m.room(class)
	if free, gone := p.c.Room(class); free != wantFree || gone != wantGone {
		p.t.Fatalf("%v: Room of class %d: %d, %d, want %d, %d", p.m.plot, class, free, gone, wantFree, wantGone)
	}
}

// wordsSame holds each word of the arena against the sheet.
func (p pair) wordsSame() {
	p.t.Helper()
	if got, want := all(p.a), p.m.words(); !slices.Equal(got, want) {
		p.t.Fatalf("%v: the arena's words are %x, want %x", p.m.plot, got, want)
	}
}

// same holds all that cells tell without being changed, and each word of the arena, against the sheet.
func (p pair) same() {
	p.t.Helper()
	if got, want := p.c.Live(), p.m.allLive(); !slices.Equal(got, want) {
		p.t.Fatalf("%v: Live %v, want %v", p.m.plot, got, want)
	}
	for class := range 3 {
		p.room(class)
	}
	for cell, values := range p.m.values {
		p.header(cell)
		p.slots(cell)
		for slot := range values {
			p.get(cell, slot)
		}
		// These are the list's own calls, promoted.
		if p.c.Gen(cell) != p.m.gens[cell] || p.c.Taken(cell) != p.m.live[cell] {
			p.t.Fatalf("%v, cell %d: Gen %d, Taken %v, want %d, %v", p.m.plot, cell, p.c.Gen(cell), p.c.Taken(cell), p.m.gens[cell], p.m.live[cell])
		}
	}
	p.wordsSame()
}

// next is a number that looks like any: the same ones come in each run.
func next(seed *uint64, below int) int {
	*seed = *seed*6364136223846793005 + 1442695040888963407
	return int(*seed>>33) % below
}

// one picks an item of a list.
func one[T any](seed *uint64, l []T) T {
	return l[next(seed, len(l))]
}

// P7.1: of New no cell is live, all headers have the share's Start, and all slots are 0, whatever was there; the words ahead and behind stay, and each word of the share's is touched once at most.
func TestNew(t *testing.T) {
	for _, p := range append(plots(), fullPlots()...) {
		a := marked(t, p.ahead+wordsOf(p.share)+p.behind)
		before := a.Touched()
		c, e := cells.New(a, p.ahead, p.share)
		if c == nil || e != api.OK {
			t.Fatalf("%v: New: %v, error %d", p, c, e)
		}
		if n := a.Touched() - before; n != wordsOf(p.share) {
			t.Errorf("%v: New touched %d words, want %d", p, n, wordsOf(p.share))
		}
		pair{t, a, c, newSheet(p)}.same()
	}
}

// P7.1: the words of a share, written out.
func TestWordsOfNew(t *testing.T) {
	a := marked(t, 12)
	if _, e := cells.New(a, 1, api.Share{Cells: [3]int{1, 1, 1}, Start: 3}); e != api.OK {
		t.Fatalf("New: error %d", e)
	}
	want := []uint64{mark(0), 3 << 32, 0, 3 << 32, 0, 0, 3 << 32, 0, 0, 0, 0, mark(11)}
	if got := all(a); !slices.Equal(got, want) {
		t.Errorf("%x, want %x", got, want)
	}
}

// refuse is that New tells ErrArg and no cells, and touches nothing.
func refuse(t *testing.T, a *arena.Arena, base int, s api.Share) {
	t.Helper()
	before := a.Touched()
	if c, e := cells.New(a, base, s); c != nil || e != api.ErrArg {
		t.Errorf("New at %d of %d, of %v: %v, error %d, want nil, ErrArg", base, a.Len(), s, c, e)
	}
	if a.Touched() != before {
		t.Errorf("New at %d of %d, of %v: %d words touched", base, a.Len(), s, a.Touched()-before)
	}
}

// P7.1: shares that may not be, each for one thing; a nil arena, too.
func TestNewRefusesShares(t *testing.T) {
	ordinary := api.Share{Cells: [3]int{2, 1, 3}, Quota: 9, Start: 1}
	wrong := []api.Share{{}, {Cells: [3]int{2, 1, 3}, Quota: 9}}
	for _, n := range []int{math.MinInt, -1, 0, greatest, greatest + 1, math.MaxInt} {
		s := ordinary
		s.Start = n
		wrong = append(wrong, s)
	}
	for _, n := range []int{math.MinInt, -1, mostQuota + 1, math.MaxInt} {
		s := ordinary
		s.Quota = n
		wrong = append(wrong, s)
	}
	for class := range 3 {
		for _, n := range []int{math.MinInt, -1, mostCells + 1, math.MaxInt} {
			s := ordinary
			s.Cells[class] = n
			wrong = append(wrong, s)
		}
	}
	a := marked(t, 1000)
	for _, s := range wrong {
		for _, base := range []int{0, 1, 500, 1000, -1, 1001} {
			refuse(t, a, base, s)
			refuse(t, nil, base, s)
		}
	}
	for at, w := range all(a) {
		if w != mark(at) {
			t.Errorf("word %d: %x", at, w)
		}
	}
}

// P7.1: a nil arena; a place below 0 and above Len; an arena that is one word too short.
func TestNewRefusesPlaces(t *testing.T) {
	for _, p := range append(plots(), fullPlots()...) {
		words := wordsOf(p.share)
		for _, base := range []int{math.MinInt, -1, 0, 1, math.MaxInt} {
			refuse(t, nil, base, p.share)
		}
		for _, n := range []int{words, words + 10} {
			a := marked(t, n)
			for _, base := range []int{math.MinInt, math.MinInt + 1, math.MinInt + words, -words - 1, -max(words, 1), -2, -1, n - words + 1, n + 1, n + 2, 1 << 32, 1 << 62, math.MaxInt - words, math.MaxInt - 1, math.MaxInt} {
				refuse(t, a, base, p.share)
			}
			if c, e := cells.New(a, n-words, p.share); c == nil || e != api.OK {
				t.Errorf("%v: New at %d of %d: error %d", p.share, n-words, n, e)
			}
		}
		if words > 0 {
			refuse(t, marked(t, words-1), 0, p.share)
			refuse(t, marked(t, p.ahead+words-1), p.ahead, p.share)
		}
	}
}

// P7.1: the last words of the greatest arena.
func TestNewInTheGreatestArena(t *testing.T) {
	s := api.Share{Cells: [3]int{64, 64, 64}, Start: 6}
	p := plot{s, mostWords - wordsOf(s), 0}
	q := made(t, p)
	q.alloc(2)
	q.set(128, 3, data(4))
	q.same()
	refuse(t, q.a, p.ahead+1, s)
	q.wordsSame()
}

// P7.1: shares without any cell stand at each place from 0 to Len, that of an arena without words among them; nothing is ever there.
func TestShareWithoutCells(t *testing.T) {
	for _, words := range []int{0, 1, 3} {
		for base := 0; base <= words; base++ {
			p := made(t, plot{api.Share{Quota: 4, Start: 1}, base, words - base})
			for class := range 3 {
				p.alloc(class)
			}
			for _, cell := range append(absentCells(p.m.share), 0) {
				p.everyActOn(cell)
			}
			p.same()
		}
	}
}

// everyActOn does each act that names a cell, with what may be, and with what may not.
func (p pair) everyActOn(cell int) {
	p.t.Helper()
	p.free(cell)
	p.header(cell)
	p.slots(cell)
	for _, n := range append(rightCounts(), wrongCounts()...) {
		p.setCount(cell, n)
	}
	for _, slot := range append(absentSlots(max(p.size(cell)-1, 0)), 0, 1, 2, 3) {
		p.get(cell, slot)
		for _, v := range append(rightValues(), wrongValues()...) {
			p.set(cell, slot, v)
		}
	}
}

// P7.1: of each class all cells, by their numbers; then there is none. Each has count 0 and nil in all slots, and is Used.
func TestAllocAllInOrder(t *testing.T) {
	for _, pl := range append(plots(), fullPlots()...) {
		p := made(t, pl)
		first := 0
		for class := range 3 {
			for i := range pl.share.Cells[class] {
				cell := p.alloc(class)
				if cell != first+i {
					t.Fatalf("%v, class %d: cell %d, want %d", pl, class, cell, first+i)
				}
				if h, e := p.c.Header(cell); h != (api.Header{Gen: pl.share.Start, Used: true}) || e != api.OK {
					t.Fatalf("%v, cell %d: %v, error %d", pl, cell, h, e)
				}
				for slot := range slotsOf(class) {
					if v, e := p.c.Get(cell, slot); v != (api.Value{}) || e != api.OK {
						t.Fatalf("%v, cell %d, slot %d: %v, error %d", pl, cell, slot, v, e)
					}
				}
			}
			for range 2 {
				if cell, e := p.c.Alloc(class); cell != 0 || e != api.ErrFull {
					t.Fatalf("%v, class %d is used up: %d, error %d, want 0, ErrFull", pl, class, cell, e)
				}
			}
			p.same()
			first += pl.share.Cells[class]
		}
		for cell := range count(pl.share) {
			p.free(cell)
		}
		p.same()
	}
}

// P7.1: several orders, with each word of the arena behind each act.
func TestSeveralOrders(t *testing.T) {
	s := api.Share{Cells: [3]int{2, 2, 2}, Quota: 1, Start: 7}
	for _, order := range [][]int{{0, 1, 2, 3, 4, 5}, {5, 4, 3, 2, 1, 0}, {2, 5, 0, 3, 1, 4}, {4, 0, 2, 5, 3, 1}} {
		p := made(t, plot{s, 3, 2})
		for _, class := range []int{2, 0, 1, 0, 2, 1} {
			p.alloc(class)
			p.same()
		}
		for i, cell := range order {
			p.setCount(cell, i+1)
			p.same()
			for slot := range p.c.Slots(cell) {
				p.set(cell, slot, rightValues()[(7*i+slot)%13])
				p.same()
			}
		}
		for _, cell := range order {
			p.free(cell)
			p.same()
		}
		for _, cell := range order {
			p.alloc(classOf(s, cell))
			p.same()
		}
	}
}

// P7.1: the cell that was freed last is allocated first, with a generation more, count 0, and nil in its slots.
func TestFreedLastIsAllocatedFirst(t *testing.T) {
	c := made(t, plot{api.Share{Cells: [3]int{1, 3, 1}, Start: 7}, 2, 2}).c
	for cell := 1; cell <= 3; cell++ {
		if got, e := c.Alloc(1); got != cell || e != api.OK {
			t.Fatalf("Alloc: %d, error %d, want %d", got, e, cell)
		}
		if c.SetCount(cell, 5) != api.OK || c.Set(cell, 0, data(8)) != api.OK || c.Set(cell, 1, pointer(2)) != api.OK {
			t.Fatalf("cell %d isn't written", cell)
		}
	}
	for _, cell := range []int{1, 3} {
		if gone, e := c.Free(cell); gone || e != api.OK {
			t.Fatalf("Free of %d: %v, error %d", cell, gone, e)
		}
		if h, e := c.Header(cell); h != (api.Header{Gen: 8}) || e != api.OK {
			t.Errorf("freed cell %d: %v, error %d", cell, h, e)
		}
	}
	if l := c.Live(); !slices.Equal(l, []int{2}) {
		t.Errorf("Live %v, want 2 alone", l)
	}
	for _, cell := range []int{3, 1} {
		if got, e := c.Alloc(1); got != cell || e != api.OK {
			t.Fatalf("Alloc: %d, error %d, want %d", got, e, cell)
		}
		if h, e := c.Header(cell); h != (api.Header{Gen: 8, Used: true}) || e != api.OK {
			t.Errorf("cell %d: %v, error %d", cell, h, e)
		}
		for slot := range 2 {
			if v, e := c.Get(cell, slot); v != (api.Value{}) || e != api.OK {
				t.Errorf("cell %d, slot %d: %v, error %d", cell, slot, v, e)
			}
		}
	}
	if h, e := c.Header(2); h != (api.Header{Gen: 7, Count: 5, Used: true}) || e != api.OK {
		t.Errorf("cell 2: %v, error %d", h, e)
	}
	if l := c.Live(); !slices.Equal(l, []int{1, 2, 3}) {
		t.Errorf("Live %v, want 1, 2, 3", l)
	}
}

// P7.1: a cell whose generations are used up retires when it is freed, not ahead of it, and is never allocated again; its header has the greatest generation.
func TestRetired(t *testing.T) {
	for lives := 1; lives <= 4; lives++ {
		p := made(t, plot{api.Share{Cells: [3]int{1, 2, 1}, Start: greatest - lives}, 1, 1})
		for life := range lives {
			if cell, e := p.c.Alloc(1); cell != 1 || e != api.OK {
				t.Fatalf("life %d of %d: %d, error %d", life, lives, cell, e)
			}
			if free, gone := p.c.Room(1); free != 1 || gone != 0 {
				t.Fatalf("life %d of %d: Room %d, %d, want 1, 0", life, lives, free, gone)
			}
			p.c.Set(1, 1, data(3))
			last := life == lives-1
			if gone, e := p.c.Free(1); gone != last || e != api.OK {
				t.Fatalf("life %d of %d: retired %v, error %d", life, lives, gone, e)
			}
			if h, e := p.c.Header(1); h != (api.Header{Gen: greatest - lives + life + 1}) || e != api.OK {
				t.Fatalf("life %d of %d: %v, error %d", life, lives, h, e)
			}
			p.m.alloc(1)
			p.m.free(1)
			p.same()
		}
		if free, gone := p.c.Room(1); free != 1 || gone != 1 {
			t.Errorf("%d lives: Room %d, %d, want 1, 1", lives, free, gone)
		}
		p.everyActOn(1)
		p.alloc(1)
		p.same()
		if cell, e := p.c.Alloc(1); cell != 0 || e != api.ErrFull {
			t.Errorf("%d lives, used up: %d, error %d, want 0, ErrFull", lives, cell, e)
		}
	}
}

// P7.1: each value that may be, the least and the greatest among them, in each slot; and each count.
func TestValuesAndCounts(t *testing.T) {
	p := made(t, plot{api.Share{Cells: [3]int{1, 1, 1}, Start: lastStart}, 0, 0})
	for class := range 3 {
		p.alloc(class)
	}
	for cell := range 3 {
		for _, v := range rightValues() {
			for slot := range slotsOf(cell) {
				if e := p.c.Set(cell, slot, v); e != api.OK {
					t.Errorf("cell %d, slot %d, %v: error %d", cell, slot, v, e)
				}
				p.m.set(cell, slot, v)
				p.same()
			}
		}
		for _, n := range rightCounts() {
			if e := p.c.SetCount(cell, n); e != api.OK {
				t.Errorf("cell %d, count %d: error %d", cell, n, e)
			}
			p.m.setCount(cell, n)
			p.same()
		}
	}
}

// P7.1, P1, rule 3: classes, cells and slots below the first and above the last one; nothing is changed, and nothing touched.
func TestWhatIsNotThere(t *testing.T) {
	for _, pl := range plots() {
		p := made(t, pl)
		for class := range 3 {
			if p.m.has(p.alloc(class)) {
				p.setCount(0, 3)
			}
		}
		for _, class := range absentClasses() {
			if cell, e := p.c.Alloc(class); cell != 0 || e != api.ErrArg {
				t.Errorf("%v: Alloc of class %d: %d, error %d, want 0, ErrArg", pl, class, cell, e)
			}
			if free, gone := p.c.Room(class); free != 0 || gone != 0 {
				t.Errorf("%v: Room of class %d: %d, %d, want 0, 0", pl, class, free, gone)
			}
		}
		for _, cell := range absentCells(pl.share) {
			p.everyActOn(cell)
		}
		for cell, values := range p.m.values {
			for _, slot := range absentSlots(len(values)) {
				p.get(cell, slot)
				if e := p.c.Set(cell, slot, data(1)); e != api.ErrArg {
					t.Errorf("%v: Set of cell %d, slot %d: error %d, want ErrArg", pl, cell, slot, e)
				}
			}
		}
		p.same()
	}
}

// P7.1, rule 3: counts and values that may not be, of cells that are live: they keep what they have.
func TestWrongCountsAndValues(t *testing.T) {
	p := made(t, plot{api.Share{Cells: [3]int{1, 1, 1}, Start: 2}, 2, 2})
	for class := range 3 {
		p.alloc(class)
		p.setCount(class, lastCount)
		for slot := range slotsOf(class) {
			p.set(class, slot, data(lastData))
		}
	}
	for cell := range 3 {
		for _, n := range wrongCounts() {
			if e := p.c.SetCount(cell, n); e != api.ErrArg {
				t.Errorf("cell %d, count %d: error %d, want ErrArg", cell, n, e)
			}
		}
		for _, v := range wrongValues() {
			for slot := range slotsOf(cell) {
				if e := p.c.Set(cell, slot, v); e != api.ErrArg {
					t.Errorf("cell %d, slot %d, %v: error %d, want ErrArg", cell, slot, v, e)
				}
			}
		}
		p.same()
	}
}

// P7.1: cells that are not live, as they never were, or were freed, or are retired; what may not be is named ahead of that.
func TestWhatIsNotLive(t *testing.T) {
	for _, start := range []int{1, 5, lastStart} {
		p := made(t, plot{api.Share{Cells: [3]int{2, 2, 2}, Start: start}, 1, 1})
		for class := range 3 {
			p.alloc(class)
			p.free(2 * class)
		}
		for cell := range 6 {
			if gone, e := p.c.Free(cell); gone || e != api.ErrNone {
				t.Errorf("Free of cell %d: %v, error %d, want false, ErrNone", cell, gone, e)
			}
			if e := p.c.SetCount(cell, 0); e != api.ErrNone {
				t.Errorf("SetCount of cell %d: error %d, want ErrNone", cell, e)
			}
			for _, n := range wrongCounts() {
				if e := p.c.SetCount(cell, n); e != api.ErrArg {
					t.Errorf("SetCount of cell %d to %d: error %d, want ErrArg", cell, n, e)
				}
			}
			p.notLive(cell, slotsOf(cell/2))
		}
		p.same()
	}
}

func (p pair) notLive(cell, slots int) {
	p.t.Helper()
	for slot := range slots {
		if v, e := p.c.Get(cell, slot); v != (api.Value{}) || e != api.ErrNone {
			p.t.Errorf("Get of cell %d, slot %d: %v, error %d, want nil, ErrNone", cell, slot, v, e)
		}
		if e := p.c.Set(cell, slot, data(1)); e != api.ErrNone {
			p.t.Errorf("Set of cell %d, slot %d: error %d, want ErrNone", cell, slot, e)
		}
		for _, v := range wrongValues() {
			if e := p.c.Set(cell, slot, v); e != api.ErrArg {
				p.t.Errorf("Set of cell %d, slot %d to %v: error %d, want ErrArg", cell, slot, v, e)
			}
		}
	}
	for _, slot := range absentSlots(slots) {
		if v, e := p.c.Get(cell, slot); v != (api.Value{}) || e != api.ErrArg {
			p.t.Errorf("Get of cell %d, slot %d: %v, error %d, want nil, ErrArg", cell, slot, v, e)
		}
		if e := p.c.Set(cell, slot, data(1)); e != api.ErrArg {
			p.t.Errorf("Set of cell %d, slot %d: error %d, want ErrArg", cell, slot, e)
		}
	}
}

// P7.1, rule 8: nil cells.
func TestNilCells(t *testing.T) {
	var c *cells.Cells
	for _, n := range append(absentCells(api.Share{}), 0, 1, 2, 3) {
		if cell, e := c.Alloc(n); cell != 0 || e != api.ErrArg {
			t.Errorf("Alloc of %d: %d, error %d", n, cell, e)
		}
		if gone, e := c.Free(n); gone || e != api.ErrArg {
			t.Errorf("Free of %d: %v, error %d", n, gone, e)
		}
		if h, e := c.Header(n); h != (api.Header{}) || e != api.ErrArg {
			t.Errorf("Header of %d: %v, error %d", n, h, e)
		}
		if free, gone := c.Room(n); free != 0 || gone != 0 || c.Slots(n) != 0 {
			t.Errorf("%d: Room %d, %d, Slots %d", n, free, gone, c.Slots(n))
		}
		for _, m := range []int{math.MinInt, -1, 0, 1, math.MaxInt} {
			if e := c.SetCount(n, m); e != api.ErrArg {
				t.Errorf("SetCount of %d to %d: error %d", n, m, e)
			}
			if v, e := c.Get(n, m); v != (api.Value{}) || e != api.ErrArg {
				t.Errorf("Get of %d, %d: %v, error %d", n, m, v, e)
			}
			for _, v := range []api.Value{{}, data(1), {N: 1}} {
				if e := c.Set(n, m, v); e != api.ErrArg {
					t.Errorf("Set of %d, %d to %v: error %d", n, m, v, e)
				}
			}
		}
	}
	if l := c.Live(); len(l) != 0 {
		t.Errorf("Live %v", l)
	}
}

// P7.2: what is allocated has nil in all slots, and a header of its own, whatever others wrote into its words ahead of that; what is freed has 0 in them.
func TestFreshWhateverWasThere(t *testing.T) {
	s := api.Share{Cells: [3]int{2, 2, 2}, Start: 4}
	for class := range 3 {
		p := made(t, plot{s, 3, 3})
		spoil := func(cell int) {
			for i := range 1 + slotsOf(class) {
				p.a.Write(3+headerAt(s, cell)+i, math.MaxUint64-uint64(i))
			}
		}
		for _, cell := range []int{2 * class, 2*class + 1} {
			spoil(cell)
			p.alloc(class)
			p.header(cell)
			for slot := range slotsOf(class) {
				p.get(cell, slot)
			}
		}
		p.same()
		spoil(2 * class)
		p.free(2 * class)
		p.same()
		spoil(2 * class)
		p.alloc(class)
		p.same()
	}
}

// P7.2: what is done to one cell changes no other one's words, for each cell, and each act.
func TestOthersStay(t *testing.T) {
	s := api.Share{Cells: [3]int{3, 3, 3}, Start: 4}
	for cell := range 9 {
		p := made(t, plot{s, 2, 2})
		for class := range 3 {
			for range 3 {
				p.alloc(class)
			}
		}
		from := 2 + headerAt(s, cell)
		to := from + 1 + slotsOf(classOf(s, cell))
		for at := range p.a.Len() {
			if at < from || at >= to {
				p.a.Write(at, mark(at))
			}
		}
		acts := []func(){
			func() { p.c.SetCount(cell, lastCount) },
			func() { p.c.Set(cell, 0, data(lastData)) },
			func() { p.c.Set(cell, p.c.Slots(cell)-1, pointer(lastCell)) },
			func() { p.c.Set(cell, p.c.Slots(cell), data(lastData)) },
			func() { p.c.Set(cell, -1, data(lastData)) },
			func() { p.c.Get(cell, 0) },
			func() { p.c.Header(cell) },
			func() { p.c.Free(cell) },
			func() { p.c.Alloc(classOf(s, cell)) },
		}
		for i, act := range acts {
			act()
			for at, w := range all(p.a) {
				if (at < from || at >= to) && w != mark(at) {
					t.Fatalf("cell %d, act %d: word %d is %x", cell, i, at, w)
				}
			}
		}
	}
}

// walk does many acts of all kinds, wrong ones among them, holds each against the sheet, and, now and then, all there is.
func (p pair) walk(seed uint64, acts int) {
	p.t.Helper()
	n := count(p.m.share)
	for i := range acts {
		cell := next(&seed, n+1)
		if next(&seed, 12) == 0 {
			cell = one(&seed, absentCells(p.m.share))
		}
		slot := next(&seed, max(p.size(cell), 1))
		if next(&seed, 12) == 0 {
			slot = one(&seed, absentSlots(max(p.size(cell)-1, 0)))
		}
		switch next(&seed, 12) {
		case 0, 1, 2:
			p.alloc(next(&seed, 3))
		case 3, 4:
			p.free(cell)
		case 5:
			p.setCount(cell, one(&seed, rightCounts()))
		case 6, 7, 8:
			p.set(cell, slot, one(&seed, rightValues()))
		case 9:
			p.get(cell, slot)
		case 10:
			p.setCount(cell, one(&seed, wrongCounts()))
			p.set(cell, slot, one(&seed, wrongValues()))
		case 11:
			p.alloc(one(&seed, absentClasses()))
		}
		if p.wordsSame(); n < 20 || i%50 == 0 {
			p.same()
		}
	}
	p.same()
}

// P7.1, P7.2, rule 3: through many acts, cells tell what the sheet does, and each word is what it ought to be: acts with errors change nothing that a later one tells.
func TestManyActs(t *testing.T) {
	for _, pl := range plots() {
		for seed := range uint64(4) {
			made(t, pl).walk(seed, 400)
		}
	}
	for _, pl := range fullPlots() {
		made(t, pl).walk(5, 600)
	}
}

// P7.2, P2: two tenants' cells, whose words stand one behind the other in one arena: neither sees the other one's acts, nor do its words change.
func TestNeighbours(t *testing.T) {
	s := api.Share{Cells: [3]int{2, 1, 2}, Start: 3}
	words := wordsOf(s)
	a := marked(t, 2*words)
	first, e := cells.New(a, 0, s)
	second, e2 := cells.New(a, words, s)
	if e != api.OK || e2 != api.OK {
		t.Fatalf("New: errors %d, %d", e, e2)
	}
	busy := func(c *cells.Cells) {
		for class := range 3 {
			cell, _ := c.Alloc(class)
			c.SetCount(cell, 9)
			c.Set(cell, c.Slots(cell)-1, pointer(0))
		}
		c.Free(2)
		c.Free(3)
		c.Alloc(2)
	}
	quiet := all(a)[words:]
	busy(first)
	if got := all(a)[words:]; !slices.Equal(got, quiet) {
		t.Errorf("the second one's words are %x, want %x", got, quiet)
	}
	if len(second.Live()) != 0 {
		t.Errorf("the second one's Live %v", second.Live())
	}
	quiet = all(a)[:words]
	busy(second)
	if got := all(a); !slices.Equal(got[:words], quiet) || !slices.Equal(got[words:], quiet) {
		t.Errorf("the words are %x, want twice %x", got, quiet)
	}
	if !slices.Equal(first.Live(), []int{0, 3}) || !slices.Equal(second.Live(), []int{0, 3}) {
		t.Errorf("Live %v, %v, want 0, 3 both times", first.Live(), second.Live())
	}
}

// P2: asking changes nothing, and Live, Slots and Room touch nothing; what Live answered stays, and is nobody else's.
func TestAskingChangesNothing(t *testing.T) {
	p := made(t, plot{api.Share{Cells: [3]int{3, 3, 3}, Start: 5}, 1, 1})
	for class := range 3 {
		p.alloc(class)
	}
	before := p.a.Touched()
	l := p.c.Live()
	for class := range 3 {
		p.c.Room(class)
		p.c.Slots(class)
	}
	if p.a.Touched() != before {
		t.Errorf("%d words touched", p.a.Touched()-before)
	}
	clear(p.c.Live())
	for range 3 {
		p.same()
	}
	p.free(3)
	p.alloc(0)
	if !slices.Equal(l, []int{0, 3, 6}) {
		t.Errorf("what Live answered became %v", l)
	}
	p.same()
}
