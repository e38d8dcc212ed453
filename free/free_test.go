package free_test

import (
	"math"
	"slices"
	"testing"

	"socage/api"
	"socage/free"
)

const (
	greatest  = 1<<32 - 1
	lastStart = greatest - 1
	mostQuota = 1 << 16
)

func made(t *testing.T, s api.Share) *free.List {
	t.Helper()
	l, e := free.New(s)
	if l == nil || e != api.OK {
		t.Fatalf("New of %v: %v, error %d", s, l, e)
	}
	return l
}

func count(s api.Share) int {
	return s.Cells[0] + s.Cells[1] + s.Cells[2]
}

// classOf is a cell's class, reckoned by hand.
func classOf(s api.Share, cell int) int {
	switch {
	case cell < s.Cells[0]:
		return 0
	case cell < s.Cells[0]+s.Cells[1]:
		return 1
	}
	return 2
}

// shares are ordinary ones, and such as stand at the edges: classes without cells and with 64, Start 1 and 2^32 less 2.
func shares() []api.Share {
	return []api.Share{
		{Cells: [3]int{2, 1, 3}, Quota: 9, Start: 1},
		{Cells: [3]int{5, 7, 11}, Quota: 100, Start: 1000},
		{Cells: [3]int{3, 2, 4}, Start: lastStart},
		{Cells: [3]int{3, 2, 4}, Start: lastStart - 1},
		{Cells: [3]int{3, 2, 4}, Start: lastStart - 6},
		{Start: 1},
		{Start: lastStart},
		{Cells: [3]int{64, 64, 64}, Quota: mostQuota, Start: 1},
		{Cells: [3]int{64, 64, 64}, Quota: mostQuota, Start: lastStart},
		{Cells: [3]int{64, 0, 0}, Start: lastStart - 1},
		{Cells: [3]int{0, 64, 0}, Start: 1},
		{Cells: [3]int{0, 0, 64}, Start: 1},
		{Cells: [3]int{1, 0, 0}, Start: 1},
		{Cells: [3]int{0, 1, 0}, Start: lastStart},
		{Cells: [3]int{0, 0, 1}, Start: lastStart - 2},
		{Cells: [3]int{2, 0, 2}, Start: 1 << 31},
	}
}

func absentClasses() []int {
	return []int{math.MinInt, math.MinInt + 1, -1 << 32, -3, -2, -1, 3, 4, 64, 1 << 32, 1<<32 + 1, math.MaxInt - 1, math.MaxInt}
}

func absentCells(s api.Share) []int {
	n := count(s)
	return []int{math.MinInt, math.MinInt + 1, -1 << 32, -n - 1, -2, -1, n, n + 1, n + 64, 1 << 32, 1<<32 + 1, math.MaxInt - 1, math.MaxInt}
}

// sheet is what a list ought to tell, reckoned otherwise: piles stand with the top first.
type sheet struct {
	share   api.Share
	piles   [3][]int
	gens    []int
	taken   map[int]bool
	retired map[int]bool
}

func newSheet(s api.Share) *sheet {
	m := &sheet{share: s, taken: map[int]bool{}, retired: map[int]bool{}}
	for cell := range count(s) {
		class := classOf(s, cell)
		m.piles[class] = append(m.piles[class], cell)
		m.gens = append(m.gens, s.Start)
	}
	return m
}

func (m *sheet) take(class int) (int, api.Errno) {
	if class < 0 || class > 2 {
		return 0, api.ErrArg
	}
	if len(m.piles[class]) == 0 {
		return 0, api.ErrFull
	}
	cell := m.piles[class][0]
	m.piles[class] = slices.Clone(m.piles[class][1:])
	m.taken[cell] = true
	return cell, api.OK
}

func (m *sheet) give(cell int) (bool, api.Errno) {
	if cell < 0 || cell >= len(m.gens) {
		return false, api.ErrArg
	}
	if !m.taken[cell] {
		return false, api.ErrNone
	}
	delete(m.taken, cell)
	m.gens[cell]++
	if m.gens[cell] == greatest {
		m.retired[cell] = true
		return true, api.OK
	}
	class := classOf(m.share, cell)
	m.piles[class] = append([]int{cell}, m.piles[class]...)
	return false, api.OK
}

// same holds all that a list tells without being changed against the sheet.
func same(t *testing.T, l *free.List, m *sheet) {
	t.Helper()
	var retired [3]int
	for cell := range m.retired {
		retired[classOf(m.share, cell)]++
	}
	for class := range 3 {
		if l.Free(class) != len(m.piles[class]) || l.Retired(class) != retired[class] {
			t.Fatalf("%v, class %d: %d free, %d retired, want %d, %d", m.share, class, l.Free(class), l.Retired(class), len(m.piles[class]), retired[class])
		}
	}
	for cell, gen := range m.gens {
		if l.Gen(cell) != gen || l.Taken(cell) != m.taken[cell] {
			t.Fatalf("%v, cell %d: Gen %d, Taken %v, want %d, %v", m.share, cell, l.Gen(cell), l.Taken(cell), gen, m.taken[cell])
		}
	}
}

// takeBoth and giveBoth do the same to a list and its sheet.
func takeBoth(t *testing.T, l *free.List, m *sheet, class int) {
	t.Helper()
	want, wantErr := m.take(class)
	if cell, e := l.Take(class); cell != want || e != wantErr {
		t.Fatalf("%v: Take of class %d: %d, error %d, want %d, %d", m.share, class, cell, e, want, wantErr)
	}
}

func giveBoth(t *testing.T, l *free.List, m *sheet, cell int) {
	t.Helper()
	want, wantErr := m.give(cell)
	if gone, e := l.Give(cell); gone != want || e != wantErr {
		t.Fatalf("%v: Give of cell %d: %v, error %d, want %v, %d", m.share, cell, gone, e, want, wantErr)
	}
}

// next is a number that looks like any: the same ones come in each run.
func next(seed *uint64) int {
	*seed = *seed*6364136223846793005 + 1442695040888963407
	return int(*seed >> 33)
}

// P6.1: at first all cells are free, with the share's Start, and none is taken or retired.
func TestNew(t *testing.T) {
	for _, s := range shares() {
		l := made(t, s)
		for class := range 3 {
			if l.Free(class) != s.Cells[class] || l.Retired(class) != 0 {
				t.Errorf("%v, class %d: %d free, %d retired", s, class, l.Free(class), l.Retired(class))
			}
		}
		for cell := range count(s) {
			if l.Gen(cell) != s.Start || l.Taken(cell) {
				t.Errorf("%v, cell %d: Gen %d, Taken %v", s, cell, l.Gen(cell), l.Taken(cell))
			}
		}
	}
}

// P6.1, P1: shares that may not be, each for one thing.
func TestNewRefused(t *testing.T) {
	ordinary := api.Share{Cells: [3]int{2, 1, 3}, Quota: 9, Start: 1}
	wrong := []api.Share{{}, {Cells: [3]int{2, 1, 3}, Quota: 9}}
	for _, n := range []int{math.MinInt, -1, 0, greatest, greatest + 1, math.MaxInt} {
		s := ordinary
		s.Start = n
		wrong = append(wrong, s)
	}
	for _, n := range []int{math.MinInt, -1, mostQuota + 1, math.MaxInt} {
		s := ordinary
		s.Quota = n
		wrong = append(wrong, s)
	}
	for class := range 3 {
		for _, n := range []int{math.MinInt, -1, 65, math.MaxInt} {
			s := ordinary
			s.Cells[class] = n
			wrong = append(wrong, s)
		}
	}
	for _, s := range wrong {
		if l, e := free.New(s); l != nil || e != api.ErrArg {
			t.Errorf("New of %v: %v, error %d, want nil, ErrArg", s, l, e)
		}
	}
}

// P6.1: of each pile the cell with the least number lies on top at first, below it the next one, up to the last one; then there is none.
func TestTakeAllInOrder(t *testing.T) {
	for _, s := range shares() {
		l := made(t, s)
		first := 0
		for class := range 3 {
			for i := range s.Cells[class] {
				cell, e := l.Take(class)
				if cell != first+i || e != api.OK {
					t.Fatalf("%v, class %d: %d, error %d, want %d", s, class, cell, e, first+i)
				}
				if !l.Taken(cell) || l.Gen(cell) != s.Start || l.Free(class) != s.Cells[class]-i-1 || l.Retired(class) != 0 {
					t.Fatalf("%v, cell %d: Taken %v, Gen %d, %d free, %d retired", s, cell, l.Taken(cell), l.Gen(cell), l.Free(class), l.Retired(class))
				}
			}
			for range 2 {
				if cell, e := l.Take(class); cell != 0 || e != api.ErrFull {
					t.Fatalf("%v, class %d is used up: %d, error %d, want 0, ErrFull", s, class, cell, e)
				}
			}
			first += s.Cells[class]
		}
	}
}

// P6.1: the cell that was given last lies on top, the others below it in the order in which they were laid, above those that never were taken.
func TestGivenLastIsTakenFirst(t *testing.T) {
	l := made(t, api.Share{Cells: [3]int{4, 2, 6}, Quota: 1, Start: 7})
	take := func(class int, want ...int) {
		t.Helper()
		for _, w := range want {
			if cell, e := l.Take(class); cell != w || e != api.OK {
				t.Fatalf("Take of class %d: %d, error %d, want %d", class, cell, e, w)
			}
		}
	}
	give := func(cells ...int) {
		t.Helper()
		for _, cell := range cells {
			if gone, e := l.Give(cell); gone || e != api.OK || l.Taken(cell) {
				t.Fatalf("Give of %d: %v, error %d", cell, gone, e)
			}
		}
	}
	take(2, 6, 7, 8, 9)
	take(0, 0, 1, 2)
	take(1, 4)
	give(7, 0, 9, 4, 2, 6)
	take(0, 2, 0, 3)
	take(1, 4, 5)
	take(2, 6, 9, 7, 10, 11)
	give(8, 1, 3, 5)
	take(0, 3, 1)
	take(1, 5)
	take(2, 8)
	for cell, gen := range []int{8, 8, 8, 8, 8, 8, 8, 8, 8, 8, 7, 7} {
		if l.Gen(cell) != gen || !l.Taken(cell) {
			t.Errorf("cell %d: Gen %d, Taken %v, want %d, true", cell, l.Gen(cell), l.Taken(cell), gen)
		}
	}
}

// P6.1, P6.2: a cell has one generation more each time, till it has the greatest: then, and only then, true is told, and it is never taken again.
func TestRetired(t *testing.T) {
	for lives := 1; lives <= 5; lives++ {
		s := api.Share{Cells: [3]int{1, 2, 1}, Start: greatest - lives}
		l := made(t, s)
		for life := range lives {
			if cell, e := l.Take(1); cell != 1 || e != api.OK || l.Gen(1) != greatest-lives+life {
				t.Fatalf("life %d of %d: %d, error %d, Gen %d", life, lives, cell, e, l.Gen(1))
			}
			last := life == lives-1
			if gone, e := l.Give(1); gone != last || e != api.OK || l.Gen(1) != greatest-lives+life+1 || l.Taken(1) {
				t.Fatalf("life %d of %d: gone %v, error %d, Gen %d, Taken %v", life, lives, gone, e, l.Gen(1), l.Taken(1))
			}
		}
		if l.Gen(1) != greatest || l.Retired(1) != 1 || l.Free(1) != 1 || l.Retired(0)+l.Retired(2) != 0 || l.Free(0) != 1 || l.Free(2) != 1 {
			t.Errorf("%d lives: Gen %d, %d retired, %d free", lives, l.Gen(1), l.Retired(1), l.Free(1))
		}
		if gone, e := l.Give(1); gone || e != api.ErrNone || l.Gen(1) != greatest || l.Retired(1) != 1 {
			t.Errorf("%d lives, once more: %v, error %d, Gen %d, %d retired", lives, gone, e, l.Gen(1), l.Retired(1))
		}
		if cell, e := l.Take(1); cell != 2 || e != api.OK {
			t.Errorf("%d lives, the next cell: %d, error %d, want 2", lives, cell, e)
		}
		if cell, e := l.Take(1); cell != 0 || e != api.ErrFull {
			t.Errorf("%d lives, used up: %d, error %d, want 0, ErrFull", lives, cell, e)
		}
	}
}

// P6.1, P6.2: all cells of all classes are retired, one after the other.
func TestAllRetired(t *testing.T) {
	for _, start := range []int{lastStart, lastStart - 1, lastStart - 2} {
		s := api.Share{Cells: [3]int{64, 3, 64}, Start: start}
		l, m := made(t, s), newSheet(s)
		for class := range 3 {
			for len(m.piles[class]) > 0 {
				cell := m.piles[class][0]
				takeBoth(t, l, m, class)
				giveBoth(t, l, m, cell)
				same(t, l, m)
			}
			takeBoth(t, l, m, class)
			if l.Free(class) != 0 || l.Retired(class) != s.Cells[class] {
				t.Errorf("class %d: %d free, %d retired", class, l.Free(class), l.Retired(class))
			}
		}
		for cell := range count(s) {
			if l.Gen(cell) != greatest || l.Taken(cell) {
				t.Errorf("cell %d: Gen %d, Taken %v", cell, l.Gen(cell), l.Taken(cell))
			}
			giveBoth(t, l, m, cell)
		}
		same(t, l, m)
	}
}

// P6.1: a cell with a generation near the greatest one is not retired while it is taken.
func TestLastLifeIsTaken(t *testing.T) {
	l := made(t, api.Share{Cells: [3]int{1, 0, 0}, Start: lastStart})
	if cell, e := l.Take(0); cell != 0 || e != api.OK || !l.Taken(0) || l.Gen(0) != lastStart || l.Retired(0) != 0 || l.Free(0) != 0 {
		t.Errorf("%d, error %d, Taken %v, Gen %d, %d retired, %d free", cell, e, l.Taken(0), l.Gen(0), l.Retired(0), l.Free(0))
	}
}

// P6.1, P1: classes and cells that there are not.
func TestWhatIsNotThere(t *testing.T) {
	for _, s := range shares() {
		l, m := made(t, s), newSheet(s)
		for class := range 3 {
			takeBoth(t, l, m, class)
		}
		for _, class := range absentClasses() {
			if cell, e := l.Take(class); cell != 0 || e != api.ErrArg {
				t.Errorf("%v: Take of class %d: %d, error %d, want 0, ErrArg", s, class, cell, e)
			}
			if l.Free(class) != 0 || l.Retired(class) != 0 {
				t.Errorf("%v, class %d: %d free, %d retired, want 0, 0", s, class, l.Free(class), l.Retired(class))
			}
		}
		for _, cell := range absentCells(s) {
			if gone, e := l.Give(cell); gone || e != api.ErrArg {
				t.Errorf("%v: Give of cell %d: %v, error %d, want false, ErrArg", s, cell, gone, e)
			}
			if l.Gen(cell) != 0 || l.Taken(cell) {
				t.Errorf("%v, cell %d: Gen %d, Taken %v, want 0, false", s, cell, l.Gen(cell), l.Taken(cell))
			}
		}
		same(t, l, m)
	}
}

// P6.1: cells that are not taken: such as never were, were given, or are retired.
func TestGiveWhatIsNotTaken(t *testing.T) {
	for _, start := range []int{1, lastStart} {
		s := api.Share{Cells: [3]int{2, 2, 2}, Start: start}
		l, m := made(t, s), newSheet(s)
		refuse := func(cell int) {
			t.Helper()
			for range 2 {
				if gone, e := l.Give(cell); gone || e != api.ErrNone {
					t.Errorf("Start %d: Give of cell %d: %v, error %d, want false, ErrNone", start, cell, gone, e)
				}
			}
			same(t, l, m)
		}
		for cell := range 6 {
			refuse(cell)
		}
		for class := range 3 {
			takeBoth(t, l, m, class)
			giveBoth(t, l, m, 2*class)
			refuse(2 * class)
			refuse(2*class + 1)
		}
		for class := range 3 {
			for range 3 {
				takeBoth(t, l, m, class)
			}
		}
	}
}

// P6.1, rule 8: a nil list.
func TestNilList(t *testing.T) {
	var l *free.List
	for _, n := range append(absentClasses(), 0, 1, 2, 5) {
		if cell, e := l.Take(n); cell != 0 || e != api.ErrArg {
			t.Errorf("Take of %d: %d, error %d", n, cell, e)
		}
		if gone, e := l.Give(n); gone || e != api.ErrArg {
			t.Errorf("Give of %d: %v, error %d", n, gone, e)
		}
		if l.Gen(n) != 0 || l.Taken(n) || l.Free(n) != 0 || l.Retired(n) != 0 {
			t.Errorf("%d: Gen %d, Taken %v, %d free, %d retired", n, l.Gen(n), l.Taken(n), l.Free(n), l.Retired(n))
		}
	}
}

// walk does many acts of all kinds, wrong ones among them, holds each against the sheet, and tells what was taken.
func walk(t *testing.T, s api.Share, seed uint64, tell func(class, cell int, e api.Errno)) {
	t.Helper()
	l, m := made(t, s), newSheet(s)
	for range 600 {
		switch next(&seed) % 9 {
		case 0, 1, 2, 3:
			class := next(&seed) % 3
			want, wantErr := m.take(class)
			cell, e := l.Take(class)
			if cell != want || e != wantErr {
				t.Fatalf("%v: Take of class %d: %d, error %d, want %d, %d", s, class, cell, e, want, wantErr)
			}
			tell(class, cell, e)
		case 4, 5, 6:
			giveBoth(t, l, m, next(&seed)%(count(s)+1))
		case 7:
			giveBoth(t, l, m, absentCells(s)[next(&seed)%len(absentCells(s))])
		case 8:
			takeBoth(t, l, m, absentClasses()[next(&seed)%len(absentClasses())])
		}
		same(t, l, m)
	}
}

// P6.1, rule 3: through many acts, a list tells what the sheet does: acts with errors change nothing that a later one tells.
func TestManyActs(t *testing.T) {
	for _, s := range shares() {
		for seed := range uint64(4) {
			walk(t, s, seed, func(int, int, api.Errno) {})
		}
	}
}

// P6.2: no cell is taken twice, unless it was given between, no pair of a cell and a generation ever, and each cell is just one of free, taken, and retired.
func TestOnce(t *testing.T) {
	for _, s := range shares() {
		for seed := range uint64(4) {
			l := made(t, s)
			pairs := map[[2]int]bool{}
			held := map[int]bool{}
			retired := map[int]bool{}
			at := seed
			for range 600 {
				if class := next(&at) % 3; next(&at)%2 == 0 {
					cell, e := l.Take(class)
					if e != api.OK {
						continue
					}
					pair := [2]int{cell, l.Gen(cell)}
					if held[cell] || pairs[pair] || retired[cell] || classOf(s, cell) != class {
						t.Fatalf("%v: class %d: cell %d, generation %d, is taken: held %v, taken so before %v, retired %v", s, class, cell, pair[1], held[cell], pairs[pair], retired[cell])
					}
					held[cell], pairs[pair] = true, true
				} else if count(s) > 0 {
					cell := next(&at) % count(s)
					gone, e := l.Give(cell)
					if (e == api.OK) != held[cell] {
						t.Fatalf("%v: cell %d: error %d, though held is %v", s, cell, e, held[cell])
					}
					retired[cell] = retired[cell] || gone
					delete(held, cell)
				}
				each(t, l, s, held, retired)
			}
		}
	}
}

// each holds it that each cell is just one of the three, and that a retired one has the greatest generation, no other one.
func each(t *testing.T, l *free.List, s api.Share, held, retired map[int]bool) {
	t.Helper()
	var taken, gone [3]int
	for cell := range count(s) {
		if l.Taken(cell) != held[cell] || l.Taken(cell) && retired[cell] {
			t.Fatalf("%v: cell %d: Taken %v, held %v, retired %v", s, cell, l.Taken(cell), held[cell], retired[cell])
		}
		if (l.Gen(cell) == greatest) != retired[cell] || l.Gen(cell) > greatest || l.Gen(cell) < s.Start {
			t.Fatalf("%v: cell %d: Gen %d, retired %v", s, cell, l.Gen(cell), retired[cell])
		}
		if held[cell] {
			taken[classOf(s, cell)]++
		}
		if retired[cell] {
			gone[classOf(s, cell)]++
		}
	}
	for class := range 3 {
		if l.Retired(class) != gone[class] || l.Free(class)+taken[class]+gone[class] != s.Cells[class] {
			t.Fatalf("%v, class %d: %d free, %d taken, %d retired (told: %d), of %d", s, class, l.Free(class), taken[class], gone[class], l.Retired(class), s.Cells[class])
		}
	}
}

// P2: what is done to one list is not seen in another one of the same share, and the same acts are answered alike.
func TestListsStandApart(t *testing.T) {
	for _, s := range shares() {
		a, m := made(t, s), newSheet(s)
		var first, second [][3]int
		walk(t, s, 9, func(class, cell int, e api.Errno) { first = append(first, [3]int{class, cell, int(e)}) })
		same(t, a, m)
		walk(t, s, 9, func(class, cell int, e api.Errno) { second = append(second, [3]int{class, cell, int(e)}) })
		if !slices.Equal(first, second) {
			t.Errorf("%v: the same acts were answered otherwise", s)
		}
		for class := range 3 {
			for range s.Cells[class] + 1 {
				takeBoth(t, a, m, class)
			}
		}
		same(t, a, m)
	}
}

// P2: asking changes nothing.
func TestAskingChangesNothing(t *testing.T) {
	s := api.Share{Cells: [3]int{3, 3, 3}, Start: 5}
	l, m := made(t, s), newSheet(s)
	for class := range 3 {
		takeBoth(t, l, m, class)
	}
	for range 3 {
		same(t, l, m)
	}
	for class := range 3 {
		for range 3 {
			takeBoth(t, l, m, class)
		}
	}
}
