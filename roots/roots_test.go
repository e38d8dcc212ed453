package roots_test

import (
	"math"
	"slices"
	"testing"

	"socage/api"
	"socage/roots"
)

const (
	many = 192
	last = many - 1
)

// sheet is what a set ought to have, reckoned otherwise: one place for each number.
type sheet [many]bool

func (m *sheet) list() []int {
	var l []int
	for cell, is := range m {
		if is {
			l = append(l, cell)
		}
	}
	return l
}

// same holds all that a set tells without being changed against the sheet.
func same(t *testing.T, s *roots.Set, m *sheet) {
	t.Helper()
	want := m.list()
	if l := s.All(); !slices.Equal(l, want) || s.Len() != len(want) {
		t.Fatalf("All: %v, Len %d, want %v", l, s.Len(), want)
	}
	for cell, is := range m {
		if s.Has(cell) != is {
			t.Fatalf("Has of %d: %v, want %v", cell, !is, is)
		}
	}
}

// addBoth and dropBoth do the same to a set and its sheet, and hold all that it tells then against it.
func addBoth(t *testing.T, s *roots.Set, m *sheet, cell int) {
	t.Helper()
	if added, e := s.Add(cell); added == m[cell] || e != api.OK {
		t.Fatalf("Add of %d: %v, error %d, though it had it: %v", cell, added, e, m[cell])
	}
	m[cell] = true
	same(t, s, m)
}

func dropBoth(t *testing.T, s *roots.Set, m *sheet, cell int) {
	t.Helper()
	want := api.ErrNone
	if m[cell] {
		want = api.OK
	}
	if e := s.Drop(cell); e != want {
		t.Fatalf("Drop of %d: error %d, want %d", cell, e, want)
	}
	m[cell] = false
	same(t, s, m)
}

func made(t *testing.T, cells ...int) (*roots.Set, *sheet) {
	t.Helper()
	s, m := roots.New(), &sheet{}
	if s == nil {
		t.Fatal("New: nil")
	}
	for _, cell := range cells {
		addBoth(t, s, m, cell)
	}
	return s, m
}

func absent() []int {
	return []int{math.MinInt, math.MinInt + 1, -1 << 32, -1<<32 + 4, -many, -192 + 4, -2, -1, many, many + 1, many + 4, 255, 256, 256 + 4, 1 << 16, 1<<16 + 4, 1 << 32, 1<<32 + 4, math.MaxInt - 1, math.MaxInt}
}

// orders are all cells, each once, in several orders.
func orders() [][]int {
	var rising, falling, leaping, pairs []int
	for i := range many {
		rising = append(rising, i)
		falling = append(falling, last-i)
		leaping = append(leaping, i*77%many)
		pairs = append(pairs, i^1)
	}
	return [][]int{rising, falling, leaping, pairs}
}

// next is a number that looks like any: the same ones come in each run.
func next(seed *uint64) int {
	*seed = *seed*6364136223846793005 + 1442695040888963407
	return int(*seed >> 33)
}

// P8.1: a new set has no cells.
func TestNew(t *testing.T) {
	s, m := made(t)
	same(t, s, m)
	if len(s.All()) != 0 || s.Len() != 0 {
		t.Errorf("All %v, Len %d", s.All(), s.Len())
	}
	for cell := range many {
		if e := s.Drop(cell); e != api.ErrNone {
			t.Errorf("Drop of %d: error %d, want ErrNone", cell, e)
		}
	}
	same(t, s, m)
}

// P8.1: cells written out by hand, added, dropped and added again.
func TestOrdinary(t *testing.T) {
	s := roots.New()
	add := func(cell int, want bool) {
		t.Helper()
		if added, e := s.Add(cell); added != want || e != api.OK || !s.Has(cell) {
			t.Errorf("Add of %d: %v, error %d, want %v; Has %v", cell, added, e, want, s.Has(cell))
		}
	}
	drop := func(cell int, want api.Errno) {
		t.Helper()
		if e := s.Drop(cell); e != want || s.Has(cell) {
			t.Errorf("Drop of %d: error %d, want %d; Has %v", cell, e, want, s.Has(cell))
		}
	}
	has := func(want ...int) {
		t.Helper()
		if l := s.All(); !slices.Equal(l, want) || s.Len() != len(want) {
			t.Errorf("All %v, Len %d, want %v", l, s.Len(), want)
		}
	}
	add(70, true)
	has(70)
	add(7, true)
	has(7, 70)
	add(130, true)
	has(7, 70, 130)
	add(70, false)
	has(7, 70, 130)
	drop(7, api.OK)
	has(70, 130)
	drop(7, api.ErrNone)
	has(70, 130)
	drop(8, api.ErrNone)
	has(70, 130)
	add(8, true)
	add(7, true)
	has(7, 8, 70, 130)
	drop(130, api.OK)
	drop(70, api.OK)
	has(7, 8)
	add(130, true)
	has(7, 8, 130)
	drop(8, api.OK)
	drop(130, api.OK)
	drop(7, api.OK)
	has()
	add(7, true)
	has(7)
}

// P8.1: each cell alone, the first and the last one among them: it is there once, however often it is added, gone when it is dropped once, and new when it is added again.
func TestEachCellAlone(t *testing.T) {
	for cell := range many {
		s, m := made(t)
		for range 3 {
			for i := range 4 {
				if added, e := s.Add(cell); added != (i == 0) || e != api.OK {
					t.Fatalf("Add of %d, time %d: %v, error %d", cell, i, added, e)
				}
				if l := s.All(); len(l) != 1 || l[0] != cell || s.Len() != 1 {
					t.Fatalf("%d was added %d times: All %v, Len %d", cell, i+1, l, s.Len())
				}
			}
			m[cell] = true
			same(t, s, m)
			if e := s.Drop(cell); e != api.OK {
				t.Fatalf("Drop of %d: error %d", cell, e)
			}
			m[cell] = false
			same(t, s, m)
			if e := s.Drop(cell); e != api.ErrNone {
				t.Fatalf("Drop of %d, once more: error %d, want ErrNone", cell, e)
			}
			same(t, s, m)
		}
	}
}

// P8.1, P8.2: all cells are added in several orders, each twice, and dropped in several orders: All rises all the while.
func TestWholeSets(t *testing.T) {
	for _, adding := range orders() {
		for _, dropping := range orders() {
			s, m := made(t, adding...)
			if s.Len() != many || !slices.Equal(s.All(), orders()[0]) {
				t.Fatalf("a set of all: Len %d, All %v", s.Len(), s.All())
			}
			for _, cell := range adding {
				if added, e := s.Add(cell); added || e != api.OK {
					t.Fatalf("Add of %d to a set of all: %v, error %d", cell, added, e)
				}
			}
			same(t, s, m)
			for _, cell := range dropping {
				dropBoth(t, s, m, cell)
			}
			if s.Len() != 0 || len(s.All()) != 0 {
				t.Fatalf("all are dropped: Len %d, All %v", s.Len(), s.All())
			}
			addBoth(t, s, m, adding[0])
		}
	}
}

// P8.1, P1, rule 3: cells that there are not, asked of sets without cells, with some, and with all: nothing is changed.
func TestCellsThatAreNot(t *testing.T) {
	for _, cells := range [][]int{nil, {0}, {last}, {0, 4, last}, {64, 128, 127, 63}, orders()[2]} {
		s, m := made(t, cells...)
		for _, cell := range absent() {
			for range 2 {
				if added, e := s.Add(cell); added || e != api.ErrArg {
					t.Errorf("%v: Add of %d: %v, error %d, want false, ErrArg", cells, cell, added, e)
				}
				if s.Has(cell) {
					t.Errorf("%v: Has of %d, that was refused", cells, cell)
				}
				if e := s.Drop(cell); e != api.ErrArg {
					t.Errorf("%v: Drop of %d: error %d, want ErrArg", cells, cell, e)
				}
			}
			same(t, s, m)
		}
		for _, cell := range cells {
			dropBoth(t, s, m, cell)
		}
	}
}

// P8.1, rule 3: a cell that the set hasn't can't be dropped, and trying it changes nothing: it is new still when it is added.
func TestDropOfWhatIsNotThere(t *testing.T) {
	for _, cells := range [][]int{nil, {0}, {last}, {3, 5}, orders()[1][1:], orders()[0][1:]} {
		s, m := made(t, cells...)
		for cell := range many {
			if m[cell] {
				continue
			}
			for range 2 {
				if e := s.Drop(cell); e != api.ErrNone {
					t.Errorf("%v: Drop of %d: error %d, want ErrNone", cells, cell, e)
				}
				same(t, s, m)
			}
			addBoth(t, s, m, cell)
			dropBoth(t, s, m, cell)
		}
	}
}

// P8.1, rule 8: a nil set, which is named ahead of what else is wrong.
func TestNilSet(t *testing.T) {
	var s *roots.Set
	for range 2 {
		for _, cell := range append(absent(), 0, 1, 4, last) {
			if added, e := s.Add(cell); added || e != api.ErrArg {
				t.Errorf("Add of %d: %v, error %d, want false, ErrArg", cell, added, e)
			}
			if e := s.Drop(cell); e != api.ErrArg {
				t.Errorf("Drop of %d: error %d, want ErrArg", cell, e)
			}
			if s.Has(cell) {
				t.Errorf("Has of %d", cell)
			}
		}
		if len(s.All()) != 0 || s.Len() != 0 {
			t.Errorf("All %v, Len %d", s.All(), s.Len())
		}
	}
}

// act does an act of any kind to a set and its sheet: wrong cells are refused, right ones added or dropped.
func act(t *testing.T, s *roots.Set, m *sheet, seed *uint64) {
	t.Helper()
	switch next(seed) % 6 {
	case 0, 1, 2:
		addBoth(t, s, m, next(seed)%many)
	case 3, 4:
		dropBoth(t, s, m, next(seed)%many)
	case 5:
		cell := absent()[next(seed)%len(absent())]
		if added, e := s.Add(cell); added || e != api.ErrArg || s.Drop(cell) != api.ErrArg || s.Has(cell) {
			t.Fatalf("Add of %d: %v, error %d; Drop %d, Has %v", cell, added, e, s.Drop(cell), s.Has(cell))
		}
		same(t, s, m)
	}
}

// P8.2: through many acts, a set has just what was added last, and not dropped since.
func TestManyActs(t *testing.T) {
	for seed := range uint64(8) {
		s, m := made(t)
		for range 2000 {
			act(t, s, m, &seed)
		}
	}
}

// P8.2: the same, told by the acts alone: of each cell the last act that went well counts.
func TestLastActCounts(t *testing.T) {
	type deed struct {
		cell  int
		added bool
	}
	for seed := range uint64(8) {
		s := roots.New()
		var deeds []deed
		for range 300 {
			cell := next(&seed) % 12 * 17
			if next(&seed)%2 == 0 {
				if _, e := s.Add(cell); e != api.OK {
					t.Fatalf("Add of %d: error %d", cell, e)
				}
				deeds = append(deeds, deed{cell, true})
			} else if s.Drop(cell) == api.OK {
				deeds = append(deeds, deed{cell, false})
			}
		}
		var want []int
		for cell := range many {
			for i := len(deeds) - 1; i >= 0; i-- {
				if deeds[i].cell == cell {
					if deeds[i].added {
						want = append(want, cell)
					}
					break
				}
			}
		}
		if !slices.Equal(s.All(), want) {
			t.Errorf("All %v, want %v", s.All(), want)
		}
	}
}

// P2: what is done to one set is not seen in another one, and the same acts are answered alike.
func TestSetsStandApart(t *testing.T) {
	a, ma := made(t, 0, 5, last)
	b, mb := made(t)
	same(t, b, mb)
	addBoth(t, b, mb, 5)
	addBoth(t, b, mb, 6)
	same(t, a, ma)
	dropBoth(t, a, ma, 5)
	same(t, b, mb)
	seedA, seedB := uint64(1), uint64(2)
	for range 300 {
		act(t, a, ma, &seedA)
		act(t, b, mb, &seedB)
		same(t, a, ma)
	}
	c, mc := made(t)
	d, md := made(t)
	seedC, seedD := uint64(3), uint64(3)
	for range 300 {
		act(t, c, mc, &seedC)
		act(t, d, md, &seedD)
		if !slices.Equal(c.All(), d.All()) {
			t.Fatalf("the same acts: %v, %v", c.All(), d.All())
		}
	}
	e, me := made(t)
	same(t, e, me)
}

// spoil writes into all of a list, and into what memory it has behind its length.
func spoil(l []int) {
	l = l[:cap(l)]
	for i := range l {
		l[i] = 77 - i
	}
}

// P8.1, rule 4: what is written into an answer of All changes neither the set nor another answer, and no act changes an answer of old.
func TestAnswersShareNothing(t *testing.T) {
	for _, cells := range [][]int{{9}, {9, 4, last, 0}, {60, 50, 40, 30, 20}, orders()[1]} {
		s, m := made(t, cells...)
		want := m.list()
		first, second := s.All(), s.All()
		spoil(first)
		if !slices.Equal(second, want) {
			t.Errorf("the second answer: %v, want %v", second, want)
		}
		same(t, s, m)
		spoil(second)
		same(t, s, m)
		third := s.All()
		dropBoth(t, s, m, cells[0])
		addBoth(t, s, m, cells[0])
		for _, cell := range cells {
			dropBoth(t, s, m, cell)
		}
		addBoth(t, s, m, 100)
		if !slices.Equal(third, want) {
			t.Errorf("an answer of old: %v, want %v", third, want)
		}
		fourth := append(s.All(), 1, 2, 3)
		spoil(fourth)
		same(t, s, m)
	}
}

// P2: asking changes nothing, and what is asked twice is answered alike.
func TestAskingChangesNothing(t *testing.T) {
	s, m := made(t, 17, 3, 190, 64)
	for range 50 {
		same(t, s, m)
		for _, cell := range absent() {
			if s.Has(cell) {
				t.Errorf("Has of %d", cell)
			}
		}
	}
}
