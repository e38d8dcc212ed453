package conf_test

import (
	"math"
	"slices"
	"testing"

	"socage/api"
	"socage/conf"
)

const (
	lastStart = 1<<32 - 2
	mostQuota = 1 << 16
)

// ordinary is the share of the document's first example.
func ordinary() api.Share {
	return api.Share{Cells: [3]int{2, 1, 3}, Quota: 9, Start: 1}
}

// rightShares are ordinary ones, and such as stand at the edges of what may be.
func rightShares() []api.Share {
	return []api.Share{
		ordinary(),
		{Cells: [3]int{5, 7, 11}, Quota: 100, Start: 1000},
		{Start: 1},
		{Start: lastStart},
		{Quota: mostQuota, Start: 1},
		{Cells: [3]int{64, 64, 64}, Quota: mostQuota, Start: lastStart},
		{Cells: [3]int{64, 0, 0}, Start: 1},
		{Cells: [3]int{0, 64, 0}, Start: 1},
		{Cells: [3]int{0, 0, 64}, Start: 1},
		{Cells: [3]int{1, 0, 0}, Start: 1},
		{Cells: [3]int{0, 1, 0}, Start: 1},
		{Cells: [3]int{0, 0, 1}, Start: 1},
		{Cells: [3]int{63, 0, 1}, Quota: 1, Start: 2},
	}
}

// wrongShares have one thing each that may not be.
func wrongShares() []api.Share {
	l := []api.Share{{}}
	for _, start := range []int{math.MinInt, -1, 0, lastStart + 1, lastStart + 2, math.MaxInt} {
		s := ordinary()
		s.Start = start
		l = append(l, s)
	}
	for _, quota := range []int{math.MinInt, -1, mostQuota + 1, math.MaxInt} {
		s := ordinary()
		s.Quota = quota
		l = append(l, s)
	}
	for class := range 3 {
		for _, n := range []int{math.MinInt, -1, 65, math.MaxInt} {
			s := ordinary()
			s.Cells[class] = n
			l = append(l, s)
		}
	}
	return l
}

func many(n int, s api.Share) []api.Share {
	return slices.Repeat([]api.Share{s}, n)
}

// P1.1: Slots and Size, with classes that there are not.
func TestClasses(t *testing.T) {
	for class, want := range map[int][2]int{0: {1, 2}, 1: {2, 3}, 2: {4, 5}, 3: {}, 4: {}, -1: {}, math.MinInt: {}, math.MaxInt: {}} {
		if got := [2]int{conf.Slots(class), conf.Size(class)}; got != want {
			t.Errorf("class %d: %v, want %v", class, got, want)
		}
	}
}

// P1.1: the shares that may be, with each field at its edges.
func TestRightShares(t *testing.T) {
	for _, s := range rightShares() {
		if !conf.Right([]api.Share{s}) {
			t.Errorf("%v is refused", s)
		}
		if got, want := conf.Count(s), s.Cells[0]+s.Cells[1]+s.Cells[2]; got != want {
			t.Errorf("Count of %v: %d, want %d", s, got, want)
		}
		if got, want := conf.Words(s), 2*s.Cells[0]+3*s.Cells[1]+5*s.Cells[2]; got != want {
			t.Errorf("Words of %v: %d, want %d", s, got, want)
		}
	}
}

// P1.1: what is told of shares that may not be.
func TestWrongShares(t *testing.T) {
	for _, s := range wrongShares() {
		if conf.Right([]api.Share{s}) || conf.Right([]api.Share{ordinary(), s}) || conf.Right([]api.Share{s, ordinary()}) {
			t.Errorf("%v is taken", s)
		}
		if conf.Count(s) != 0 || conf.Words(s) != 0 {
			t.Errorf("%v: Count %d, Words %d, want 0, 0", s, conf.Count(s), conf.Words(s))
		}
		for _, cell := range []int{-1, 0, 1, 5, 191, math.MinInt, math.MaxInt} {
			if conf.Class(s, cell) != -1 || conf.At(s, cell) != -1 {
				t.Errorf("%v, cell %d: Class %d, At %d, want -1, -1", s, cell, conf.Class(s, cell), conf.At(s, cell))
			}
		}
		for tenant := range 4 {
			if got := conf.Base([]api.Share{ordinary(), s}, tenant); got != -1 {
				t.Errorf("%v: Base of %d: %d, want -1", s, tenant, got)
			}
		}
	}
}

// P1.1: 1 to 16 shares are a configuration, none and 17 are not.
func TestHowManyShares(t *testing.T) {
	for n := range 20 {
		l := many(n, ordinary())
		want := n >= 1 && n <= 16
		if conf.Right(l) != want {
			t.Errorf("%d shares: Right %v, want %v", n, !want, want)
		}
		if !want && (conf.Base(l, 1) != -1 || conf.Base(l, n) != -1) {
			t.Errorf("%d shares: Base %d, %d, want -1", n, conf.Base(l, 1), conf.Base(l, n))
		}
	}
	if conf.Right(nil) || conf.Base(nil, 0) != -1 || conf.Base(nil, 1) != -1 {
		t.Error("a nil list is taken")
	}
}

// P1.1: Class and At of an ordinary share, and of cells that there are not.
func TestCells(t *testing.T) {
	s := ordinary()
	for cell, want := range [][2]int{{0, 0}, {0, 2}, {1, 4}, {2, 7}, {2, 12}, {2, 17}} {
		if got := [2]int{conf.Class(s, cell), conf.At(s, cell)}; got != want {
			t.Errorf("cell %d: %v, want %v", cell, got, want)
		}
	}
	for _, s := range rightShares() {
		n := s.Cells[0] + s.Cells[1] + s.Cells[2]
		for _, cell := range []int{math.MinInt, -n - 1, -1, n, n + 1, math.MaxInt - 1, math.MaxInt} {
			if conf.Class(s, cell) != -1 || conf.At(s, cell) != -1 {
				t.Errorf("%v, cell %d: Class %d, At %d, want -1, -1", s, cell, conf.Class(s, cell), conf.At(s, cell))
			}
		}
	}
}

// P1.1: Base of an ordinary configuration, and of tenants that there are not.
func TestBase(t *testing.T) {
	l := []api.Share{ordinary(), {Cells: [3]int{0, 0, 64}, Quota: mostQuota, Start: lastStart}, {Start: 1}, ordinary()}
	for tenant, want := range map[int]int{1: 0, 2: 22, 3: 342, 4: 342, 0: -1, 5: -1, -1: -1, math.MinInt: -1, math.MaxInt: -1} {
		if got := conf.Base(l, tenant); got != want {
			t.Errorf("Base of %d: %d, want %d", tenant, got, want)
		}
	}
	greatest := api.Share{Cells: [3]int{64, 64, 64}, Start: 1}
	for tenant, want := range map[int]int{1: 0, 2: 640, 16: 9600, 17: -1} {
		if got := conf.Base(many(16, greatest), tenant); got != want {
			t.Errorf("Base of %d among 16: %d, want %d", tenant, got, want)
		}
	}
}

// P1.2: each word of a share is one cell's, in the order of the cells and of their classes.
func TestEachWordIsOneCells(t *testing.T) {
	for _, s := range rightShares() {
		owner := map[int]int{}
		class := 0
		for cell := range conf.Count(s) {
			if conf.Class(s, cell) < class {
				t.Errorf("%v: cell %d has a lesser class than the one ahead", s, cell)
			}
			class = conf.Class(s, cell)
			for i := range conf.Size(class) {
				at := conf.At(s, cell) + i
				if other, ok := owner[at]; ok {
					t.Errorf("%v: word %d is that of cells %d and %d", s, at, other, cell)
				}
				owner[at] = cell
			}
		}
		if len(owner) != conf.Words(s) {
			t.Errorf("%v: %d words are cells', of %d", s, len(owner), conf.Words(s))
		}
		for at := range conf.Words(s) {
			if _, ok := owner[at]; !ok {
				t.Errorf("%v: word %d is no cell's", s, at)
			}
		}
	}
}

// P1.2: there are just so many cells of a class as the share has.
func TestEachClassHasItsCells(t *testing.T) {
	for _, s := range rightShares() {
		var got [3]int
		for cell := range conf.Count(s) {
			got[conf.Class(s, cell)]++
		}
		if got != s.Cells {
			t.Errorf("cells by classes: %v, want %v", got, s.Cells)
		}
	}
}

// P1.2: a tenant's words begin where those of the one ahead end.
func TestTenantsStandApart(t *testing.T) {
	l := rightShares()
	for n := 1; n <= len(l); n++ {
		end := 0
		for i, s := range l[:n] {
			if got := conf.Base(l[:n], i+1); got != end {
				t.Errorf("%d tenants: Base of %d: %d, want %d", n, i+1, got, end)
			}
			end += conf.Words(s)
		}
	}
}

// P1, P2, rule 4: a list is neither written into, nor read behind its length, and the same calls tell the same.
func TestListIsLeftAsItIs(t *testing.T) {
	whole := []api.Share{ordinary(), {Cells: [3]int{1, 2, 3}, Quota: 7, Start: 5}, {Start: -1}}
	before := slices.Clone(whole)
	l := whole[:2]
	for range 2 {
		if !conf.Right(l) || conf.Base(l, 1) != 0 || conf.Base(l, 2) != 22 || conf.Base(l, 3) != -1 {
			t.Errorf("%v %d %d %d", conf.Right(l), conf.Base(l, 1), conf.Base(l, 2), conf.Base(l, 3))
		}
	}
	if !slices.Equal(whole, before) {
		t.Errorf("the list was written into: %v", whole)
	}
}
