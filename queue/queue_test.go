package queue_test

import (
	"math"
	"slices"
	"testing"

	"socage/api"
	"socage/queue"
)

const (
	many = 192
	last = many - 1
)

// entry is a cell, and how often it was pushed.
type entry struct{ cell, times int }

// sheet is what a queue ought to have, reckoned otherwise: its entries in a row, the first one first.
type sheet struct{ row []entry }

func (m *sheet) push(cell int) {
	for i := range m.row {
		if m.row[i].cell == cell {
			m.row[i].times++
			return
		}
	}
	m.row = append(m.row, entry{cell, 1})
}

func (m *sheet) pop() (entry, bool) {
	if len(m.row) == 0 {
		return entry{}, false
	}
	first := m.row[0]
	m.row = append([]entry{}, m.row[1:]...)
	return first, true
}

func (m *sheet) cells() []int {
	var l []int
	for _, x := range m.row {
		l = append(l, x.cell)
	}
	return l
}

// same holds all that a queue tells without being changed against the sheet.
func same(t *testing.T, q *queue.Queue, m *sheet) {
	t.Helper()
	if l, want := q.All(), m.cells(); !slices.Equal(l, want) {
		t.Fatalf("All: %v, want %v", l, want)
	}
	var want [many]int
	for _, x := range m.row {
		want[x.cell] = x.times
	}
	for cell, n := range want {
		if got := q.Pending(cell); got != n {
			t.Fatalf("Pending of %d: %d, want %d", cell, got, n)
		}
	}
}

// pushBoth and popBoth do the same to a queue and its sheet, and hold all that it tells then against it.
func pushBoth(t *testing.T, q *queue.Queue, m *sheet, cell int) {
	t.Helper()
	if e := q.Push(cell); e != api.OK {
		t.Fatalf("Push of %d: error %d", cell, e)
	}
	m.push(cell)
	same(t, q, m)
}

func popBoth(t *testing.T, q *queue.Queue, m *sheet) (int, int, bool) {
	t.Helper()
	want, be := m.pop()
	cell, n, is := q.Pop()
	if cell != want.cell || n != want.times || is != be {
		t.Fatalf("Pop: %d, %d, %v, want %d, %d, %v", cell, n, is, want.cell, want.times, be)
	}
	same(t, q, m)
	return cell, n, is
}

func made(t *testing.T, cells ...int) (*queue.Queue, *sheet) {
	t.Helper()
	q, m := queue.New(), &sheet{}
	if q == nil {
		t.Fatal("New: nil")
	}
	for _, cell := range cells {
		pushBoth(t, q, m, cell)
	}
	return q, m
}

func absent() []int {
	return []int{math.MinInt, math.MinInt + 1, -1 << 32, -1<<32 + 4, -many, -192 + 4, -2, -1, many, many + 1, many + 4, 255, 256, 256 + 4, 1 << 16, 1<<16 + 4, 1 << 32, 1<<32 + 4, math.MaxInt - 1, math.MaxInt}
}

// orders are all cells, each once, in several orders.
func orders() [][]int {
	var rising, falling, leaping, pairs []int
	for i := range many {
		rising = append(rising, i)
		falling = append(falling, last-i)
		leaping = append(leaping, i*77%many)
		pairs = append(pairs, i^1)
	}
	return [][]int{rising, falling, leaping, pairs}
}

// next is a number that looks like any: the same ones come in each run.
func next(seed *uint64) int {
	*seed = *seed*6364136223846793005 + 1442695040888963407
	return int(*seed >> 33)
}

// P9.1: a new queue has no cells; popping it tells so, as often as it is asked, and changes nothing.
func TestNew(t *testing.T) {
	q, m := made(t)
	same(t, q, m)
	for range 3 {
		if cell, n, is := q.Pop(); cell != 0 || n != 0 || is {
			t.Errorf("Pop: %d, %d, %v, want 0, 0, false", cell, n, is)
		}
		if l := q.All(); len(l) != 0 {
			t.Errorf("All: %v", l)
		}
		same(t, q, m)
	}
	pushBoth(t, q, m, 0)
	popBoth(t, q, m)
	popBoth(t, q, m)
}

// P9.1: cells written out by hand, pushed, popped, and pushed again.
func TestOrdinary(t *testing.T) {
	q := queue.New()
	push := func(cell, want int) {
		t.Helper()
		if e := q.Push(cell); e != api.OK || q.Pending(cell) != want {
			t.Errorf("Push of %d: error %d; Pending %d, want %d", cell, e, q.Pending(cell), want)
		}
	}
	pop := func(cell, times int) {
		t.Helper()
		if c, n, is := q.Pop(); c != cell || n != times || !is || q.Pending(cell) != 0 {
			t.Errorf("Pop: %d, %d, %v, want %d, %d; Pending %d", c, n, is, cell, times, q.Pending(cell))
		}
	}
	has := func(want ...int) {
		t.Helper()
		if l := q.All(); !slices.Equal(l, want) {
			t.Errorf("All: %v, want %v", l, want)
		}
	}
	push(70, 1)
	has(70)
	push(7, 1)
	push(130, 1)
	has(70, 7, 130)
	push(7, 2)
	push(70, 2)
	push(7, 3)
	has(70, 7, 130)
	pop(70, 2)
	has(7, 130)
	push(70, 1)
	has(7, 130, 70)
	pop(7, 3)
	push(130, 2)
	push(8, 1)
	has(130, 70, 8)
	pop(130, 2)
	pop(70, 1)
	pop(8, 1)
	has()
	if c, n, is := q.Pop(); c != 0 || n != 0 || is {
		t.Errorf("Pop: %d, %d, %v, want 0, 0, false", c, n, is)
	}
	push(8, 1)
	has(8)
	pop(8, 1)
	has()
}

// P9.1: each cell alone, 0 and 191 among them: it is there once, however often it is pushed, gone when it is popped, and pushed once when it comes again.
func TestEachCellAlone(t *testing.T) {
	for cell := range many {
		q, m := made(t)
		for range 3 {
			for i := range 4 {
				pushBoth(t, q, m, cell)
				if l := q.All(); len(l) != 1 || l[0] != cell || q.Pending(cell) != i+1 {
					t.Fatalf("%d was pushed %d times: All %v, Pending %d", cell, i+1, l, q.Pending(cell))
				}
			}
			if c, n, is := popBoth(t, q, m); c != cell || n != 4 || !is {
				t.Fatalf("Pop: %d, %d, %v, want %d, 4, true", c, n, is, cell)
			}
			if c, n, is := popBoth(t, q, m); c != 0 || n != 0 || is {
				t.Fatalf("Pop, once more: %d, %d, %v, want 0, 0, false", c, n, is)
			}
		}
	}
}

// P9.1, P9.2: all cells are pushed in one order, and again in another one: they are popped in the first one.
func TestWholeQueues(t *testing.T) {
	for _, coming := range orders() {
		for _, again := range orders() {
			q, m := made(t, coming...)
			for i, cell := range again {
				if i%3 != 0 {
					pushBoth(t, q, m, cell)
				}
			}
			if !slices.Equal(q.All(), coming) {
				t.Fatalf("a queue of all: %v, want %v", q.All(), coming)
			}
			for _, cell := range coming {
				want := 2
				if slices.Index(again, cell)%3 == 0 {
					want = 1
				}
				if c, n, is := popBoth(t, q, m); c != cell || n != want || !is {
					t.Fatalf("Pop: %d, %d, %v, want %d, %d, true", c, n, is, cell, want)
				}
			}
			popBoth(t, q, m)
			pushBoth(t, q, m, again[0])
		}
	}
}

// P9.1: a cell that is pushed while it is there stays where it is, wherever that is, and the others stay as they were.
func TestPushedAgainWhileThere(t *testing.T) {
	for place := range 6 {
		cells := []int{64, last, 0, 63, 128, 5}
		q, m := made(t, cells...)
		for i := range 5 {
			pushBoth(t, q, m, cells[place])
			if !slices.Equal(q.All(), cells) || q.Pending(cells[place]) != i+2 {
				t.Fatalf("%d was pushed again: All %v, want %v; Pending %d, want %d", cells[place], q.All(), cells, q.Pending(cells[place]), i+2)
			}
		}
		for i, cell := range cells {
			want := 1
			if i == place {
				want = 6
			}
			if c, n, is := popBoth(t, q, m); c != cell || n != want || !is {
				t.Fatalf("Pop: %d, %d, %v, want %d, %d, true", c, n, is, cell, want)
			}
		}
	}
}

// P9.1: a cell that is pushed again behind it was popped comes behind all others, pushed once, however often it had been pushed.
func TestPushedAgainBehindPop(t *testing.T) {
	for _, cells := range orders() {
		q, m := made(t, cells...)
		for _, cell := range cells {
			pushBoth(t, q, m, cells[0])
			pushBoth(t, q, m, cell)
			if c, n, is := popBoth(t, q, m); c != cell || n < 2 || !is {
				t.Fatalf("Pop: %d, %d, %v, want %d", c, n, is, cell)
			}
			pushBoth(t, q, m, cell)
			if l := q.All(); l[len(l)-1] != cell || len(l) != many || q.Pending(cell) != 1 {
				t.Fatalf("%d was pushed behind its Pop: All %v, Pending %d", cell, l, q.Pending(cell))
			}
		}
		if !slices.Equal(q.All(), cells) {
			t.Fatalf("all came round: %v, want %v", q.All(), cells)
		}
	}
}

// P9.2: a cell is pushed more often than a short number could tell.
func TestPushedVeryOften(t *testing.T) {
	q, m := made(t, 9, 4, last)
	const often = 1<<17 + 3
	for range often {
		if e := q.Push(4); e != api.OK {
			t.Fatalf("Push: error %d", e)
		}
		m.push(4)
	}
	same(t, q, m)
	popBoth(t, q, m)
	if c, n, is := popBoth(t, q, m); c != 4 || n != often+1 || !is {
		t.Errorf("Pop: %d, %d, %v, want 4, %d, true", c, n, is, often+1)
	}
	popBoth(t, q, m)
}

// P9.2: cells come and go through one queue for long, with few of them there at a time, or nearly all.
func TestLongLife(t *testing.T) {
	for _, there := range []int{0, 1, 2, 7, last} {
		q, m := made(t, orders()[2][:there]...)
		for i := range 5 * many {
			cell := (there + i) * 77 % many
			pushBoth(t, q, m, cell)
			if c, n, is := popBoth(t, q, m); c != i*77%many || n != 1 || !is {
				t.Fatalf("Pop: %d, %d, %v, want %d, 1, true", c, n, is, i*77%many)
			}
		}
	}
}

// P9.1, P1, rule 3: cells that there are not, pushed into queues without cells, with some, and with all: nothing is changed.
func TestCellsThatAreNot(t *testing.T) {
	for _, cells := range [][]int{nil, {0}, {last}, {4, 4, 0, last, 4}, {64, 128, 127, 63}, orders()[2]} {
		q, m := made(t, cells...)
		for _, cell := range absent() {
			for range 2 {
				if e := q.Push(cell); e != api.ErrArg {
					t.Errorf("%v: Push of %d: error %d, want ErrArg", cells, cell, e)
				}
				if n := q.Pending(cell); n != 0 {
					t.Errorf("%v: Pending of %d: %d, want 0", cells, cell, n)
				}
			}
			same(t, q, m)
		}
		for range len(cells) + 1 {
			popBoth(t, q, m)
		}
		if e := q.Push(many); e != api.ErrArg {
			t.Errorf("Push of %d into what was popped: error %d, want ErrArg", many, e)
		}
		popBoth(t, q, m)
	}
}

// P9.1, rule 3: Pop of a queue without cells, a new one or one whose cells are all popped, changes nothing: what is pushed then comes as ever.
func TestPopOfNone(t *testing.T) {
	for _, cells := range [][]int{nil, {0}, {last, last}, {3, 5, 3}, orders()[1]} {
		q, m := made(t, cells...)
		for range many {
			popBoth(t, q, m)
		}
		for range 3 {
			if cell, n, is := popBoth(t, q, m); cell != 0 || n != 0 || is {
				t.Errorf("%v: Pop: %d, %d, %v, want 0, 0, false", cells, cell, n, is)
			}
		}
		for _, cell := range []int{5, 0, 5, last} {
			pushBoth(t, q, m, cell)
		}
		if c, n, is := popBoth(t, q, m); c != 5 || n != 2 || !is {
			t.Errorf("%v: Pop: %d, %d, %v, want 5, 2, true", cells, c, n, is)
		}
	}
}

// P9.1, rule 8: a nil queue, which is named ahead of what else is wrong.
func TestNilQueue(t *testing.T) {
	var q *queue.Queue
	for range 2 {
		for _, cell := range append(absent(), 0, 1, 4, last) {
			if e := q.Push(cell); e != api.ErrArg {
				t.Errorf("Push of %d: error %d, want ErrArg", cell, e)
			}
			if n := q.Pending(cell); n != 0 {
				t.Errorf("Pending of %d: %d, want 0", cell, n)
			}
		}
		if cell, n, is := q.Pop(); cell != 0 || n != 0 || is {
			t.Errorf("Pop: %d, %d, %v, want 0, 0, false", cell, n, is)
		}
		if l := q.All(); len(l) != 0 {
			t.Errorf("All: %v", l)
		}
	}
}

// act does an act of any kind to a queue and its sheet: wrong cells are refused, right ones pushed, the first one popped.
func act(t *testing.T, q *queue.Queue, m *sheet, seed *uint64) {
	t.Helper()
	switch kind := next(seed) % 12; {
	case kind < 4:
		pushBoth(t, q, m, next(seed)%many)
	case kind < 7:
		pushBoth(t, q, m, next(seed)%8*27)
	case kind < 11:
		popBoth(t, q, m)
	default:
		cell := absent()[next(seed)%len(absent())]
		if e := q.Push(cell); e != api.ErrArg || q.Pending(cell) != 0 {
			t.Fatalf("Push of %d: error %d; Pending %d", cell, e, q.Pending(cell))
		}
		same(t, q, m)
	}
}

// P9.1, P9.2: many acts of all kinds, each held against the sheet.
func TestManyActs(t *testing.T) {
	for seed := range uint64(8) {
		q, m := made(t)
		for range 2000 {
			act(t, q, m, &seed)
		}
		for len(m.row) > 0 {
			popBoth(t, q, m)
		}
		popBoth(t, q, m)
	}
}

// P9.2: the same, told by the acts alone: of each cell, as many as were pushed are pending, or were popped, and it stands in the queue once or not at all.
func TestNoneIsLost(t *testing.T) {
	for seed := range uint64(8) {
		q := queue.New()
		var pushed, popped [many]int
		pop := func() bool {
			cell, n, is := q.Pop()
			if is && n < 1 {
				t.Fatalf("Pop: %d, %d times", cell, n)
			}
			popped[cell] += n
			return is
		}
		for range 1500 {
			if next(&seed)%3 == 0 {
				pop()
			} else {
				cell := next(&seed) % 60 * 191 / 59
				if e := q.Push(cell); e != api.OK {
					t.Fatalf("Push of %d: error %d", cell, e)
				}
				pushed[cell]++
			}
			held(t, q, &pushed, &popped)
		}
		for pop() {
			held(t, q, &pushed, &popped)
		}
		if pushed != popped {
			t.Fatalf("pushed %v, popped %v", pushed, popped)
		}
	}
}

// held holds what is pending against what was pushed and popped, and All against what is pending.
func held(t *testing.T, q *queue.Queue, pushed, popped *[many]int) {
	t.Helper()
	var there [many]int
	for _, cell := range q.All() {
		there[cell]++
	}
	for cell := range many {
		n := q.Pending(cell)
		if pushed[cell] != popped[cell]+n {
			t.Fatalf("%d: %d pushed, %d popped, %d pending", cell, pushed[cell], popped[cell], n)
		}
		if there[cell] != min(n, 1) {
			t.Fatalf("%d: %d pending, but %d times in All", cell, n, there[cell])
		}
	}
}

// P9.2: who came first goes first: each coming of a cell has a number, and the numbers of those popped rise.
func TestFirstGoesFirst(t *testing.T) {
	for seed := range uint64(8) {
		q := queue.New()
		var came [many]int
		number, before := 0, 0
		for range 1500 {
			if next(&seed)%5 > 1 {
				cell := next(&seed) % many
				if q.Pending(cell) == 0 {
					number++
					came[cell] = number
				}
				q.Push(cell)
				continue
			}
			if cell, _, is := q.Pop(); is {
				if came[cell] <= before {
					t.Fatalf("Pop: %d, the coming %d, behind the coming %d", cell, came[cell], before)
				}
				before = came[cell]
			}
		}
	}
}

// P2: what is done to one queue is not seen in another one, and the same acts are answered alike.
func TestQueuesStandApart(t *testing.T) {
	a, ma := made(t, 0, 5, last, 5)
	b, mb := made(t)
	same(t, b, mb)
	pushBoth(t, b, mb, 6)
	pushBoth(t, b, mb, 5)
	same(t, a, ma)
	popBoth(t, a, ma)
	same(t, b, mb)
	seedA, seedB := uint64(1), uint64(2)
	for range 300 {
		act(t, a, ma, &seedA)
		act(t, b, mb, &seedB)
		same(t, a, ma)
	}
	c, mc := made(t)
	d, md := made(t)
	seedC, seedD := uint64(3), uint64(3)
	for range 300 {
		act(t, c, mc, &seedC)
		act(t, d, md, &seedD)
		if !slices.Equal(c.All(), d.All()) {
			t.Fatalf("the same acts: %v, %v", c.All(), d.All())
		}
	}
	e, me := made(t)
	same(t, e, me)
}

// spoil writes into all of a list, and into what memory it has behind its length.
func spoil(l []int) {
	l = l[:cap(l)]
	for i := range l {
		l[i] = 77 - i
	}
}

// P9.1, rule 4: what is written into an answer of All changes neither the queue nor another answer, and no act changes an answer of old.
func TestAnswersShareNothing(t *testing.T) {
	for _, cells := range [][]int{{9}, {9, 4, last, 0, 4}, {60, 50, 40, 30, 20}, orders()[1]} {
		q, m := made(t, cells...)
		want := m.cells()
		first, second := q.All(), q.All()
		spoil(first)
		if !slices.Equal(second, want) {
			t.Errorf("the second answer: %v, want %v", second, want)
		}
		same(t, q, m)
		spoil(second)
		same(t, q, m)
		third := q.All()
		popBoth(t, q, m)
		pushBoth(t, q, m, 100)
		spoil(append(q.All(), 1, 2, 3))
		same(t, q, m)
		for len(m.row) > 0 {
			popBoth(t, q, m)
		}
		spoil(q.All())
		same(t, q, m)
		for _, cell := range []int{101, 7, 102} {
			pushBoth(t, q, m, cell)
		}
		if !slices.Equal(third, want) {
			t.Errorf("an answer of old: %v, want %v", third, want)
		}
	}
}

// P2: asking changes nothing, and what is asked twice is answered alike.
func TestAskingChangesNothing(t *testing.T) {
	q, m := made(t, 17, 3, 190, 64, 3)
	for range 50 {
		same(t, q, m)
		for _, cell := range absent() {
			if n := q.Pending(cell); n != 0 {
				t.Errorf("Pending of %d: %d, want 0", cell, n)
			}
		}
	}
	for range 5 {
		popBoth(t, q, m)
	}
}
