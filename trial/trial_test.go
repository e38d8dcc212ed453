package trial_test

import (
	"fmt"
	"math"
	"slices"
	"testing"

	"socage/api"
	"socage/graph"
	"socage/trial"
)

// of is a graph without roots: of each node its ID, and what it points to.
func of(nodes ...[]int) api.Graph {
	var g api.Graph
	for _, n := range nodes {
		g.Nodes = append(g.Nodes, api.Node{ID: n[0], Out: n[1:]})
	}
	return g
}

func idsOf(g api.Graph) []int {
	var l []int
	for _, n := range g.Nodes {
		l = append(l, n.ID)
	}
	return l
}

// outOf is what a node points to.
func outOf(g api.Graph, id int) []int {
	return g.Nodes[slices.Index(idsOf(g), id)].Out
}

// grayOf, restsOf and whiteOf reckon what ought to be told otherwise: gray ones are added till nothing is new; for each rest all Outs of gray ones are gone through; the white ones are what is left of the gray ones, when each one that is held is taken away, and then, again and again, what is pointed to by one that was.
func grayOf(g api.Graph, from []int) []int {
	var gray []int
	for more := slices.Clone(from); len(more) > 0; more = more[1:] {
		if !slices.Contains(gray, more[0]) {
			gray = append(gray, more[0])
			more = append(more, outOf(g, more[0])...)
		}
	}
	slices.Sort(gray)
	return gray
}

func restsOf(g api.Graph, counts, from []int) []int {
	var l []int
	gray := grayOf(g, from)
	for _, id := range gray {
		rest := counts[slices.Index(idsOf(g), id)]
		for _, by := range gray {
			for _, to := range outOf(g, by) {
				if to == id {
					rest--
				}
			}
		}
		l = append(l, rest)
	}
	return l
}

func whiteOf(g api.Graph, counts, from []int) []int {
	gray, rests := grayOf(g, from), restsOf(g, counts, from)
	left := slices.Clone(gray)
	for before := -1; before != len(left); {
		before = len(left)
		left = slices.DeleteFunc(left, func(id int) bool {
			if rests[slices.Index(gray, id)] > 0 {
				return true
			}
			return slices.ContainsFunc(gray, func(by int) bool {
				return !slices.Contains(left, by) && slices.Contains(outOf(g, by), id)
			})
		})
	}
	return left
}

// backed is a list's copy, with such behind its length as would be seen, if it were read.
func backed(l []int, behind ...int) []int {
	return append(append(make([]int, 0, len(l)+len(behind)), l...), behind...)[:len(l)]
}

// copied is a graph in memory of its own, each list of it backed.
func copied(g api.Graph) api.Graph {
	behind := append(idsOf(g), 3, -7)
	c := api.Graph{Roots: backed(g.Roots, behind...)}
	for _, n := range g.Nodes {
		c.Nodes = append(c.Nodes, api.Node{ID: n.ID, Out: backed(n.Out, behind...)})
	}
	c.Nodes = append(c.Nodes, api.Node{ID: 4, Out: backed(behind)}, api.Node{ID: -9})
	c.Nodes = c.Nodes[:len(g.Nodes)]
	return c
}

// memory is all that is handed in, what lies behind the lists' lengths too, and how long each list is.
func memory(g api.Graph, counts, from []int) []int {
	l := []int{len(counts), len(from), len(g.Roots), len(g.Nodes)}
	l = slices.Concat(l, counts[:cap(counts)], from[:cap(from)], g.Roots[:cap(g.Roots)])
	for _, n := range g.Nodes[:cap(g.Nodes)] {
		l = append(l, n.ID, len(n.Out))
		l = append(l, n.Out[:cap(n.Out)]...)
	}
	return l
}

// spoil writes into all of a list, and into what memory it has behind its length.
func spoil(l []int) {
	l = l[:cap(l)]
	for i := range l {
		l[i] = 77 - i
	}
}

// told holds what is told of a trial against what ought to be: twice, with the first answers spoiled, in copies that nobody may write into.
func told(t *testing.T, g api.Graph, counts, from, gray, rests, white []int, e api.Errno) {
	t.Helper()
	c, n, f := copied(g), backed(counts, 1, 0, -1), backed(from, append(idsOf(g), -1)...)
	before := memory(c, n, f)
	what := fmt.Sprintf("of %v, counts %v, from %v", g, counts, from)
	for range 2 {
		a, b := trial.Gray(c, f), trial.Rests(c, n, f)
		w, got := trial.White(c, n, f)
		if !slices.Equal(a, gray) {
			t.Fatalf("Gray %s: %v, want %v", what, a, gray)
		}
		if !slices.Equal(b, rests) {
			t.Fatalf("Rests %s: %v, want %v", what, b, rests)
		}
		if !slices.Equal(w, white) || got != e {
			t.Fatalf("White %s: %v, %d, want %v, %d", what, w, got, white, e)
		}
		spoil(a)
		if !slices.Equal(b, rests) || !slices.Equal(w, white) {
			t.Fatalf("%s: what Gray told is Rests' or White's too", what)
		}
		spoil(b)
		if !slices.Equal(w, white) {
			t.Fatalf("%s: what Rests told is White's too", what)
		}
		spoil(w)
		if !slices.Equal(memory(c, n, f), before) {
			t.Fatalf("%s: what was handed in was written into", what)
		}
	}
}

// is holds a trial that can be against what is written out by hand.
func is(t *testing.T, g api.Graph, counts, from, gray, rests, white []int) {
	t.Helper()
	told(t, g, counts, from, gray, rests, white, api.OK)
}

// same holds a trial that can be against what is reckoned otherwise.
func same(t *testing.T, g api.Graph, counts, from []int) {
	t.Helper()
	is(t, g, counts, from, grayOf(g, from), restsOf(g, counts, from), whiteOf(g, counts, from))
}

// wrong holds what can't be a trial, and of which Gray tells nothing either, against that.
func wrong(t *testing.T, g api.Graph, counts, from []int) {
	t.Helper()
	told(t, g, counts, from, nil, nil, nil, api.ErrArg)
}

// miscounted holds what can't be a trial for its counts alone against that: Gray has none to look at.
func miscounted(t *testing.T, g api.Graph, counts, from []int) {
	t.Helper()
	told(t, g, counts, from, grayOf(g, from), nil, nil, api.ErrArg)
}

// next is a number that looks like any: the same ones come in each run.
func next(seed *uint64) int {
	*seed = *seed*6364136223846793005 + 1442695040888963407
	return int(*seed >> 33)
}

// anyGraph is a graph that may be, of so many nodes, with about so many Outs each, and a root in so many.
func anyGraph(seed *uint64, nodes, outs, roots int) api.Graph {
	var g api.Graph
	id := next(seed) % 3
	for range nodes {
		g.Nodes = append(g.Nodes, api.Node{ID: id})
		id += 1 + next(seed)%3
	}
	for i := range g.Nodes {
		for range next(seed) % (2*outs + 1) {
			g.Nodes[i].Out = append(g.Nodes[i].Out, g.Nodes[next(seed)%nodes].ID)
		}
		if next(seed)%roots == 0 {
			g.Roots = append(g.Roots, g.Nodes[i].ID)
		}
	}
	return g
}

// someNodes are nodes' IDs, in any order, some several times.
func someNodes(seed *uint64, g api.Graph) []int {
	var l []int
	for range next(seed) % 6 {
		l = append(l, g.Nodes[next(seed)%len(g.Nodes)].ID)
	}
	return l
}

// changed are counts, some of which are less, or more, by at most so much, but none below 0.
func changed(seed *uint64, counts []int, less, more int) []int {
	l := slices.Clone(counts)
	for i := range l {
		if next(seed)%3 == 0 {
			l[i] = max(0, l[i]-less+next(seed)%(less+more+1))
		}
	}
	return l
}

// bits are the numbers of the bits that are set.
func bits(set int) []int {
	var l []int
	for i := range 16 {
		if set>>i&1 == 1 {
			l = append(l, i)
		}
	}
	return l
}

// ring is a ring of so many nodes, from an ID on.
func ring(first, n int) []api.Node {
	var l []api.Node
	for i := range n {
		l = append(l, api.Node{ID: first + i, Out: []int{first + (i+1)%n}})
	}
	return l
}

// strangers are no IDs of fork's.
func strangers() []int {
	return []int{math.MinInt, -1 << 32, -3, -1, 0, 1, 3, 8, 1 << 8, 1<<32 + 2, math.MaxInt - 1, math.MaxInt}
}

// fork is a graph with a ring of 2 and 5, which both point to 7, and 9, which points to 5 and 12.
func fork() api.Graph {
	return of([]int{2, 5, 7}, []int{5, 7, 2}, []int{7}, []int{9, 12, 5}, []int{12})
}

// P11.1: trials written out by hand: some of the gray ones are white, none is, all are.
func TestOrdinary(t *testing.T) {
	g, own := fork(), []int{1, 2, 2, 0, 1}
	is(t, g, own, []int{2}, []int{2, 5, 7}, []int{0, 1, 0}, nil)
	is(t, g, own, []int{9}, []int{2, 5, 7, 9, 12}, []int{0, 0, 0, 0, 0}, []int{2, 5, 7, 9, 12})
	is(t, g, own, []int{12}, []int{12}, []int{1}, nil)
	is(t, g, own, []int{5, 12}, []int{2, 5, 7, 12}, []int{0, 1, 0, 1}, nil)
	is(t, g, []int{1, 1, 2, 0, 1}, []int{5}, []int{2, 5, 7}, []int{0, 0, 0}, []int{2, 5, 7})
	is(t, g, []int{1, 1, 3, 0, 1}, []int{5}, []int{2, 5, 7}, []int{0, 0, 1}, []int{2, 5})
	is(t, g, []int{1, 1, 3, 0, 1}, []int{12, 5}, []int{2, 5, 7, 12}, []int{0, 0, 1, 1}, []int{2, 5})
	is(t, g, []int{1, 1, 3, 0, 0}, []int{12, 5}, []int{2, 5, 7, 12}, []int{0, 0, 1, 0}, []int{2, 5, 12})
	is(t, g, []int{1, 2, 2, 1, 1}, []int{9}, []int{2, 5, 7, 9, 12}, []int{0, 0, 0, 1, 0}, nil)
	is(t, g, []int{2, 2, 2, 0, 1}, []int{9}, []int{2, 5, 7, 9, 12}, []int{1, 0, 0, 0, 0}, []int{9, 12})
	is(t, g, []int{1, 2, 3, 0, 2}, []int{9}, []int{2, 5, 7, 9, 12}, []int{0, 0, 1, 0, 1}, []int{2, 5, 9})
}

// P11.1: a graph without nodes, and no counts: nothing is told, and that there can be such a trial; with a count, or a candidate, there can't be.
func TestWithoutNodes(t *testing.T) {
	for _, g := range []api.Graph{{}, {Nodes: []api.Node{}, Roots: []int{}}} {
		for _, none := range [][]int{nil, {}} {
			is(t, g, none, none, nil, nil, nil)
			if l, e := trial.White(g, none, none); e != api.OK || len(l)+len(trial.Gray(g, none))+len(trial.Rests(g, none, none)) != 0 {
				t.Errorf("White: %v, %d, want none, 0", l, e)
			}
			for _, l := range [][]int{{0}, {1, 0}, {-1}, {math.MaxInt}} {
				wrong(t, g, none, l)
				wrong(t, g, l, l)
				miscounted(t, g, l, none)
			}
		}
	}
}

// P11.1: without candidates nothing is gray, whatever the counts are.
func TestNoCandidates(t *testing.T) {
	for _, none := range [][]int{nil, {}} {
		for _, counts := range [][]int{{1, 2, 2, 0, 1}, {0, 0, 0, 0, 0}, {9, 9, 9, 9, 9}} {
			is(t, fork(), counts, none, nil, nil, nil)
		}
		miscounted(t, fork(), nil, none)
		miscounted(t, fork(), []int{1, 2, 2, 0}, none)
		miscounted(t, fork(), []int{1, 2, 2, 0, -1}, none)
		wrong(t, api.Graph{Roots: []int{1}}, nil, none)
	}
}

// P11.1: candidates in any order, several times, and such as are reached from another one: all tell the same.
func TestTheSameCandidates(t *testing.T) {
	g, counts := fork(), []int{1, 1, 3, 0, 2}
	for _, from := range [][]int{{5}, {2}, {2, 5}, {5, 2}, {5, 5, 5}, {2, 5, 2}, {7, 5}, {5, 7}, {7, 2, 7, 5, 2}} {
		is(t, g, counts, from, []int{2, 5, 7}, []int{0, 0, 1}, []int{2, 5})
	}
	counts[1] = 2
	for _, from := range [][]int{{9}, {9, 9}, {9, 12}, {12, 9}, {7, 9}, {9, 2, 9}, {12, 9, 7, 5, 2}, {2, 5, 7, 9, 12}, {12, 12, 9, 7, 9, 12}} {
		is(t, g, counts, from, []int{2, 5, 7, 9, 12}, []int{0, 0, 1, 0, 1}, []int{2, 5, 9})
	}
}

// P11.1: a node that points to itself, or not, with counts below, at, and above how often it does: it is white just if its rest isn't above 0.
func TestOneNode(t *testing.T) {
	for _, id := range []int{0, 1, 5, 1 << 40, math.MaxInt} {
		for n := range 4 {
			node := append([]int{id}, slices.Repeat([]int{id}, n)...)
			for count := range 6 {
				var white []int
				if count <= n {
					white = []int{id}
				}
				for _, from := range [][]int{{id}, {id, id, id}} {
					is(t, of(node), []int{count}, from, []int{id}, []int{count - n}, white)
				}
			}
			for _, from := range [][]int{{-1}, {id - 1}, {id, id ^ 2}, {-id - 1, id}} {
				wrong(t, of(node), []int{n}, from)
			}
		}
	}
}

// P11.1: a node that points to another one several times, among others, lessens its rest as often; one that isn't gray lessens none.
func TestSeveralTimes(t *testing.T) {
	for n := 1; n < 6; n++ {
		g := of(append([]int{2, 8}, slices.Repeat([]int{5}, n)...), []int{5}, []int{7, 5, 5}, []int{8, 2})
		is(t, g, []int{1, n + 2, 0, 1}, []int{2}, []int{2, 5, 8}, []int{0, 2, 0}, []int{2, 8})
		is(t, g, []int{1, n + 2, 0, 1}, []int{2, 7}, []int{2, 5, 7, 8}, []int{0, 0, 0, 0}, []int{2, 5, 7, 8})
		is(t, g, []int{1, n + 2, 0, 1}, []int{7}, []int{5, 7}, []int{n, 0}, []int{7})
		is(t, g, []int{1, n, 0, 1}, []int{8}, []int{2, 5, 8}, []int{0, 0, 0}, []int{2, 5, 8})
		is(t, g, []int{1, n - 1, 0, 1}, []int{8}, []int{2, 5, 8}, []int{0, -1, 0}, []int{2, 5, 8})
		is(t, g, []int{1, n + 1, 0, 1}, []int{8}, []int{2, 5, 8}, []int{0, 1, 0}, []int{2, 8})
		is(t, g, []int{2, n, 0, 1}, []int{8}, []int{2, 5, 8}, []int{1, 0, 0}, nil)
	}
}

// P11.1: a chain, whose IDs rise or fall, of which any node is held: those behind it are black, though their rests are 0, those ahead of it are white.
func TestBlackBehindTheHeld(t *testing.T) {
	const many = 7
	for held := range many {
		var rising, falling api.Graph
		up, down, none := make([]int, many), make([]int, many), make([]int, many)
		for i := range many {
			rising.Nodes = append(rising.Nodes, api.Node{ID: i})
			falling.Nodes = append(falling.Nodes, api.Node{ID: i})
			if i > 0 {
				rising.Nodes[i-1].Out, up[i] = []int{i}, 1
				falling.Nodes[i].Out, down[i-1] = []int{i - 1}, 1
			}
		}
		all := idsOf(rising)
		is(t, rising, up, []int{0}, all, none, all)
		is(t, falling, down, []int{many - 1}, all, none, all)
		up[held]++
		down[held]++
		rests := slices.Clone(none)
		rests[held] = 1
		is(t, rising, up, []int{0}, all, rests, all[:held])
		is(t, falling, down, []int{many - 1}, all, rests, all[held+1:])
	}
}

// P11.1: rings of any length: as they are, they hold one another alone; if any one is held, all are black.
func TestRings(t *testing.T) {
	for n := 1; n < 8; n++ {
		g := api.Graph{Nodes: ring(10, n)}
		ids, ones, none := idsOf(g), slices.Repeat([]int{1}, n), make([]int, n)
		for at := range n {
			is(t, g, ones, []int{10 + at}, ids, none, ids)
			counts, rests := slices.Clone(ones), slices.Clone(none)
			counts[at], rests[at] = 2, 1
			for from := range n {
				is(t, g, counts, []int{10 + from}, ids, rests, nil)
			}
			counts[at], rests[at] = 0, -1
			is(t, g, counts, []int{10}, ids, rests, ids)
		}
	}
}

// P11.1: rings side by side, one of which points to another one: each is white, or black, whole.
func TestRingsSideBySide(t *testing.T) {
	g := api.Graph{Nodes: slices.Concat(ring(0, 2), ring(4, 2), ring(8, 3))}
	g.Nodes[1].Out = append(g.Nodes[1].Out, 4)
	is(t, g, []int{1, 1, 2, 1, 1, 1, 1}, []int{4}, []int{4, 5}, []int{1, 0}, nil)
	is(t, g, []int{1, 1, 2, 1, 1, 1, 1}, []int{8, 5}, []int{4, 5, 8, 9, 10}, []int{1, 0, 0, 0, 0}, []int{8, 9, 10})
	is(t, g, []int{1, 1, 2, 1, 1, 1, 2}, []int{8, 0}, []int{0, 1, 4, 5, 8, 9, 10}, []int{0, 0, 0, 0, 0, 0, 1}, []int{0, 1, 4, 5})
	is(t, g, []int{1, 1, 2, 2, 1, 1, 1}, []int{10, 1}, []int{0, 1, 4, 5, 8, 9, 10}, []int{0, 0, 0, 1, 0, 0, 0}, []int{0, 1, 8, 9, 10})
	is(t, g, []int{2, 1, 2, 1, 1, 1, 1}, []int{10, 1}, []int{0, 1, 4, 5, 8, 9, 10}, []int{1, 0, 0, 0, 0, 0, 0}, []int{8, 9, 10})
}

// P11.1: rests below 0, at 0, and above: just those above hold; one below 0 is black all the same, if it is reached from a held one, and makes up for no other one's.
func TestRestsBelowZero(t *testing.T) {
	g := of([]int{1, 2, 2, 2}, []int{2, 3}, []int{3})
	for first := range 3 {
		for second := range 6 {
			for third := range 4 {
				var white []int
				if first == 0 {
					white = append(white, 1)
				}
				if first == 0 && second <= 3 {
					white = append(white, 2)
				}
				if first == 0 && second <= 3 && third <= 1 {
					white = append(white, 3)
				}
				is(t, g, []int{first, second, third}, []int{1}, []int{1, 2, 3}, []int{first, second - 3, third - 1}, white)
			}
		}
	}
}

// P11.1: counts at the greatest int, and near it.
func TestGreatestCounts(t *testing.T) {
	const most = math.MaxInt
	is(t, of([]int{0}), []int{most}, []int{0}, []int{0}, []int{most}, nil)
	is(t, of([]int{4, 4, 4}), []int{most}, []int{4}, []int{4}, []int{most - 2}, nil)
	is(t, fork(), []int{most, most, most, most, most}, []int{9}, []int{2, 5, 7, 9, 12}, []int{most - 1, most - 2, most - 2, most, most - 1}, nil)
	is(t, fork(), []int{1, 2, most, 0, most}, []int{9}, []int{2, 5, 7, 9, 12}, []int{0, 0, most - 2, 0, most - 1}, []int{2, 5, 9})
	is(t, fork(), []int{1, 2, 2, most, 1 << 32}, []int{12, 5}, []int{2, 5, 7, 12}, []int{0, 1, 0, 1 << 32}, nil)
	is(t, fork(), []int{1, 1, 1 << 32, most, 1}, []int{2}, []int{2, 5, 7}, []int{0, 0, 1<<32 - 2}, []int{2, 5})
}

// P11.1: IDs far from one another.
func TestFarIDs(t *testing.T) {
	g := of([]int{0, math.MaxInt}, []int{1 << 32, 0, 0}, []int{math.MaxInt - 1, 1 << 32}, []int{math.MaxInt, 0})
	is(t, g, []int{3, 1, 0, 1}, []int{math.MaxInt}, []int{0, math.MaxInt}, []int{2, 0}, nil)
	is(t, g, []int{3, 1, 0, 2}, []int{math.MaxInt - 1}, idsOf(g), []int{0, 0, 0, 1}, []int{1 << 32, math.MaxInt - 1})
	is(t, g, []int{1, 1, 0, 1}, []int{0, math.MaxInt}, []int{0, math.MaxInt}, []int{0, 0}, []int{0, math.MaxInt})
}

// P11.1: what is a root is told by the counts alone: the graph's roots themselves hold nothing, and lessen nothing.
func TestRootsAreNotLookedAt(t *testing.T) {
	for roots := range 1 << 5 {
		g := fork()
		for _, i := range bits(roots) {
			g.Roots = append(g.Roots, g.Nodes[i].ID)
		}
		is(t, g, []int{1, 2, 2, 0, 1}, []int{9}, []int{2, 5, 7, 9, 12}, []int{0, 0, 0, 0, 0}, []int{2, 5, 7, 9, 12})
		is(t, g, []int{1, 2, 2, 0, 1}, []int{2}, []int{2, 5, 7}, []int{0, 1, 0}, nil)
		is(t, g, []int{0, 0, 3, 0, 1}, []int{5}, []int{2, 5, 7}, []int{-1, -1, 1}, []int{2, 5})
	}
}

// P11.1: graphs that may not be: nothing is told of them, whatever is handed in beside them.
func TestWrongGraphs(t *testing.T) {
	with := func(roots []int, nodes ...[]int) api.Graph {
		g := of(nodes...)
		g.Roots = roots
		return g
	}
	for _, g := range []api.Graph{
		of([]int{-1}),
		of([]int{math.MinInt}),
		of([]int{-1}, []int{0}, []int{1}),
		of([]int{-5, 0}, []int{0}, []int{1}),
		of([]int{2}, []int{1}),
		of([]int{1}, []int{2}, []int{4}, []int{3}),
		of([]int{0}, []int{0}),
		of([]int{1}, []int{2}, []int{2, 1}),
		of([]int{0, 1}),
		of([]int{0, -1}),
		of([]int{1, 1, 1, 2}),
		of([]int{0}, []int{1}, []int{2, 3}),
		of([]int{1, 2, 2, 4}, []int{2}, []int{3}, []int{5}),
		of([]int{0}, []int{math.MaxInt, math.MinInt}),
		with([]int{0}),
		with([]int{1}, []int{0}),
		with([]int{-1}, []int{0}),
		with([]int{-1}, []int{-1}),
		with([]int{0, 2, 3}, []int{0}, []int{2}),
		with([]int{2, 1}, []int{1}, []int{2}),
		with([]int{1, 1}, []int{1}, []int{2}),
	} {
		right := make([]int, len(g.Nodes))
		for _, counts := range [][]int{right, nil, append(right, 0), {-1}, {math.MaxInt, 3}} {
			for _, from := range [][]int{nil, {0}, {1}, {-1, 2, 2}, idsOf(g), g.Roots} {
				wrong(t, g, counts, from)
			}
		}
	}
}

// P11.1: one thing of a graph that may be is made wrong, at any place.
func TestOneThingWrong(t *testing.T) {
	for seed := range uint64(300) {
		g := copied(anyGraph(&seed, 2+next(&seed)%8, 2, 2))
		counts, from := changed(&seed, graph.Counts(g), 2, 2), someNodes(&seed, g)
		same(t, g, counts, from)
		i, beyond := next(&seed)%len(g.Nodes), g.Nodes[len(g.Nodes)-1].ID+1
		switch next(&seed) % 5 {
		case 0:
			g.Nodes[i].ID = -1 - next(&seed)%3
		case 1:
			g.Nodes[i].ID = g.Nodes[(i+1)%len(g.Nodes)].ID
		case 2:
			g.Nodes[i].Out = append(g.Nodes[i].Out, beyond)
		case 3:
			g.Roots = append(g.Roots, beyond)
		case 4:
			g.Roots = append(idsOf(g), g.Nodes[i].ID)
		}
		wrong(t, g, counts, from)
		wrong(t, g, counts, idsOf(g))
		wrong(t, g, counts, nil)
	}
}

// P11.1: fewer counts than nodes, and more, though those that are there are right, and more lie behind the list's length.
func TestAsManyCountsAsNodes(t *testing.T) {
	g, counts := fork(), []int{1, 2, 2, 0, 1, 0, 0, 0}
	for _, from := range [][]int{nil, {2}, {9}, {12}, {7, 7}} {
		for n := range counts {
			if n != 5 {
				miscounted(t, g, counts[:n], from)
			}
		}
		miscounted(t, g, nil, from)
		miscounted(t, g, make([]int, 300), from)
		same(t, g, counts[:5], from)
	}
}

// P11.1: a count below 0, at each place, that of a node that isn't gray too.
func TestCountsBelowZero(t *testing.T) {
	g := fork()
	for at := range g.Nodes {
		for _, below := range []int{-1, -2, -1 << 32, 1<<32 - 1<<33, math.MinInt + 1, math.MinInt} {
			for _, from := range [][]int{nil, {2}, {9}, {12}, {12, 7}} {
				counts := []int{1, 2, 2, 0, 1}
				counts[at] = below
				miscounted(t, g, counts, from)
				miscounted(t, g, append(counts, below), from)
				counts[at] = 0
				same(t, g, counts, from)
			}
		}
	}
	miscounted(t, g, []int{-1, -1, -1, -1, -1}, []int{9})
}

// P11.1: a candidate that is no node's, alone or among others, at any place: then there is no trial, and nothing is gray.
func TestCandidatesThatAreNoNodes(t *testing.T) {
	g, counts := fork(), []int{1, 2, 2, 0, 1}
	for _, x := range strangers() {
		for _, from := range [][]int{{x}, {x, x}, {x, 9}, {9, x}, {2, x, 5}, {5, 5, 9, 12, 7, x}, {x, 2, 5, 7, 9, 12}, {2, 5, 7, x, 9, 12}} {
			wrong(t, g, counts, from)
			wrong(t, g, counts[:4], from)
			wrong(t, g, []int{1, 2, 2, 0, -1}, from)
		}
	}
	wrong(t, g, counts, strangers())
	g.Nodes[0].ID = 0
	g.Nodes[1].Out = []int{7, 0}
	is(t, g, counts, []int{0}, []int{0, 5, 7}, []int{0, 1, 0}, nil)
	wrong(t, g, counts, []int{2})
}

// P11.1: all graphs of three nodes that each point to one another at most once, with counts from 0 to 3, from all of them.
func TestAllTrialsOfThree(t *testing.T) {
	for edges := range 1 << 9 {
		g := of(append([]int{0}, bits(edges&7)...), append([]int{1}, bits(edges>>3&7)...), append([]int{2}, bits(edges>>6)...))
		for from := range 1 << 3 {
			for c := range 1 << 6 {
				counts := []int{c & 3, c >> 2 & 3, c >> 4}
				rests := trial.Rests(g, counts, bits(from))
				white, e := trial.White(g, counts, bits(from))
				if !slices.Equal(rests, restsOf(g, counts, bits(from))) || !slices.Equal(white, whiteOf(g, counts, bits(from))) || e != api.OK {
					t.Fatalf("%v, counts %v, from %v: rests %v, white %v, %d", g, counts, bits(from), rests, white, e)
				}
			}
		}
	}
}

// P11.1: trials of many kinds, each held against what is reckoned otherwise.
func TestManyTrials(t *testing.T) {
	some, none, all := 0, 0, 0
	for seed := range uint64(2000) {
		g := anyGraph(&seed, 1+next(&seed)%16, next(&seed)%4, 1+next(&seed)%9)
		counts, from := changed(&seed, graph.Counts(g), next(&seed)%3, next(&seed)%2), someNodes(&seed, g)
		same(t, g, counts, from)
		gray, white := len(grayOf(g, from)), len(whiteOf(g, counts, from))
		switch {
		case gray == 0:
		case white == 0:
			none++
		case white == gray:
			all++
		default:
			some++
		}
	}
	if some < 100 || none < 100 || all < 100 {
		t.Errorf("some were white in %d trials, none in %d, all in %d", some, none, all)
	}
}

// within tells whether all of some are among others.
func within(some, others []int) bool {
	return !slices.ContainsFunc(some, func(id int) bool { return !slices.Contains(others, id) })
}

// P11.2: with the graph's own counts white ones are dead, whatever the candidates are.
func TestWhiteAreDead(t *testing.T) {
	found := 0
	for seed := range uint64(3000) {
		g := anyGraph(&seed, 1+next(&seed)%16, 1, 1+next(&seed)%12)
		from := someNodes(&seed, g)
		white, e := trial.White(g, graph.Counts(g), from)
		if dead := graph.Dead(g); e != api.OK || !within(white, dead) || !within(white, graph.Reach(g, from)) {
			t.Fatalf("%v, from %v: white %v, %d, but dead %v", g, from, white, e, dead)
		}
		found += len(white)
	}
	if found < 1000 {
		t.Errorf("only %d were white", found)
	}
}

// P11.2: with the graph's own counts, or greater ones, no root is white, nor what is reached from one.
func TestNoRootIsWhite(t *testing.T) {
	found := 0
	for seed := range uint64(3000) {
		g := anyGraph(&seed, 1+next(&seed)%16, 1, 1+next(&seed)%12)
		counts, from := changed(&seed, graph.Counts(g), 0, 1+next(&seed)%3), someNodes(&seed, g)
		if seed%5 == 0 {
			from = idsOf(g)
		}
		if seed%7 == 0 {
			counts[next(&seed)%len(counts)] = math.MaxInt
		}
		white, e := trial.White(g, counts, from)
		living := graph.Reach(g, g.Roots)
		if e != api.OK || slices.ContainsFunc(white, func(id int) bool { return slices.Contains(living, id) }) {
			t.Fatalf("%v, counts %v, from %v: white %v, %d, but reached from the roots are %v", g, counts, from, white, e, living)
		}
		found += len(white)
	}
	if found < 1000 {
		t.Errorf("only %d were white", found)
	}
}

// P11.2: if each dead node is reached from a candidate, the white ones are just the dead ones, with the graph's own counts: from all nodes, from the dead ones, and from just enough of these, with living ones among them or not.
func TestJustTheDead(t *testing.T) {
	found, fewer := 0, 0
	for seed := range uint64(2000) {
		g := anyGraph(&seed, 1+next(&seed)%16, 1, 1+next(&seed)%12)
		dead, own := graph.Dead(g), graph.Counts(g)
		var enough []int
		for _, id := range dead {
			if !slices.Contains(graph.Reach(g, enough), id) {
				enough = append(enough, id)
			}
		}
		slices.Reverse(enough)
		for _, from := range [][]int{idsOf(g), dead, enough, append(someNodes(&seed, g), enough...), append(slices.Clone(enough), g.Roots...)} {
			if white, e := trial.White(g, own, from); e != api.OK || !slices.Equal(white, dead) {
				t.Fatalf("%v, from %v: white %v, %d, but dead %v", g, from, white, e, dead)
			}
		}
		found, fewer = found+len(dead), fewer+len(dead)-len(enough)
	}
	if found < 1000 || fewer < 100 {
		t.Errorf("only %d were dead, %d of them no candidates", found, fewer)
	}
}

// P11.2: all graphs of three nodes that each point to one another at most once, with all roots, from all of them: what holds of many holds of these.
func TestAllGraphsOfThree(t *testing.T) {
	for edges := range 1 << 9 {
		for roots := range 1 << 3 {
			g := of(append([]int{0}, bits(edges&7)...), append([]int{1}, bits(edges>>3&7)...), append([]int{2}, bits(edges>>6)...))
			g.Roots = bits(roots)
			own, dead := graph.Counts(g), graph.Dead(g)
			for from := range 1 << 3 {
				white, e := trial.White(g, own, bits(from))
				if e != api.OK || !within(white, dead) || within(dead, graph.Reach(g, bits(from))) && len(white) != len(dead) {
					t.Fatalf("%v, from %v: white %v, %d, but dead %v", g, bits(from), white, e, dead)
				}
				for i := range own {
					greater := slices.Clone(own)
					greater[i] += 1 + from
					if white, e := trial.White(g, greater, bits(from)); e != api.OK || !within(white, dead) {
						t.Fatalf("%v, counts %v, from %v: white %v, %d, but dead %v", g, greater, bits(from), white, e, dead)
					}
				}
			}
		}
	}
}

// P1: a chain that is long, rising or falling, one that is a ring, and a node that all point to, and that points to all: every call ends.
func TestGreatTrials(t *testing.T) {
	const many = 100000
	var rising, falling, star api.Graph
	var all []int
	for i := range many {
		rising.Nodes = append(rising.Nodes, api.Node{ID: i, Out: []int{(i + 1) % many}})
		falling.Nodes = append(falling.Nodes, api.Node{ID: i, Out: []int{max(i-1, 0)}})
		star.Nodes = append(star.Nodes, api.Node{ID: i, Out: []int{0}})
		all = append(all, i)
	}
	star.Nodes[0].Out = all
	for i, x := range []struct {
		g    api.Graph
		from []int
	}{{rising, []int{7}}, {falling, []int{many - 1}}, {star, []int{3}}, {star, all}} {
		counts := graph.Counts(x.g)
		if l := trial.Gray(x.g, x.from); !slices.Equal(l, all) {
			t.Errorf("%d: %d are gray, want %d", i, len(l), many)
		}
		if l := trial.Rests(x.g, counts, x.from); !slices.Equal(l, make([]int, many)) {
			t.Errorf("%d: %d rests, want %d that are 0", i, len(l), many)
		}
		if l, e := trial.White(x.g, counts, x.from); e != api.OK || !slices.Equal(l, all) {
			t.Errorf("%d: %d are white, %d, want %d", i, len(l), e, many)
		}
		counts[many-1]++
		want := 0
		if i == 1 {
			counts[many-1]--
			counts[many/2]++
			want = many - many/2 - 1
		}
		if l, e := trial.White(x.g, counts, x.from); e != api.OK || len(l) != want {
			t.Errorf("%d: %d are white, %d, want %d", i, len(l), e, want)
		}
	}
}

// P2, rule 4: what is told is the same each time, and hangs not on what was asked of other graphs, nor on which memory the lists share.
func TestTheSameEachTime(t *testing.T) {
	shared := []int{1, 2, 4, 6}
	g := api.Graph{Nodes: []api.Node{{ID: 1, Out: shared[:2]}, {ID: 2, Out: shared[1:3]}, {ID: 4, Out: shared[2:3]}, {ID: 6, Out: shared}}, Roots: shared[3:]}
	other := of([]int{1, 6}, []int{6, 1, 1})
	for range 40 {
		gray, rests := trial.Gray(g, shared[:3]), trial.Rests(g, shared, shared[:3])
		if !slices.Equal(gray, []int{1, 2, 4}) || !slices.Equal(rests, []int{0, 0, 2}) {
			t.Fatalf("gray %v, rests %v, want [1 2 4], [0 0 2]", gray, rests)
		}
		white, e := trial.White(g, shared, shared[:3])
		if !slices.Equal(white, []int{1, 2}) || e != api.OK {
			t.Fatalf("white %v, %d, want [1 2], 0", white, e)
		}
		if l, e := trial.White(other, shared[1:3], shared[3:]); !slices.Equal(l, []int(nil)) || e != api.OK {
			t.Fatalf("another one: white %v, %d, want none, 0", l, e)
		}
		if l, e := trial.White(other, shared[:2], shared[:1]); !slices.Equal(l, []int(nil)) || e != api.OK {
			t.Fatalf("another one: white %v, %d, want none, 0", l, e)
		}
		spoil(gray)
		spoil(rests)
		spoil(white)
		if !slices.Equal(shared, []int{1, 2, 4, 6}) {
			t.Fatalf("what was handed in is %v", shared)
		}
	}
}
