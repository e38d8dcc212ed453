package graph_test

import (
	"math"
	"slices"
	"testing"

	"socage/api"
	"socage/graph"
)

// of is a graph: its roots, and of each node its ID, and what it points to.
func of(roots []int, nodes ...[]int) api.Graph {
	g := api.Graph{Roots: roots}
	for _, n := range nodes {
		g.Nodes = append(g.Nodes, api.Node{ID: n[0], Out: n[1:]})
	}
	return g
}

func idsOf(g api.Graph) []int {
	var l []int
	for _, n := range g.Nodes {
		l = append(l, n.ID)
	}
	return l
}

// mayBe, reachOf, deadOf and countsOf reckon what ought to be told otherwise, without maps or piles: lists are sorted, and gone through whole, again and again, till nothing is new.
func mayBe(g api.Graph) bool {
	ids := idsOf(g)
	for _, l := range [][]int{ids, g.Roots} {
		sorted := append([]int{}, l...)
		slices.Sort(sorted)
		if !slices.Equal(l, slices.Compact(sorted)) {
			return false
		}
	}
	named := append([]int{}, g.Roots...)
	for _, n := range g.Nodes {
		named = append(named, n.Out...)
	}
	strange := func(id int) bool { return !slices.Contains(ids, id) }
	return !slices.ContainsFunc(named, strange) && (len(ids) == 0 || ids[0] >= 0)
}

func reachOf(g api.Graph, from []int) []int {
	ids := idsOf(g)
	got := make([]bool, len(ids))
	for i, id := range ids {
		got[i] = slices.Contains(from, id)
	}
	for again := true; again; {
		again = false
		for i, n := range g.Nodes {
			for _, id := range n.Out {
				to := slices.Index(ids, id)
				if got[i] && !got[to] {
					got[to], again = true, true
				}
			}
		}
	}
	var l []int
	for i, id := range ids {
		if got[i] {
			l = append(l, id)
		}
	}
	return l
}

func deadOf(g api.Graph) []int {
	living := reachOf(g, g.Roots)
	return slices.DeleteFunc(idsOf(g), func(id int) bool { return slices.Contains(living, id) })
}

func countsOf(g api.Graph) []int {
	var l []int
	for _, id := range idsOf(g) {
		n := 0
		for _, x := range append(allOuts(g), g.Roots...) {
			if x == id {
				n++
			}
		}
		l = append(l, n)
	}
	return l
}

func allOuts(g api.Graph) []int {
	var l []int
	for _, n := range g.Nodes {
		l = append(l, n.Out...)
	}
	return l
}

// backed is a list's copy, with such behind its length as would be seen, if it were read.
func backed(l []int, behind ...int) []int {
	return append(append(make([]int, 0, len(l)+len(behind)), l...), behind...)[:len(l)]
}

// copied is a graph in memory of its own, each list of it backed with the graph's own IDs and such as are no node's.
func copied(g api.Graph) api.Graph {
	behind := append(idsOf(g), 3, -7)
	c := api.Graph{Roots: backed(g.Roots, behind...)}
	for _, n := range g.Nodes {
		c.Nodes = append(c.Nodes, api.Node{ID: n.ID, Out: backed(n.Out, behind...)})
	}
	c.Nodes = append(c.Nodes, api.Node{ID: 4, Out: backed(behind)}, api.Node{ID: -9})
	c.Nodes = c.Nodes[:len(g.Nodes)]
	return c
}

// memory is all that a graph and a list of IDs have, what lies behind their lengths too, and how long each list is.
func memory(g api.Graph, from []int) []int {
	l := append([]int{len(from), len(g.Roots), len(g.Nodes)}, from[:cap(from)]...)
	l = append(l, g.Roots[:cap(g.Roots)]...)
	for _, n := range g.Nodes[:cap(g.Nodes)] {
		l = append(l, n.ID, len(n.Out))
		l = append(l, n.Out[:cap(n.Out)]...)
	}
	return l
}

// spoil writes into all of a list, and into what memory it has behind its length.
func spoil(l []int) {
	l = l[:cap(l)]
	for i := range l {
		l[i] = 77 - i
	}
}

// told holds what is told of a graph against what ought to be: twice, with the first answers spoiled, in copies that nobody may write into.
func told(t *testing.T, g api.Graph, from []int, right bool, reach, dead, counts []int) {
	t.Helper()
	c, f := copied(g), backed(from, append(idsOf(g), -1)...)
	before := memory(c, f)
	for range 2 {
		if got := graph.Right(c); got != right {
			t.Fatalf("Right of %v: %v, want %v", g, got, right)
		}
		r, d, n := graph.Reach(c, f), graph.Dead(c), graph.Counts(c)
		if !slices.Equal(r, reach) {
			t.Fatalf("Reach of %v from %v: %v, want %v", g, from, r, reach)
		}
		if !slices.Equal(d, dead) {
			t.Fatalf("Dead of %v: %v, want %v", g, d, dead)
		}
		if !slices.Equal(n, counts) {
			t.Fatalf("Counts of %v: %v, want %v", g, n, counts)
		}
		spoil(r)
		if !slices.Equal(d, dead) || !slices.Equal(n, counts) {
			t.Fatalf("%v: what Reach told is Dead's or Counts' too", g)
		}
		spoil(d)
		if !slices.Equal(n, counts) {
			t.Fatalf("%v: what Dead told is Counts' too", g)
		}
		spoil(n)
		if !slices.Equal(memory(c, f), before) {
			t.Fatalf("%v, from %v: what was handed in was written into", g, from)
		}
	}
}

// same holds what is told of any graph against what is reckoned otherwise.
func same(t *testing.T, g api.Graph, from []int) {
	t.Helper()
	if !mayBe(g) {
		told(t, g, from, false, nil, nil, nil)
		return
	}
	told(t, g, from, true, reachOf(g, from), deadOf(g), countsOf(g))
}

// next is a number that looks like any: the same ones come in each run.
func next(seed *uint64) int {
	*seed = *seed*6364136223846793005 + 1442695040888963407
	return int(*seed >> 33)
}

// anyGraph is a graph that may be, of so many nodes, with about so many Outs each, and a root in so many.
func anyGraph(seed *uint64, nodes, outs, roots int) api.Graph {
	var g api.Graph
	id := next(seed) % 3
	for range nodes {
		g.Nodes = append(g.Nodes, api.Node{ID: id})
		id += 1 + next(seed)%3
	}
	for i := range g.Nodes {
		for range next(seed) % (2*outs + 1) {
			g.Nodes[i].Out = append(g.Nodes[i].Out, g.Nodes[next(seed)%nodes].ID)
		}
		if next(seed)%roots == 0 {
			g.Roots = append(g.Roots, g.Nodes[i].ID)
		}
	}
	return g
}

// someIDs are IDs to start from, in any order: nodes' and such as are no node's, some several times.
func someIDs(seed *uint64, g api.Graph) []int {
	var l []int
	for range next(seed) % 6 {
		switch n := next(seed); {
		case len(g.Nodes) > 0 && n%4 > 0:
			l = append(l, g.Nodes[n/4%len(g.Nodes)].ID)
		case len(l) > 0 && n%8 == 0:
			l = append(l, l[n/8%len(l)])
		default:
			l = append(l, n%40-10)
		}
	}
	return l
}

// lists are all lists of at most so many of some numbers.
func lists(most int, of ...int) [][]int {
	all := [][]int{nil}
	for from, n := 0, 0; n < most; n++ {
		to := len(all)
		for _, l := range all[from:to] {
			for _, x := range of {
				all = append(all, append(slices.Clone(l), x))
			}
		}
		from = to
	}
	return all
}

func strangers() []int {
	return []int{math.MinInt, math.MinInt + 1, -1 << 32, -10, -2, -1, 3, 11, 1 << 16, 1 << 32, 1<<32 + 5, math.MaxInt - 1}
}

// P10.1: graphs written out by hand, from no ID, from one, and from several.
func TestOrdinary(t *testing.T) {
	chain := of([]int{4}, []int{1, 2}, []int{2, 3}, []int{3}, []int{4, 2}, []int{6, 4})
	told(t, chain, nil, true, nil, []int{1, 6}, []int{0, 2, 1, 2, 0})
	told(t, chain, []int{2}, true, []int{2, 3}, []int{1, 6}, []int{0, 2, 1, 2, 0})
	told(t, chain, []int{6}, true, []int{2, 3, 4, 6}, []int{1, 6}, []int{0, 2, 1, 2, 0})
	told(t, chain, []int{1, 4}, true, []int{1, 2, 3, 4}, []int{1, 6}, []int{0, 2, 1, 2, 0})
	told(t, chain, []int{3, 6, 1}, true, []int{1, 2, 3, 4, 6}, []int{1, 6}, []int{0, 2, 1, 2, 0})
	tree := of([]int{7, 10}, []int{5}, []int{6}, []int{7, 5, 6}, []int{8, 9}, []int{9}, []int{10, 8, 9, 8})
	told(t, tree, []int{7}, true, []int{5, 6, 7}, nil, []int{1, 1, 1, 2, 2, 1})
	told(t, tree, []int{10}, true, []int{8, 9, 10}, nil, []int{1, 1, 1, 2, 2, 1})
	told(t, tree, []int{9, 5}, true, []int{5, 9}, nil, []int{1, 1, 1, 2, 2, 1})
	falling := of(nil, []int{0}, []int{1, 0}, []int{2, 1}, []int{3, 2})
	told(t, falling, []int{2}, true, []int{0, 1, 2}, []int{0, 1, 2, 3}, []int{1, 1, 1, 0})
}

// P10.1: a graph without nodes: nothing is told of it, wherever one starts.
func TestWithoutNodes(t *testing.T) {
	for _, g := range []api.Graph{{}, {Nodes: []api.Node{}, Roots: []int{}}} {
		for _, from := range [][]int{nil, {}, {0}, {1, 1, 0}, {-1}, strangers(), {math.MaxInt}} {
			told(t, g, from, true, nil, nil, nil)
			if graph.Right(g) != true || len(graph.Reach(g, from))+len(graph.Dead(g))+len(graph.Counts(g)) != 0 {
				t.Errorf("from %v: something is told", from)
			}
		}
	}
}

// P10.1: one node: alone, or pointing to itself, once or several times, as a root or not.
func TestOneNode(t *testing.T) {
	for _, id := range []int{0, 1, 5, 1 << 40, math.MaxInt} {
		for n := range 4 {
			out := slices.Repeat([]int{id}, n)
			node := append([]int{id}, out...)
			for _, from := range [][]int{{id}, {id, id, id}, {-1, id}} {
				told(t, of(nil, node), from, true, []int{id}, []int{id}, []int{n})
				told(t, of([]int{id}, node), from, true, []int{id}, nil, []int{n + 1})
			}
			for _, from := range [][]int{nil, {-1}, {id - 1}, {id ^ 2, -id - 1}} {
				told(t, of(nil, node), from, true, nil, []int{id}, []int{n})
				told(t, of([]int{id}, node), from, true, nil, nil, []int{n + 1})
			}
		}
	}
}

// P10.1: a node that points to another one several times, among others, counts as often, and reaches it as if it were once.
func TestSeveralTimes(t *testing.T) {
	for n := 1; n < 6; n++ {
		out := append([]int{2, 8}, slices.Repeat([]int{5}, n)...)
		g := of([]int{2}, append(out, 9), []int{5, 9, 9}, []int{8, 2}, []int{9})
		told(t, g, []int{5}, true, []int{5, 9}, nil, []int{2, n, 1, 3})
		told(t, g, []int{8}, true, []int{2, 5, 8, 9}, nil, []int{2, n, 1, 3})
		g.Roots = []int{5}
		told(t, g, []int{2}, true, []int{2, 5, 8, 9}, []int{2, 8}, []int{1, n + 1, 1, 3})
	}
}

// ring is a ring of so many nodes, from an ID on.
func ring(first, n int) []api.Node {
	var l []api.Node
	for i := range n {
		l = append(l, api.Node{ID: first + i, Out: []int{first + (i+1)%n}})
	}
	return l
}

// P10.1: rings of any length: one that no root reaches is dead, one of which any node is a root, or pointed to by one, is not.
func TestCycles(t *testing.T) {
	for n := 1; n < 8; n++ {
		var ids, ones []int
		for i := range n {
			ids, ones = append(ids, 10+i), append(ones, 1)
		}
		for at := range n {
			g := api.Graph{Nodes: ring(10, n)}
			told(t, g, []int{10 + at}, true, ids, ids, ones)
			more := slices.Clone(ones)
			more[at]++
			g.Roots = []int{10 + at}
			told(t, g, []int{10}, true, ids, nil, more)
			g.Nodes = append([]api.Node{{ID: 3, Out: []int{10 + at}}}, g.Nodes...)
			g.Roots = []int{3}
			told(t, g, []int{10 + at, 3}, true, append([]int{3}, ids...), nil, append([]int{1}, more...))
			g.Roots = nil
			told(t, g, []int{10 + at}, true, ids, append([]int{3}, ids...), append([]int{0}, more...))
		}
	}
}

// P10.1: rings side by side: what no root reaches is dead, though it points to what is reached.
func TestRingsSideBySide(t *testing.T) {
	g := api.Graph{Nodes: slices.Concat(ring(0, 3), ring(5, 2), ring(9, 4)), Roots: []int{6}}
	g.Nodes[1].Out = append(g.Nodes[1].Out, 5, 5)
	told(t, g, []int{0}, true, []int{0, 1, 2, 5, 6}, []int{0, 1, 2, 9, 10, 11, 12}, []int{1, 1, 1, 3, 2, 1, 1, 1, 1})
	g.Nodes[4].Out = append([]int{12}, g.Nodes[4].Out...)
	told(t, g, []int{12}, true, []int{9, 10, 11, 12}, []int{0, 1, 2}, []int{1, 1, 1, 3, 2, 1, 1, 1, 2})
	g.Nodes[8].Out = append(g.Nodes[8].Out, 2)
	told(t, g, []int{6, 5}, true, []int{0, 1, 2, 5, 6, 9, 10, 11, 12}, nil, []int{1, 1, 2, 3, 2, 1, 1, 1, 2})
}

// P10.1: roots that nothing points to, and such as something does; all nodes dead; none dead.
func TestRoots(t *testing.T) {
	nodes := [][]int{{0, 4}, {2}, {4, 2}, {7, 7}}
	told(t, of(nil, nodes...), nil, true, nil, []int{0, 2, 4, 7}, []int{0, 1, 1, 1})
	told(t, of([]int{0}, nodes...), nil, true, nil, []int{7}, []int{1, 1, 1, 1})
	told(t, of([]int{2}, nodes...), nil, true, nil, []int{0, 4, 7}, []int{0, 2, 1, 1})
	told(t, of([]int{7}, nodes...), nil, true, nil, []int{0, 2, 4}, []int{0, 1, 1, 2})
	told(t, of([]int{0, 7}, nodes...), nil, true, nil, nil, []int{1, 1, 1, 2})
	told(t, of([]int{0, 2, 4, 7}, nodes...), nil, true, nil, nil, []int{1, 2, 2, 2})
	told(t, of([]int{1, 2, 3}, []int{1}, []int{2}, []int{3}), []int{3, 1}, true, []int{1, 3}, nil, []int{1, 1, 1})
	told(t, of(nil, []int{1}, []int{2}, []int{3}), []int{3, 1}, true, []int{1, 3}, []int{1, 2, 3}, []int{0, 0, 0})
}

// P10.1: IDs to start from: several times, in any order, or no node's.
func TestStarts(t *testing.T) {
	g := of([]int{5}, []int{0, 8}, []int{2, 4}, []int{4}, []int{5, 5, 2}, []int{8, 0})
	dead, counts := []int{0, 8}, []int{1, 1, 1, 2, 1}
	for _, x := range []struct{ from, reach []int }{
		{[]int{8, 2}, []int{0, 2, 4, 8}},
		{[]int{2, 8}, []int{0, 2, 4, 8}},
		{[]int{2, 8, 2, 8, 8}, []int{0, 2, 4, 8}},
		{[]int{4, 4, 4}, []int{4}},
		{[]int{5, 4, 2}, []int{2, 4, 5}},
		{[]int{8, 5, 4, 2, 0}, []int{0, 2, 4, 5, 8}},
		{[]int{1, 3, 6, 7, 9}, nil},
		{[]int{3, 4, 3, 3}, []int{4}},
		{[]int{4, -4}, []int{4}},
		{[]int{-8, -2, -5}, nil},
		{append(strangers(), 2), []int{2, 4}},
		{append([]int{2}, strangers()...), []int{2, 4}},
		{slices.Concat(strangers(), []int{0}, strangers()), []int{0, 8}},
		{[]int{math.MaxInt, 1<<32 + 2, 1 << 8, 1<<8 + 2}, nil},
	} {
		told(t, g, x.from, true, x.reach, dead, counts)
	}
}

// P10.1: IDs 0 and the greatest int, and others far from one another.
func TestFarIDs(t *testing.T) {
	g := of([]int{math.MaxInt}, []int{0, math.MaxInt}, []int{1 << 32, 0, 0}, []int{math.MaxInt - 1, 1 << 32}, []int{math.MaxInt, 0})
	told(t, g, []int{0}, true, []int{0, math.MaxInt}, []int{1 << 32, math.MaxInt - 1}, []int{3, 1, 0, 2})
	told(t, g, []int{math.MaxInt - 1}, true, []int{0, 1 << 32, math.MaxInt - 1, math.MaxInt}, []int{1 << 32, math.MaxInt - 1}, []int{3, 1, 0, 2})
	told(t, g, []int{-1, math.MinInt, 1, 1<<32 - 1, 1<<32 + 1, math.MaxInt - 2}, true, nil, []int{1 << 32, math.MaxInt - 1}, []int{3, 1, 0, 2})
	told(t, g, []int{1 << 32}, true, []int{0, 1 << 32, math.MaxInt}, []int{1 << 32, math.MaxInt - 1}, []int{3, 1, 0, 2})
}

// P10.1: graphs that may not be, written out by hand: nothing is told of them, wherever one starts.
func TestWrong(t *testing.T) {
	for _, g := range []api.Graph{
		of(nil, []int{-1}),
		of(nil, []int{math.MinInt}),
		of(nil, []int{-1, -1}),
		of([]int{-1}, []int{-1}),
		of(nil, []int{-1}, []int{0}, []int{1}),
		of(nil, []int{-5}, []int{-4}),
		of(nil, []int{2}, []int{1}),
		of(nil, []int{0}, []int{-1}),
		of(nil, []int{1}, []int{2}, []int{4}, []int{3}),
		of(nil, []int{1}, []int{5}, []int{2}, []int{6}),
		of(nil, []int{0}, []int{0}),
		of(nil, []int{1}, []int{2}, []int{2}),
		of(nil, []int{1, 2}, []int{2, 1}, []int{2, 1}),
		of(nil, []int{math.MaxInt}, []int{math.MaxInt}),
		of(nil, []int{math.MaxInt}, []int{0}),
		of(nil, []int{0, 1}),
		of(nil, []int{0, -1}),
		of(nil, []int{1, 0}),
		of(nil, []int{1, 1, 1, 2}),
		of(nil, []int{1, 2}, []int{2, 1, 3}),
		of(nil, []int{1, 2, 2, 4}, []int{2}, []int{3}, []int{5}),
		of(nil, []int{0}, []int{math.MaxInt, math.MinInt}),
		of([]int{0}),
		of([]int{1}, []int{0}),
		of([]int{-1}, []int{0}),
		of([]int{0, 1}, []int{0}, []int{2}),
		of([]int{0, 2, 3}, []int{0}, []int{2}),
		of([]int{1, 2}, []int{2}, []int{3}),
		of([]int{2, 1}, []int{1}, []int{2}),
		of([]int{1, 3, 2}, []int{1}, []int{2}, []int{3}),
		of([]int{1, 1}, []int{1}, []int{2}),
		of([]int{1, 2, 2}, []int{1}, []int{2}),
		of([]int{math.MaxInt, math.MinInt}, []int{0}, []int{math.MaxInt}),
	} {
		for _, from := range [][]int{nil, {0}, {1}, {-1, 2, 2}, idsOf(g), g.Roots} {
			told(t, g, from, false, nil, nil, nil)
		}
	}
}

// P10.1: all graphs of at most three nodes with IDs from -1 to 2, one of which has at most two Outs, and of at most two roots: most of them may not be.
func TestAllSmallLists(t *testing.T) {
	mays := 0
	for _, ids := range lists(3, -1, 0, 1, 2) {
		for _, named := range lists(2, -1, 0, 1, 2) {
			for _, roots := range lists(2, -1, 0, 1, 2) {
				g := api.Graph{Roots: roots}
				for i, id := range ids {
					g.Nodes = append(g.Nodes, api.Node{ID: id})
					if i == len(named)%len(ids) {
						g.Nodes[i].Out = named
					}
				}
				same(t, g, named)
				if mayBe(g) {
					mays++
				}
			}
		}
	}
	if mays < 100 {
		t.Errorf("only %d of them may be", mays)
	}
}

// P10.1: one thing of a graph that may be is made wrong, at any place.
func TestOneThingWrong(t *testing.T) {
	for seed := range uint64(400) {
		g := copied(anyGraph(&seed, 2+next(&seed)%8, 2, 2))
		same(t, g, someIDs(&seed, g))
		i, beyond := next(&seed)%len(g.Nodes), g.Nodes[len(g.Nodes)-1].ID+1
		switch next(&seed) % 7 {
		case 0:
			g.Nodes[i].ID = -1 - next(&seed)%3
		case 1:
			g.Nodes[i].ID = g.Nodes[(i+1)%len(g.Nodes)].ID
		case 2:
			j := (i + 1) % len(g.Nodes)
			g.Nodes[i], g.Nodes[j] = g.Nodes[j], g.Nodes[i]
		case 3:
			g.Nodes[i].Out = append(g.Nodes[i].Out, beyond)
		case 4:
			g.Nodes[i].Out = append([]int{-1}, g.Nodes[i].Out...)
		case 5:
			g.Roots = append(g.Roots, beyond)
		case 6:
			g.Roots = append(idsOf(g), g.Nodes[i].ID)
		}
		told(t, g, someIDs(&seed, g), false, nil, nil, nil)
	}
}

// bits are the numbers of the bits that are set.
func bits(set int) []int {
	var l []int
	for i := range 16 {
		if set>>i&1 == 1 {
			l = append(l, i)
		}
	}
	return l
}

// P10.1: all graphs of three nodes that each point to one another at most once, with all roots, from all of them.
func TestAllGraphsOfThree(t *testing.T) {
	for edges := range 1 << 9 {
		for roots := range 1 << 3 {
			g := of(bits(roots), append([]int{0}, bits(edges&7)...), append([]int{1}, bits(edges>>3&7)...), append([]int{2}, bits(edges>>6)...))
			same(t, g, bits((edges+roots)%8))
		}
	}
}

// closed tells whether a set of nodes has all that its nodes point to.
func closed(g api.Graph, set []int) bool {
	for _, n := range g.Nodes {
		for _, id := range n.Out {
			if slices.Contains(set, n.ID) && !slices.Contains(set, id) {
				return false
			}
		}
	}
	return true
}

// P10.2: what is reached has all that it points to, and all nodes from which one starts; each set that has that has all of what is reached.
func TestReachedIsTheLeast(t *testing.T) {
	for seed := range uint64(120) {
		g := anyGraph(&seed, 1+next(&seed)%7, 1, 3)
		ids, from := idsOf(g), someIDs(&seed, g)
		start := slices.DeleteFunc(slices.Clone(from), func(id int) bool { return !slices.Contains(ids, id) })
		reach := graph.Reach(g, from)
		has := func(set, some []int) bool {
			return !slices.ContainsFunc(some, func(id int) bool { return !slices.Contains(set, id) })
		}
		if !closed(g, reach) || !has(reach, start) || !has(ids, reach) {
			t.Fatalf("Reach of %v from %v: %v", g, from, reach)
		}
		for b := range 1 << len(ids) {
			var set []int
			for _, i := range bits(b) {
				set = append(set, ids[i])
			}
			if closed(g, set) && has(set, start) && !has(set, reach) {
				t.Fatalf("Reach of %v from %v: %v, but %v has all that it ought to", g, from, reach, set)
			}
		}
	}
}

// P10.2: a node is dead or reached from the roots, never both; dead nodes are pointed to by dead ones alone, and are no roots.
func TestDeadArePointedToByDead(t *testing.T) {
	for seed := range uint64(400) {
		g := anyGraph(&seed, 1+next(&seed)%30, 1, 2+next(&seed)%20)
		dead, living := graph.Dead(g), graph.Reach(g, g.Roots)
		both := append(slices.Clone(dead), living...)
		slices.Sort(both)
		if !slices.Equal(both, idsOf(g)) {
			t.Fatalf("%v: dead %v, reached %v", g, dead, living)
		}
		for _, n := range g.Nodes {
			for _, id := range n.Out {
				if slices.Contains(dead, id) && !slices.Contains(dead, n.ID) {
					t.Fatalf("%v: %d is dead, but %d, which points to it, isn't", g, id, n.ID)
				}
			}
		}
		for _, id := range g.Roots {
			if slices.Contains(dead, id) {
				t.Fatalf("%v: %d is dead, but a root", g, id)
			}
		}
	}
}

// P10.2: counts add up to as many as all Outs, and roots; there is one for each node.
func TestCountsAddUp(t *testing.T) {
	for seed := range uint64(400) {
		g := anyGraph(&seed, 1+next(&seed)%30, 3, 1+next(&seed)%5)
		sum := 0
		counts := graph.Counts(g)
		for _, n := range counts {
			sum += n
		}
		if want := len(allOuts(g)) + len(g.Roots); sum != want || len(counts) != len(g.Nodes) {
			t.Fatalf("Counts of %v: %v, which are %d, want %d", g, counts, sum, want)
		}
	}
}

// P10.1: graphs of many kinds, each held against what is reckoned otherwise.
func TestManyGraphs(t *testing.T) {
	for seed := range uint64(1500) {
		g := anyGraph(&seed, 1+next(&seed)%25, next(&seed)%4, 1+next(&seed)%9)
		same(t, g, someIDs(&seed, g))
	}
}

// P1: a chain that is long, rising or falling, one that is a ring, and a node that all point to, and that points to all: every call ends.
func TestGreatGraphs(t *testing.T) {
	const many = 200000
	var rising, falling, star api.Graph
	var all []int
	for i := range many {
		rising.Nodes = append(rising.Nodes, api.Node{ID: i, Out: []int{(i + 1) % many}})
		falling.Nodes = append(falling.Nodes, api.Node{ID: i, Out: []int{max(i-1, 0)}})
		star.Nodes = append(star.Nodes, api.Node{ID: i, Out: []int{0}})
		all = append(all, i)
	}
	star.Nodes[0].Out = all
	star.Roots = []int{many - 1}
	for _, x := range []struct {
		g          api.Graph
		from, dead int
	}{{rising, 7, many}, {falling, many - 1, many}, {star, 3, 0}} {
		if l := graph.Reach(x.g, []int{x.from, x.from}); !slices.Equal(l, all) {
			t.Errorf("from %d: %d are reached, want %d", x.from, len(l), many)
		}
		if l := graph.Dead(x.g); len(l) != x.dead {
			t.Errorf("%d are dead, want %d", len(l), x.dead)
		}
	}
	if l := graph.Counts(star); l[0] != many || l[1] != 1 || l[many-1] != 2 {
		t.Errorf("Counts: %d, %d, %d, want %d, 1, 2", l[0], l[1], l[many-1], many)
	}
}

// P2, rule 4: what is told is the same each time, and hangs not on what was asked of other graphs, nor on which memory the lists share.
func TestTheSameEachTime(t *testing.T) {
	shared := []int{1, 2, 4}
	g := api.Graph{Nodes: []api.Node{{ID: 1, Out: shared[:2]}, {ID: 2, Out: shared[1:]}, {ID: 4, Out: shared[2:]}, {ID: 6, Out: shared}}, Roots: shared[1:]}
	other := of([]int{1}, []int{1, 6}, []int{6, 1})
	for range 40 {
		if l := graph.Reach(g, shared); !slices.Equal(l, []int{1, 2, 4}) {
			t.Fatalf("Reach: %v, want [1 2 4]", l)
		}
		if l := graph.Dead(g); !slices.Equal(l, []int{1, 6}) {
			t.Fatalf("Dead: %v, want [1 6]", l)
		}
		if l := graph.Counts(g); !slices.Equal(l, []int{2, 4, 4, 0}) {
			t.Fatalf("Counts: %v, want [2 4 4 0]", l)
		}
		if l := graph.Reach(other, shared); !slices.Equal(l, []int{1, 6}) || len(graph.Dead(other)) != 0 {
			t.Fatalf("another one: Reach %v, want [1 6]; Dead %v", l, graph.Dead(other))
		}
		spoil(graph.Reach(g, shared))
		spoil(graph.Dead(g))
		spoil(graph.Counts(g))
		if !slices.Equal(shared, []int{1, 2, 4}) {
			t.Fatalf("what was handed in is %v", shared)
		}
	}
}
