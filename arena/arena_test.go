package arena_test

import (
	"math"
	"slices"
	"testing"

	"socage/api"
	"socage/arena"
)

const most = 1 << 16

func made(t *testing.T, words int) *arena.Arena {
	t.Helper()
	a, e := arena.New(words)
	if a == nil || e != api.OK {
		t.Fatalf("New of %d: %v, error %d", words, a, e)
	}
	return a
}

// filled has words that all differ, none of them 0.
func filled(t *testing.T, words int) *arena.Arena {
	t.Helper()
	a := made(t, words)
	for at := range words {
		if e := a.Write(at, mark(at)); e != api.OK {
			t.Fatalf("Write at %d of %d: error %d", at, words, e)
		}
	}
	return a
}

func mark(at int) uint64 {
	return 1<<63 | uint64(at)<<20 | 1
}

func all(t *testing.T, a *arena.Arena) []uint64 {
	t.Helper()
	var l []uint64
	for at := range a.Len() {
		w, e := a.Read(at)
		if e != api.OK {
			t.Fatalf("Read at %d of %d: error %d", at, a.Len(), e)
		}
		l = append(l, w)
	}
	return l
}

// absent are places that no arena of so many words has.
func absent(words int) []int {
	return []int{math.MinInt, math.MinInt + 1, -most, -words - 1, -2, -1, words, words + 1, words + most, math.MaxInt - 1, math.MaxInt}
}

// P2.1: New and Len, from no words up to the most; all are 0, and none is touched.
func TestNew(t *testing.T) {
	for _, words := range []int{0, 1, 2, 22, most - 1, most} {
		a := made(t, words)
		if a.Len() != words || a.Touched() != 0 {
			t.Errorf("New of %d: Len %d, Touched %d", words, a.Len(), a.Touched())
		}
		if l := all(t, a); len(l) != words || slices.ContainsFunc(l, func(w uint64) bool { return w != 0 }) {
			t.Errorf("New of %d: not all words are 0", words)
		}
		if a.Touched() != words || a.Len() != words {
			t.Errorf("all %d read: Touched %d, Len %d", words, a.Touched(), a.Len())
		}
	}
}

// P2.1: fewer than 0 words, and more than the most.
func TestNewRefused(t *testing.T) {
	for _, words := range []int{math.MinInt, math.MinInt + 1, -most, -2, -1, most + 1, most + 2, 1 << 32, 1 << 62, math.MaxInt - 1, math.MaxInt} {
		if a, e := arena.New(words); a != nil || e != api.ErrArg {
			t.Errorf("New of %d: %v, error %d, want nil, ErrArg", words, a, e)
		}
	}
}

// P2.1: words of all bits at the first place, the last one, and one between.
func TestReadAndWrite(t *testing.T) {
	for _, words := range []int{1, 2, 8, most} {
		a := made(t, words)
		touched := 0
		for _, at := range []int{0, words / 2, words - 1} {
			for _, w := range []uint64{1, 7, 1 << 63, math.MaxUint64, 0, 5} {
				if e := a.Write(at, w); e != api.OK {
					t.Errorf("Write at %d of %d: error %d", at, words, e)
				}
				got, e := a.Read(at)
				if got != w || e != api.OK {
					t.Errorf("Read at %d of %d: %d, error %d, want %d", at, words, got, e, w)
				}
				touched += 2
				if a.Touched() != touched {
					t.Errorf("Touched %d, want %d", a.Touched(), touched)
				}
			}
		}
	}
}

// P2.1, rule 3: at places that are not there nothing is read, written, or touched.
func TestPlacesThatAreNot(t *testing.T) {
	for _, words := range []int{0, 1, 8, most} {
		a := filled(t, words)
		before := all(t, a)
		touched := a.Touched()
		for _, at := range absent(words) {
			if w, e := a.Read(at); w != 0 || e != api.ErrArg {
				t.Errorf("Read at %d of %d: %d, error %d, want 0, ErrArg", at, words, w, e)
			}
			if e := a.Write(at, 9); e != api.ErrArg {
				t.Errorf("Write at %d of %d: error %d, want ErrArg", at, words, e)
			}
		}
		if a.Touched() != touched || a.Len() != words {
			t.Errorf("%d words: Touched %d, Len %d, want %d, %d", words, a.Touched(), a.Len(), touched, words)
		}
		if !slices.Equal(all(t, a), before) {
			t.Errorf("%d words: an act with an error wrote something", words)
		}
	}
}

// P2.1, P2.2: Zero of each number of words at each place, none at Len and all up to Len among them: those are 0, the others stay, each counts once.
func TestZeroWithin(t *testing.T) {
	const words = 9
	for at := 0; at <= words; at++ {
		for n := 0; n <= words-at; n++ {
			a := filled(t, words)
			want := all(t, a)
			clear(want[at : at+n])
			touched := a.Touched()
			if e := a.Zero(at, n); e != api.OK {
				t.Errorf("Zero of %d at %d: error %d", n, at, e)
			}
			if a.Touched() != touched+n {
				t.Errorf("Zero of %d at %d: %d touched", n, at, a.Touched()-touched)
			}
			if got := all(t, a); !slices.Equal(got, want) {
				t.Errorf("Zero of %d at %d: %x, want %x", n, at, got, want)
			}
		}
	}
}

// P2.1: Zero of no words in arenas of no words and of the most; of all words there.
func TestZeroAtTheEdges(t *testing.T) {
	for _, words := range []int{0, 1, most} {
		a := filled(t, words)
		before := all(t, a)
		touched := a.Touched()
		for at := 0; at <= words; at++ {
			if e := a.Zero(at, 0); e != api.OK {
				t.Fatalf("Zero of 0 at %d of %d: error %d", at, words, e)
			}
		}
		if a.Touched() != touched || !slices.Equal(all(t, a), before) {
			t.Errorf("%d words: Zero of 0 touched something", words)
		}
		touched = a.Touched()
		if e := a.Zero(0, words); e != api.OK || a.Touched() != touched+words {
			t.Errorf("Zero of all %d: error %d, %d touched", words, e, a.Touched()-touched)
		}
		if slices.ContainsFunc(all(t, a), func(w uint64) bool { return w != 0 }) {
			t.Errorf("Zero of all %d: not all are 0", words)
		}
	}
}

// P2.1, rule 3: Zero with places or numbers that may not be, where sums near the greatest int would wrap round.
func TestZeroRefused(t *testing.T) {
	for _, words := range []int{0, 1, 8, most} {
		a := filled(t, words)
		before := all(t, a)
		touched := a.Touched()
		refuse := func(at, n int) {
			if e := a.Zero(at, n); e != api.ErrArg {
				t.Errorf("Zero of %d at %d, %d words: error %d, want ErrArg", n, at, words, e)
			}
		}
		for _, at := range []int{math.MinInt, math.MinInt + 1, -words - 1, -1, words + 1, words + 2, math.MaxInt - 1, math.MaxInt} {
			for _, n := range []int{math.MinInt, math.MinInt + 1, -1, 0, 1, 2, words, words + 1, math.MaxInt - 1, math.MaxInt} {
				refuse(at, n)
			}
		}
		for _, at := range []int{0, words / 2, words} {
			for _, n := range []int{math.MinInt, math.MinInt + 1, math.MinInt + words, -words - 1, -2, -1, words - at + 1, words + 1, math.MaxInt - words, math.MaxInt - 1, math.MaxInt} {
				refuse(at, n)
			}
		}
		if a.Touched() != touched || !slices.Equal(all(t, a), before) {
			t.Errorf("%d words: an act with an error touched something", words)
		}
	}
}

// P2.2: each word is what was written there last, or 0, and each touch counts once, through many acts of all kinds.
func TestKept(t *testing.T) {
	const words = 31
	a := made(t, words)
	want := make([]uint64, words)
	touched := 0
	for i := range 5000 {
		at := i * 17 % words
		switch i % 5 {
		case 0, 1, 3:
			want[at] = mark(i)
			touched++
			if e := a.Write(at, mark(i)); e != api.OK {
				t.Fatalf("act %d: Write: error %d", i, e)
			}
		case 2:
			touched++
			if w, e := a.Read(at); w != want[at] || e != api.OK {
				t.Fatalf("act %d: Read at %d: %x, error %d, want %x", i, at, w, e, want[at])
			}
		case 4:
			n := min(i%6, words-at)
			clear(want[at : at+n])
			touched += n
			if e := a.Zero(at, n); e != api.OK {
				t.Fatalf("act %d: Zero: error %d", i, e)
			}
		}
		if a.Touched() != touched {
			t.Fatalf("act %d: Touched %d, want %d", i, a.Touched(), touched)
		}
		if got := all(t, a); !slices.Equal(got, want) {
			t.Fatalf("act %d: %x, want %x", i, got, want)
		}
		touched += words
	}
}

// P2.2, P2: what is done to one arena is neither seen nor counted in another one.
func TestArenasStandApart(t *testing.T) {
	a, b := filled(t, 5), made(t, 5)
	if b.Touched() != 0 || !slices.Equal(all(t, b), make([]uint64, 5)) {
		t.Error("an arena has another one's words, or touches")
	}
	touched := a.Touched()
	if b.Write(2, 9) != api.OK || b.Zero(0, 5) != api.OK || a.Touched() != touched {
		t.Errorf("Touched %d, want %d", a.Touched(), touched)
	}
	for at, w := range all(t, a) {
		if w != mark(at) {
			t.Errorf("at %d: %x, want %x", at, w, mark(at))
		}
	}
}

// P2.1: asking how many there are, and were touched, touches nothing.
func TestAskingTouchesNothing(t *testing.T) {
	a := filled(t, 4)
	for range 3 {
		if a.Len() != 4 || a.Touched() != 4 {
			t.Errorf("Len %d, Touched %d, want 4, 4", a.Len(), a.Touched())
		}
	}
}

// P2.1, rule 8: a nil arena.
func TestNilArena(t *testing.T) {
	var a *arena.Arena
	for _, at := range append(absent(0), 1, 7) {
		if w, e := a.Read(at); w != 0 || e != api.ErrArg {
			t.Errorf("Read at %d: %d, error %d", at, w, e)
		}
		if e := a.Write(at, 1); e != api.ErrArg {
			t.Errorf("Write at %d: error %d", at, e)
		}
		for _, n := range []int{math.MinInt, -1, 0, 1, math.MaxInt} {
			if e := a.Zero(at, n); e != api.ErrArg {
				t.Errorf("Zero of %d at %d: error %d", n, at, e)
			}
		}
	}
	if a.Len() != 0 || a.Touched() != 0 {
		t.Errorf("Len %d, Touched %d, want 0, 0", a.Len(), a.Touched())
	}
}
