package head_test

import (
	"math"
	"testing"

	"socage/api"
	"socage/head"
)

const (
	lastGen   = 1<<32 - 1
	lastCount = 1<<31 - 1
)

type pair struct {
	h api.Header
	w uint64
}

// pairs are headers and their words, written out as numbers.
func pairs() []pair {
	return []pair{
		{api.Header{}, 0},
		{api.Header{Count: 1}, 1},
		{api.Header{Count: 1000000}, 1000000},
		{api.Header{Count: lastCount - 1}, 2147483646},
		{api.Header{Count: lastCount}, 2147483647},
		{api.Header{Used: true}, 2147483648},
		{api.Header{Count: 1, Used: true}, 2147483649},
		{api.Header{Count: lastCount - 1, Used: true}, 4294967294},
		{api.Header{Count: lastCount, Used: true}, 4294967295},
		{api.Header{Gen: 1}, 4294967296},
		{api.Header{Gen: 1, Count: 1}, 4294967297},
		{api.Header{Gen: 1, Used: true}, 6442450944},
		{api.Header{Gen: 2, Count: 3, Used: true}, 10737418243},
		{api.Header{Gen: 258, Count: 7}, 0x0000010200000007},
		{api.Header{Gen: 258, Count: 7, Used: true}, 0x0000010280000007},
		{api.Header{Gen: 1<<31 - 1}, 0x7fffffff00000000},
		{api.Header{Gen: 1<<31 - 1, Count: lastCount, Used: true}, math.MaxInt64},
		{api.Header{Gen: 1 << 31}, 1 << 63},
		{api.Header{Gen: 1 << 31, Count: 1}, 1<<63 + 1},
		{api.Header{Gen: lastGen - 1, Count: lastCount, Used: true}, 0xfffffffeffffffff},
		{api.Header{Gen: lastGen}, 0xffffffff00000000},
		{api.Header{Gen: lastGen, Count: lastCount}, 0xffffffff7fffffff},
		{api.Header{Gen: lastGen, Used: true}, 0xffffffff80000000},
		{api.Header{Gen: lastGen, Count: lastCount - 1, Used: true}, math.MaxUint64 - 1},
		{api.Header{Gen: lastGen, Count: lastCount, Used: true}, math.MaxUint64},
	}
}

// wrongGens are numbers that neither a Gen nor a Count may be.
func wrongGens() []int {
	return []int{
		math.MinInt, math.MinInt + 1, math.MinInt + lastGen, -1 << 62, -1<<32 - 1, -1 << 32, -1<<32 + 1, -1<<31 - 1, -1 << 31, -1<<31 + 1, -2, -1,
		1 << 32, 1<<32 + 1, 1<<33 - 1, 1 << 33, 1<<62 + 5, math.MaxInt - lastGen, math.MaxInt - 1, math.MaxInt,
	}
}

// wrongCounts are these, and such as a Gen may be, but no Count.
func wrongCounts() []int {
	return append(wrongGens(), lastCount+1, lastCount+2, lastGen-1, lastGen)
}

func rightGens() []int {
	return []int{0, 1, 2, 258, lastCount - 1, lastCount, lastCount + 1, lastCount + 2, lastGen - 1, lastGen}
}

func rightCounts() []int {
	return []int{0, 1, 2, 77, 1<<30 - 1, 1 << 30, lastCount - 1, lastCount}
}

// P3.1: Right, Encode and Decode of ordinary headers and words, and of those at the edges.
func TestHeadersAndTheirWords(t *testing.T) {
	for _, p := range pairs() {
		if !head.Right(p.h) {
			t.Errorf("%+v: not right", p.h)
		}
		if w, e := head.Encode(p.h); w != p.w || e != api.OK {
			t.Errorf("%+v: word %d, error %d, want %d, OK", p.h, w, e, p.w)
		}
		if h := head.Decode(p.w); h != p.h {
			t.Errorf("word %d: %+v, want %+v", p.w, h, p.h)
		}
	}
}

// P3.1: a word is 2^32 times Gen, 2^31 more if Used, and Count, at all edges of each beside all edges of the others.
func TestWordIsTheSum(t *testing.T) {
	for _, gen := range rightGens() {
		for _, count := range rightCounts() {
			sum := uint64(gen)*4294967296 + uint64(count)
			for used, want := range map[bool]uint64{false: sum, true: sum + 2147483648} {
				h := api.Header{Gen: gen, Count: count, Used: used}
				if w, e := head.Encode(h); w != want || e != api.OK {
					t.Errorf("%+v: word %d, error %d, want %d, OK", h, w, e, want)
				}
			}
		}
	}
}

func refused(t *testing.T, h api.Header) {
	t.Helper()
	if head.Right(h) {
		t.Errorf("%+v: right", h)
	}
	if w, e := head.Encode(h); w != 0 || e != api.ErrArg {
		t.Errorf("%+v: word %d, error %d, want 0, ErrArg", h, w, e)
	}
}

// P3.1, P1: headers that may not be, by their Gen, their Count, or both.
func TestHeadersThatMayNotBe(t *testing.T) {
	for _, used := range []bool{false, true} {
		for _, gen := range wrongGens() {
			for _, count := range append(rightCounts(), wrongCounts()...) {
				refused(t, api.Header{Gen: gen, Count: count, Used: used})
			}
		}
		for _, count := range wrongCounts() {
			for _, gen := range rightGens() {
				refused(t, api.Header{Gen: gen, Count: count, Used: used})
			}
		}
	}
}

// words are the edges that the chapter names with those beside them, each bit alone and missing alone, and many between.
func words() []uint64 {
	var l []uint64
	for _, edge := range []uint64{0, 1 << 31, 1 << 32, 1 << 33, 1 << 63} {
		for by := range uint64(5) {
			l = append(l, edge+by-2)
		}
	}
	for bit := range 64 {
		l = append(l, 1<<bit, ^uint64(1<<bit), 1<<bit-1)
	}
	w := uint64(1)
	for range 20000 {
		w = w*6364136223846793005 + 1442695040888963407
		l = append(l, w, w>>32, w<<31)
	}
	return l
}

// P3.2: each word has a header that may be, and is that header's word.
func TestWordThereAndBack(t *testing.T) {
	for _, w := range words() {
		h := head.Decode(w)
		if !head.Right(h) {
			t.Fatalf("word %x: %+v is not right", w, h)
		}
		if back, e := head.Encode(h); back != w || e != api.OK {
			t.Fatalf("word %x: %+v, whose word is %x, error %d", w, h, back, e)
		}
	}
}

// P3.2: each header that may be is that of its word, and no two have one word.
func TestHeaderThereAndBack(t *testing.T) {
	whose := map[uint64]api.Header{}
	for _, gen := range rightGens() {
		for _, count := range rightCounts() {
			for _, used := range []bool{false, true} {
				h := api.Header{Gen: gen, Count: count, Used: used}
				w, e := head.Encode(h)
				if e != api.OK || head.Decode(w) != h {
					t.Errorf("%+v: word %x, error %d, whose header is %+v", h, w, e, head.Decode(w))
				}
				if other, ok := whose[w]; ok {
					t.Errorf("%+v and %+v have one word, %x", h, other, w)
				}
				whose[w] = h
			}
		}
	}
}

// P2: what is answered hangs on the argument alone: calls between, refused ones among them, change nothing.
func TestNothingIsKept(t *testing.T) {
	for range 3 {
		for _, p := range pairs() {
			refused(t, api.Header{Gen: -1, Count: p.h.Count, Used: p.h.Used})
			first, e := head.Encode(p.h)
			head.Decode(^p.w)
			again, f := head.Encode(p.h)
			if first != p.w || again != p.w || e != api.OK || f != api.OK {
				t.Errorf("%+v: word %x, error %d, then %x, error %d, want %x", p.h, first, e, again, f, p.w)
			}
			if h := head.Decode(p.w); h != p.h || head.Decode(p.w) != h {
				t.Errorf("word %x: %+v, want %+v", p.w, h, p.h)
			}
		}
	}
}
