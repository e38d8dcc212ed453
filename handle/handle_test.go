package handle_test

import (
	"fmt"
	"math"
	"math/big"
	"strings"
	"testing"
	"unicode/utf8"

	"socage/api"
	"socage/handle"
)

const (
	root      = 1
	proxy     = 2
	lastIndex = 1<<26 - 1
	lastGen   = 1<<32 - 1
)

type row struct {
	h api.Handle
	w uint64
	s string
}

// rows are handles, their words and their texts, written out.
func rows() []row {
	return []row{
		{api.Handle{Kind: root, Tenant: 1}, 288230376151711744, "0400000000000000"},
		{api.Handle{Kind: root, Tenant: 1, Gen: 1}, 288230376151711745, "0400000000000001"},
		{api.Handle{Kind: root, Tenant: 1, Gen: lastGen}, 0x04000000ffffffff, "04000000ffffffff"},
		{api.Handle{Kind: root, Tenant: 1, Index: 1}, 0x0400000100000000, "0400000100000000"},
		{api.Handle{Kind: root, Tenant: 1, Index: lastIndex}, 0x07ffffff00000000, "07ffffff00000000"},
		{api.Handle{Kind: root, Tenant: 1, Index: lastIndex, Gen: lastGen}, 0x07ffffffffffffff, "07ffffffffffffff"},
		{api.Handle{Kind: proxy, Tenant: 1}, 576460752303423488, "0800000000000000"},
		{api.Handle{Kind: proxy, Tenant: 1, Index: lastIndex, Gen: lastGen}, 0x0bffffffffffffff, "0bffffffffffffff"},
		{api.Handle{Kind: root, Tenant: 2}, 0x1400000000000000, "1400000000000000"},
		{api.Handle{Kind: root, Tenant: 2, Index: 191, Gen: 1000000}, 0x140000bf000f4240, "140000bf000f4240"},
		{api.Handle{Kind: root, Tenant: 3, Index: 7, Gen: 2}, 0x2400000700000002, "2400000700000002"},
		{api.Handle{Kind: proxy, Tenant: 3, Index: 5, Gen: 258}, 0x2800000500000102, "2800000500000102"},
		{api.Handle{Kind: root, Tenant: 8, Index: 1 << 25, Gen: 1 << 31}, 0x7600000080000000, "7600000080000000"},
		{api.Handle{Kind: proxy, Tenant: 9, Index: lastIndex - 1, Gen: lastGen - 1}, 0x8bfffffefffffffe, "8bfffffefffffffe"},
		{api.Handle{Kind: proxy, Tenant: 11, Index: 0xabcdef, Gen: 0x12345678}, 0xa8abcdef12345678, "a8abcdef12345678"},
		{api.Handle{Kind: root, Tenant: 16}, 0xf400000000000000, "f400000000000000"},
		{api.Handle{Kind: root, Tenant: 16, Index: lastIndex, Gen: lastGen}, 0xf7ffffffffffffff, "f7ffffffffffffff"},
		{api.Handle{Kind: proxy, Tenant: 16}, 0xf800000000000000, "f800000000000000"},
		{api.Handle{Kind: proxy, Tenant: 16, Index: lastIndex}, 0xfbffffff00000000, "fbffffff00000000"},
		{api.Handle{Kind: proxy, Tenant: 16, Index: lastIndex, Gen: lastGen}, 18158513697557839871, "fbffffffffffffff"},
	}
}

func rightIndexes() []int {
	return []int{0, 1, 5, 191, 255, 256, 1<<16 - 1, 1 << 16, 1 << 25, 1<<25 + 1, lastIndex - 1, lastIndex}
}

func rightGens() []int {
	return []int{0, 1, 2, 258, 1 << 26, 1<<31 - 1, 1 << 31, 1<<31 + 1, lastGen - 1, lastGen}
}

// rights are handles that may be: both kinds, all tenants, and the others' edges, each beside each.
func rights() []api.Handle {
	var l []api.Handle
	for _, kind := range []int{root, proxy} {
		for tenant := 1; tenant <= 16; tenant++ {
			for _, index := range rightIndexes() {
				for _, gen := range rightGens() {
					l = append(l, api.Handle{Kind: kind, Tenant: tenant, Index: index, Gen: gen})
				}
			}
		}
	}
	return l
}

// far are numbers that nothing that a handle has may be, such among them as end with the bits of one that may be.
func far() []int {
	return []int{
		math.MinInt, math.MinInt + 1, math.MinInt + 2, math.MinInt + lastGen, -1 << 62, -1<<32 - 1, -1 << 32, -1<<32 + 1, -1<<26 + 1,
		-1 << 26, -256, -255, -254, -16, -15, -3, -2, -1,
		1 << 32, 1<<32 + 1, 1<<32 + 2, 1<<32 + 16, 1<<33 - 1, 1 << 58, 1<<60 + 1, 1 << 62, math.MaxInt - lastGen, math.MaxInt - 1, math.MaxInt,
	}
}

func wrongKinds() []int {
	return append(far(), 0, 3, 4, 5, 6, 15, 16, 255, 256, 257, 258, lastIndex, lastGen)
}

func wrongTenants() []int {
	return append(far(), 0, 17, 18, 31, 32, 33, 255, 256, 257, 272, lastIndex, lastGen)
}

func wrongIndexes() []int {
	return append(far(), lastIndex+1, lastIndex+2, 1<<27-1, 1<<27, 1<<28, 1<<31, lastGen-1, lastGen)
}

func wrongGens() []int {
	return append(far(), lastGen+1, lastGen+2)
}

// words are those at the edges, each bit alone and missing alone, and many between.
func words() []uint64 {
	var l []uint64
	for _, edge := range []uint64{0, 1 << 32, 1 << 58, 1 << 59, 3 << 58, 1 << 60, 1 << 63} {
		for by := range uint64(7) {
			l = append(l, edge+by-3)
		}
	}
	for bit := range 64 {
		l = append(l, 1<<bit, ^uint64(1<<bit), 1<<bit-1)
	}
	for _, r := range rows() {
		l = append(l, r.w, ^r.w)
	}
	w := uint64(1)
	for range 5000 {
		w = w*6364136223846793005 + 1442695040888963407
		l = append(l, w, w>>1, w>>32, w<<31)
	}
	return l
}

func refused(t *testing.T, h api.Handle) {
	t.Helper()
	if handle.Right(h) {
		t.Errorf("%+v: right", h)
	}
	if w, e := handle.Encode(h); w != 0 || e != api.ErrArg {
		t.Errorf("%+v: word %x, error %d, want 0, ErrArg", h, w, e)
	}
}

func noWord(t *testing.T, s string) {
	t.Helper()
	if w, e := handle.Parse(s); w != 0 || e != api.ErrForm {
		t.Errorf("%q: word %x, error %d, want 0, ErrForm", s, w, e)
	}
}

// P5.1: Right, Encode, Decode, Text and Parse of ordinary handles, roots and proxies, and of those at the edges.
func TestHandlesTheirWordsAndTexts(t *testing.T) {
	for _, r := range rows() {
		if !handle.Right(r.h) {
			t.Errorf("%+v: not right", r.h)
		}
		if w, e := handle.Encode(r.h); w != r.w || e != api.OK {
			t.Errorf("%+v: word %x, error %d, want %x, OK", r.h, w, e, r.w)
		}
		if h, e := handle.Decode(r.w); h != r.h || e != api.OK {
			t.Errorf("word %x: %+v, error %d, want %+v, OK", r.w, h, e, r.h)
		}
		if s := handle.Text(r.w); s != r.s {
			t.Errorf("word %x: text %q, want %q", r.w, s, r.s)
		}
		if w, e := handle.Parse(r.s); w != r.w || e != api.OK {
			t.Errorf("%q: word %x, error %d, want %x, OK", r.s, w, e, r.w)
		}
	}
}

// P5.1: a word is 2^60 times Tenant less 1, 2^58 times Kind, 2^32 times Index, and Gen, as whole numbers that never wrap round.
func TestWordIsTheSum(t *testing.T) {
	part := func(n int, bits uint) *big.Int {
		return new(big.Int).Lsh(big.NewInt(int64(n)), bits)
	}
	for _, h := range rights() {
		want := part(h.Tenant-1, 60)
		want.Add(want, part(h.Kind, 58)).Add(want, part(h.Index, 32)).Add(want, part(h.Gen, 0))
		if w, e := handle.Encode(h); e != api.OK || want.Cmp(new(big.Int).SetUint64(w)) != 0 {
			t.Fatalf("%+v: word %x, error %d, want %x, OK", h, w, e, want)
		}
	}
}

// P5.1, P1: one thing is wrong, all others are at any of their edges.
func TestOneThingMayNotBe(t *testing.T) {
	for _, h := range rights() {
		if h.Tenant != 1 && h.Tenant != 16 {
			continue
		}
		for _, n := range wrongKinds() {
			refused(t, api.Handle{Kind: n, Tenant: h.Tenant, Index: h.Index, Gen: h.Gen})
		}
		for _, n := range wrongTenants() {
			refused(t, api.Handle{Kind: h.Kind, Tenant: n, Index: h.Index, Gen: h.Gen})
		}
		for _, n := range wrongIndexes() {
			refused(t, api.Handle{Kind: h.Kind, Tenant: h.Tenant, Index: n, Gen: h.Gen})
		}
		for _, n := range wrongGens() {
			refused(t, api.Handle{Kind: h.Kind, Tenant: h.Tenant, Index: h.Index, Gen: n})
		}
	}
}

// P5.1, P1: several things are wrong, the least and the greatest int in every place among them.
func TestMoreThanOneThingMayNotBe(t *testing.T) {
	refused(t, api.Handle{})
	for _, a := range far() {
		for _, b := range far() {
			refused(t, api.Handle{Kind: a, Tenant: b, Index: a, Gen: b})
			refused(t, api.Handle{Kind: a, Tenant: a, Index: b, Gen: b})
			refused(t, api.Handle{Kind: root, Tenant: a, Index: b, Gen: 1})
			refused(t, api.Handle{Kind: proxy, Tenant: 1, Index: a, Gen: b})
		}
	}
}

// P5.1: the words whose kind is 0 or 3, 0 and 2^64 less 1 among them, are no handle's; all others are one's.
func TestWordsThatAreNoHandles(t *testing.T) {
	for _, w := range []uint64{0, 1, 5, 1<<32 - 1, 1 << 32, 1<<58 - 1, 3 << 58, 1<<60 - 1, 1 << 60, 15 << 60, 0xfc00000000000000, math.MaxUint64 - 1, math.MaxUint64} {
		if h, e := handle.Decode(w); h != (api.Handle{}) || e != api.ErrHandle {
			t.Errorf("word %x: %+v, error %d, want none, ErrHandle", w, h, e)
		}
	}
	for _, w := range words() {
		want := api.ErrHandle
		if kind := w / (1 << 58) % 4; kind == root || kind == proxy {
			want = api.OK
		}
		h, e := handle.Decode(w)
		if e != want || (e != api.OK && h != api.Handle{}) {
			t.Fatalf("word %x: %+v, error %d, want %d", w, h, e, want)
		}
	}
}

// P5.1: any word has a text, also one that is no handle's.
func TestTextsOfAnyWord(t *testing.T) {
	for w, want := range map[uint64]string{
		0:                  "0000000000000000",
		1:                  "0000000000000001",
		9:                  "0000000000000009",
		10:                 "000000000000000a",
		15:                 "000000000000000f",
		16:                 "0000000000000010",
		0xabcdef:           "0000000000abcdef",
		0x0123456789abcdef: "0123456789abcdef",
		0xfedcba9876543210: "fedcba9876543210",
		1<<60 - 1:          "0fffffffffffffff",
		1 << 60:            "1000000000000000",
		1 << 63:            "8000000000000000",
		math.MaxUint64 - 1: "fffffffffffffffe",
		math.MaxUint64:     "ffffffffffffffff",
	} {
		if s := handle.Text(w); s != want {
			t.Errorf("word %x: text %q, want %q", w, s, want)
		}
		if got, e := handle.Parse(want); got != w || e != api.OK {
			t.Errorf("%q: word %x, error %d, want %x, OK", want, got, e, w)
		}
	}
	for _, w := range words() {
		if s, want := handle.Text(w), fmt.Sprintf("%016x", w); s != want {
			t.Fatalf("word %x: text %q, want %q", w, s, want)
		}
	}
}

// P5.1, P1: fewer figures than 16, none at all, and more.
func TestTextsOfWrongLength(t *testing.T) {
	for n := range 200 {
		if n == 16 {
			continue
		}
		noWord(t, strings.Repeat("0", n))
		noWord(t, strings.Repeat("f", n))
		noWord(t, strings.Repeat("28a", n)[:n])
	}
	noWord(t, "")
	noWord(t, "0x2800000500000102")
	noWord(t, strings.Repeat("0", 1<<20))
	noWord(t, "2800000500000102\n")
	noWord(t, " 2800000500000102")
	noWord(t, "28000005000001022800000500000102")
}

// P5.1, P1: at each place, the first and the last among them, any byte that is no figure, capitals and such as are no characters too.
func TestTextsWithBytesThatAreNoFigures(t *testing.T) {
	for b := range 256 {
		if strings.IndexByte("0123456789abcdef", byte(b)) >= 0 {
			continue
		}
		for _, s := range []string{"0000000000000000", "ffffffffffffffff", "2800000500000102"} {
			for place := range 16 {
				noWord(t, s[:place]+string([]byte{byte(b)})+s[place+1:])
			}
		}
		noWord(t, strings.Repeat(string([]byte{byte(b)}), 16))
	}
	noWord(t, "FBFFFFFFFFFFFFFF")
	noWord(t, "A8ABCDEF12345678")
	noWord(t, "+800000500000102")
	noWord(t, "-800000500000102")
	noWord(t, "0x00000500000102")
	noWord(t, "2800_0005_000001")
}

// P5.1, P1: characters of more than one byte, at any place, among as many others as make 16 bytes, or 16 characters.
func TestTextsWithCharactersOfMoreBytes(t *testing.T) {
	// Figures of other scripts, and such characters as end with the bits of a figure, are among them.
	for _, r := range []rune{0xe9, 0x80, 0xff, 0x130, 0x161, 0x430, 0x660, 0x669, 0x966, 0x2070, 0xff10, 0xff19, 0xff41, 0xff46, utf8.RuneError, 0x10030, 0x1d7ce, 0x1d7d8, utf8.MaxRune} {
		for _, others := range []int{16 - utf8.RuneLen(r), 15} {
			for place := 0; place <= others; place++ {
				noWord(t, strings.Repeat("3", place)+string(r)+strings.Repeat("b", others-place))
			}
		}
		noWord(t, strings.Repeat(string(r), 16))
		noWord(t, strings.Repeat(string(r), 16/utf8.RuneLen(r)))
	}
}

// P5.1, P1: pieces of characters, characters written longer than they are, and such as may not be written at all.
func TestTextsWithBytesThatAreNoCharacters(t *testing.T) {
	for _, piece := range []string{"\xff", "\x80", "\xc3", "\xc0\xb0", "\xe0\x80\xb0", "\xed\xa0\x80", "\xf0\x9d\x9f", "\xf4\x90\x80\x80", "\xfe\xff"} {
		for _, others := range []int{16 - len(piece), 15} {
			for place := 0; place <= others; place++ {
				noWord(t, strings.Repeat("0", place)+piece+strings.Repeat("0", others-place))
			}
		}
	}
}

// P5.2: a handle that may be is that of its word, and no two have one word.
func TestHandleThereAndBack(t *testing.T) {
	whose := map[uint64]api.Handle{}
	for _, h := range rights() {
		w, e := handle.Encode(h)
		if !handle.Right(h) || e != api.OK {
			t.Fatalf("%+v: word %x, error %d, want OK", h, w, e)
		}
		if back, e := handle.Decode(w); back != h || e != api.OK {
			t.Fatalf("%+v: word %x, whose handle is %+v, error %d", h, w, back, e)
		}
		if other, ok := whose[w]; ok {
			t.Fatalf("%+v and %+v have one word, %x", h, other, w)
		}
		whose[w] = h
	}
}

// P5.2: a word that is a handle's is that handle's, which may be.
func TestWordThereAndBack(t *testing.T) {
	found := 0
	for _, w := range words() {
		h, e := handle.Decode(w)
		if e != api.OK {
			continue
		}
		found++
		if !handle.Right(h) {
			t.Fatalf("word %x: %+v is not right", w, h)
		}
		if back, e := handle.Encode(h); back != w || e != api.OK {
			t.Fatalf("word %x: %+v, whose word is %x, error %d", w, h, back, e)
		}
	}
	if found < 1000 {
		t.Errorf("only %d words are a handle's", found)
	}
}

// P5.2: each word is that of its text, which has 16 characters.
func TestTextThereAndBack(t *testing.T) {
	for _, w := range words() {
		s := handle.Text(w)
		if len(s) != 16 {
			t.Fatalf("word %x: text %q", w, s)
		}
		if back, e := handle.Parse(s); back != w || e != api.OK {
			t.Fatalf("word %x: text %q, whose word is %x, error %d", w, s, back, e)
		}
	}
}

// P2: what is answered hangs on the argument alone: calls between, refused ones among them, change nothing.
func TestNothingIsKept(t *testing.T) {
	for range 3 {
		for _, r := range rows() {
			refused(t, api.Handle{Kind: r.h.Kind, Tenant: -r.h.Tenant, Index: r.h.Index, Gen: r.h.Gen})
			noWord(t, strings.ToUpper(r.s)+"0")
			noWord(t, r.s[:15]+"g")
			handle.Decode(^r.w)
			handle.Text(^r.w)
			if w, e := handle.Encode(r.h); w != r.w || e != api.OK {
				t.Errorf("%+v: word %x, error %d, want %x, OK", r.h, w, e, r.w)
			}
			if h, e := handle.Decode(r.w); h != r.h || e != api.OK {
				t.Errorf("word %x: %+v, error %d, want %+v, OK", r.w, h, e, r.h)
			}
			if w, e := handle.Parse(handle.Text(r.w)); w != r.w || e != api.OK {
				t.Errorf("text of %x: word %x, error %d, want OK", r.w, w, e)
			}
		}
	}
}
