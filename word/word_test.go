package word_test

import (
	"math"
	"math/big"
	"testing"

	"socage/api"
	"socage/word"
)

const (
	lastData = 1<<63 - 1
	lastCell = 1<<63 - 2
)

type row struct {
	v api.Value
	w uint64
	s string
}

func data(n uint64) api.Value    { return api.Value{Kind: api.Data, N: n} }
func pointer(n uint64) api.Value { return api.Value{Kind: api.Pointer, N: n} }

// rows are values, their words and their texts, written out.
func rows() []row {
	return []row{
		{api.Value{}, 0, "nil"},
		{data(0), 1, "0"},
		{pointer(0), 2, "@0"},
		{data(1), 3, "1"},
		{pointer(1), 4, "@1"},
		{data(2), 5, "2"},
		{pointer(2), 6, "@2"},
		{data(9), 19, "9"},
		{pointer(9), 20, "@9"},
		{data(10), 21, "10"},
		{pointer(10), 22, "@10"},
		{data(255), 511, "255"},
		{pointer(63), 128, "@63"},
		{data(1000000), 2000001, "1000000"},
		{pointer(3071), 6144, "@3071"},
		{data(1<<31 - 1), 4294967295, "2147483647"},
		{pointer(1<<31 - 1), 4294967296, "@2147483647"},
		{data(1 << 31), 4294967297, "2147483648"},
		{pointer(1 << 31), 4294967298, "@2147483648"},
		{data(1<<32 - 1), 8589934591, "4294967295"},
		{pointer(1 << 32), 8589934594, "@4294967296"},
		{data(1<<62 - 1), math.MaxInt64, "4611686018427387903"},
		{pointer(1<<62 - 1), 1 << 63, "@4611686018427387903"},
		{data(1 << 62), 1<<63 + 1, "4611686018427387904"},
		{pointer(1 << 62), 1<<63 + 2, "@4611686018427387904"},
		{pointer(lastCell - 1), math.MaxUint64 - 3, "@9223372036854775805"},
		{data(lastData - 1), math.MaxUint64 - 2, "9223372036854775806"},
		{pointer(lastCell), math.MaxUint64 - 1, "@9223372036854775806"},
		{data(lastData), math.MaxUint64, "9223372036854775807"},
	}
}

// numbers are those at the edges, each bit alone and missing alone, powers of 10 with those beside them, and many between.
func numbers() []uint64 {
	var l []uint64
	for _, edge := range []uint64{0, 1 << 8, 1 << 16, 1 << 26, 1 << 31, 1 << 32, 1 << 62, 1 << 63} {
		for by := range uint64(7) {
			l = append(l, edge+by-3)
		}
	}
	for bit := range 64 {
		l = append(l, 1<<bit, ^uint64(1<<bit), 1<<bit-1)
	}
	for ten := uint64(1); ten <= math.MaxUint64/10; ten *= 10 {
		l = append(l, 10*ten-1, 10*ten, 10*ten+1)
	}
	w := uint64(1)
	for range 5000 {
		w = w*6364136223846793005 + 1442695040888963407
		l = append(l, w, w>>1, w>>32, w<<31)
	}
	return l
}

// rights are the values that may be of all these numbers, nil among them; one may come twice.
func rights() []api.Value {
	l := []api.Value{{}}
	for _, n := range numbers() {
		if n <= lastData {
			l = append(l, data(n))
		}
		if n <= lastCell {
			l = append(l, pointer(n))
		}
	}
	return l
}

// wrongKinds are kinds below 0 and above 2, such among them as end with the bits of one that may be.
func wrongKinds() []api.Kind {
	return []api.Kind{
		math.MinInt, math.MinInt + 1, math.MinInt + 2, -1 << 62, -1 << 32, -1<<32 + 1, -1<<32 + 2, -256, -255, -254, -3, -2, -1,
		3, 4, 5, 255, 256, 257, 258, 1<<32 - 1, 1 << 32, 1<<32 + 1, 1<<32 + 2, 1 << 62, math.MaxInt - 2, math.MaxInt - 1, math.MaxInt,
	}
}

func refused(t *testing.T, v api.Value) {
	t.Helper()
	if word.Right(v) {
		t.Errorf("%+v: right", v)
	}
	if w, e := word.Encode(v); w != 0 || e != api.ErrArg {
		t.Errorf("%+v: word %d, error %d, want 0, ErrArg", v, w, e)
	}
	if s := word.Text(v); s != "" {
		t.Errorf("%+v: text %q, want none", v, s)
	}
}

// P4.1: Right, Encode, Decode and Text of ordinary values and words, and of those at the edges.
func TestValuesTheirWordsAndTexts(t *testing.T) {
	for _, r := range rows() {
		if !word.Right(r.v) {
			t.Errorf("%+v: not right", r.v)
		}
		if w, e := word.Encode(r.v); w != r.w || e != api.OK {
			t.Errorf("%+v: word %d, error %d, want %d, OK", r.v, w, e, r.w)
		}
		if v := word.Decode(r.w); v != r.v {
			t.Errorf("word %d: %+v, want %+v", r.w, v, r.v)
		}
		if s := word.Text(r.v); s != r.s {
			t.Errorf("%+v: text %q, want %q", r.v, s, r.s)
		}
	}
}

// P4.1: the words 0, 1, 2, 2^64 less 1 and 2^64 less 2, as the chapter's words give their values.
func TestWordsAtTheEdges(t *testing.T) {
	for w, want := range map[uint64]api.Value{
		0:                  {},
		1:                  {Kind: api.Data},
		2:                  {Kind: api.Pointer},
		math.MaxUint64 - 1: {Kind: api.Pointer, N: 9223372036854775806},
		math.MaxUint64:     {Kind: api.Data, N: api.MaxData},
	} {
		if v := word.Decode(w); v != want {
			t.Errorf("word %d: %+v, want %+v", w, v, want)
		}
	}
}

// P4.1: of data the word is twice N, and 1, of a pointer twice N, and 2, as whole numbers that never wrap round.
func TestWordIsTheSum(t *testing.T) {
	for _, v := range rights()[1:] {
		n := new(big.Int).SetUint64(v.N)
		want := n.Add(n, n).Add(n, big.NewInt(int64(v.Kind)))
		if w, e := word.Encode(v); e != api.OK || want.Cmp(new(big.Int).SetUint64(w)) != 0 {
			t.Fatalf("%+v: word %d, error %d, want %s, OK", v, w, e, want)
		}
	}
}

// P4.1: the text of data is its figures of base 10, that of a pointer an @ ahead of them, without a sign or zeros ahead.
func TestTextIsTheFigures(t *testing.T) {
	for _, v := range rights()[1:] {
		want := new(big.Int).SetUint64(v.N).String()
		if v.Kind == api.Pointer {
			want = "@" + want
		}
		if s := word.Text(v); s != want {
			t.Fatalf("%+v: text %q, want %q", v, s, want)
		}
	}
}

// P4.1, P1: nil with any N other than 0, data above 2^63 less 1, a pointer above 2^63 less 2.
func TestNumbersThatMayNotBe(t *testing.T) {
	for _, n := range numbers() {
		if n != 0 {
			refused(t, api.Value{Kind: api.Nil, N: n})
		}
		if n > lastData {
			refused(t, data(n))
		}
		if n > lastCell {
			refused(t, pointer(n))
		}
	}
	refused(t, api.Value{N: 1})
	refused(t, api.Value{N: math.MaxUint64})
	refused(t, data(lastData+1))
	refused(t, data(math.MaxUint64))
	refused(t, pointer(lastCell+1))
	refused(t, pointer(lastCell+2))
	refused(t, pointer(math.MaxUint64))
}

// P4.1, P1: kinds that there are not, the least and the greatest int among them, with any N.
func TestKindsThatMayNotBe(t *testing.T) {
	for _, k := range wrongKinds() {
		for _, n := range []uint64{0, 1, 2, 7, 1<<32 + 1, lastCell, lastData, lastData + 1, math.MaxUint64 - 1, math.MaxUint64} {
			refused(t, api.Value{Kind: k, N: n})
		}
	}
}

// P4.2: each word has a value that may be, and is that value's word.
func TestWordThereAndBack(t *testing.T) {
	for _, w := range numbers() {
		v := word.Decode(w)
		if !word.Right(v) {
			t.Fatalf("word %x: %+v is not right", w, v)
		}
		if back, e := word.Encode(v); back != w || e != api.OK {
			t.Fatalf("word %x: %+v, whose word is %x, error %d", w, v, back, e)
		}
	}
}

// P4.2: each value that may be is that of its word, and no two have one word.
func TestValueThereAndBack(t *testing.T) {
	whose := map[uint64]api.Value{}
	for _, v := range rights() {
		w, e := word.Encode(v)
		if e != api.OK || word.Decode(w) != v {
			t.Fatalf("%+v: word %x, error %d, whose value is %+v", v, w, e, word.Decode(w))
		}
		if other, ok := whose[w]; ok && other != v {
			t.Fatalf("%+v and %+v have one word, %x", v, other, w)
		}
		whose[w] = v
	}
}

// P4.2: two values that may be have one text just if they are one; none has the text of what may not be.
func TestNoTwoHaveOneText(t *testing.T) {
	whose := map[string]api.Value{}
	texts := map[api.Value]string{}
	for _, v := range rights() {
		s := word.Text(v)
		if s == "" {
			t.Fatalf("%+v: no text", v)
		}
		if other, ok := whose[s]; ok && other != v {
			t.Fatalf("%+v and %+v have one text, %q", v, other, s)
		}
		if other, ok := texts[v]; ok && other != s {
			t.Fatalf("%+v: text %q, then %q", v, other, s)
		}
		whose[s], texts[v] = v, s
	}
}

// P2: what is answered hangs on the argument alone: calls between, refused ones among them, change nothing.
func TestNothingIsKept(t *testing.T) {
	for range 3 {
		for _, r := range rows() {
			refused(t, api.Value{Kind: -1, N: r.v.N})
			first, e := word.Encode(r.v)
			word.Decode(^r.w)
			word.Text(word.Decode(^r.w))
			again, f := word.Encode(r.v)
			if first != r.w || again != r.w || e != api.OK || f != api.OK {
				t.Errorf("%+v: word %x, error %d, then %x, error %d, want %x", r.v, first, e, again, f, r.w)
			}
			if v := word.Decode(r.w); v != r.v || !word.Right(v) || word.Text(v) != r.s {
				t.Errorf("word %x: %+v, text %q, want %+v, %q", r.w, v, word.Text(v), r.v, r.s)
			}
		}
	}
}
