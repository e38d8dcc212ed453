package lexer_test

import (
	"math/big"
	"regexp"
	"slices"
	"strconv"
	"strings"
	"testing"

	"socage/api"
	"socage/handle"
	"socage/lexer"
)

// next is a number below one that is told, and looks like any: the same ones come in each run.
func next(seed *uint64, below int) int {
	*seed = *seed*6364136223846793005 + 1442695040888963407
	return int(*seed>>33) % below
}

func one(seed *uint64, l []string) string {
	return l[next(seed, len(l))]
}

// twin is another lexer: it looks for one pattern of each kind at what is left of a line.
type twin struct {
	patterns [5]*regexp.Regexp
	whole    *regexp.Regexp
}

func newTwin() twin {
	var x twin
	for kind, p := range []string{`^[a-z][a-z0-9]*`, `^\$[a-z][a-z0-9]*`, `^[0-9]+`, `^#[0-9a-f]+`, `^=`} {
		x.patterns[kind] = regexp.MustCompile(p)
	}
	x.whole = regexp.MustCompile(`^[a-z][a-z0-9]*$`)
	return x
}

func (x twin) scan(s string) ([]lexer.Token, int, api.Errno) {
	if len(s) > 1000 {
		return nil, 0, api.ErrFull
	}
	var l []lexer.Token
	for at := 0; ; {
		at += len(s[at:]) - len(strings.TrimLeft(s[at:], " "))
		if at == len(s) {
			return l, 0, api.OK
		}
		t, piece, ok := x.token(s[at:])
		if !ok {
			return nil, at, api.ErrForm
		}
		t.From = at
		l = append(l, t)
		at += len(piece)
	}
}

func (x twin) token(s string) (lexer.Token, string, bool) {
	for kind, p := range x.patterns {
		piece := p.FindString(s)
		if piece == "" {
			continue
		}
		t := lexer.Token{Kind: kind}
		ok := true
		switch kind {
		case name:
			t.Text = piece
		case ref:
			t.Text = piece[1:]
		case number:
			n, _ := new(big.Int).SetString(piece, 10)
			t.Num, ok = n.Uint64(), n.IsUint64()
		case word:
			n, _ := new(big.Int).SetString(piece[1:], 16)
			t.Num, ok = n.Uint64(), len(piece) == 17
		}
		return t, piece, ok
	}
	return lexer.Token{}, "", false
}

func (x twin) same(t *testing.T, s string) api.Errno {
	t.Helper()
	want, wantAt, wantE := x.scan(s)
	tell(t, s, want, wantAt, wantE)
	if got, want := lexer.Name(s), x.whole.MatchString(s); got != want {
		t.Fatalf("Name of %q: %t, want %t", s, got, want)
	}
	return wantE
}

// P18.1: all lines of at most three bytes, of such as matter, are told as the twin tells them.
func TestShortLinesAsTheTwin(t *testing.T) {
	x := newTwin()
	var bytes []string
	for b := range 256 {
		bytes = append(bytes, byteOf(b))
	}
	x.same(t, "")
	for _, a := range bytes {
		x.same(t, a)
		for _, b := range bytes {
			x.same(t, a+b)
		}
	}
	signs := strings.Split("a f g z A F 0 1 9 $ # = \t _ \xff \xc3 \xa9 -", " ")
	signs = append(signs, " ")
	for _, a := range signs {
		for _, b := range signs {
			for _, c := range signs {
				for _, d := range signs {
					x.same(t, a+b+c+d)
				}
			}
		}
	}
}

// pieces are such as lines are made of, few of which are none.
func pieces() []string {
	return []string{
		"a", "b2", "load", "point", "x", "f", "e", "0", "1", "7", "16", "007", "18446744073709551615", "18446744073709551616", "00018446744073709551615",
		"$a", "$b2", "$load", "$x0", "#00000000000000ff", "#ffffffffffffffff", "#0123456789abcdef", "=", "=", "==", " ", " ", "  ", "     ",
	}
}

func faults() []string {
	return []string{"$", "#", "#00000000000000f", "#00000000000000fff", "#00000000000000FF", "A", "\t", "\n", "é", "€", "😀", "\xff", "\x00", "-", "_", "18446744073709551616"}
}

// P18.1: any lines, right ones and such as have a fault, are told as the twin tells them.
func TestAnyLinesAsTheTwin(t *testing.T) {
	x := newTwin()
	seed := uint64(18)
	told := map[api.Errno]int{}
	for range 30000 {
		var s strings.Builder
		for range next(&seed, 40) {
			s.WriteString(one(&seed, pieces()))
			if next(&seed, 3) > 0 {
				s.WriteByte(' ')
			}
			if next(&seed, 40) == 0 {
				s.WriteString(one(&seed, faults()))
			}
		}
		told[x.same(t, s.String())]++
	}
	for range 3000 {
		var s strings.Builder
		for size := 900 + next(&seed, 200); s.Len() < size; {
			s.WriteString(one(&seed, pieces()[:12]))
			s.WriteString(one(&seed, []string{" ", "  ", "=", "$q", ""}))
		}
		if next(&seed, 2) == 0 {
			s.WriteString(one(&seed, faults()))
		}
		told[x.same(t, s.String())]++
	}
	for _, e := range []api.Errno{api.OK, api.ErrForm, api.ErrFull} {
		if told[e] < 500 {
			t.Errorf("error %d: just %d lines", e, told[e])
		}
	}
}

// written is a token as a text.
func written(t lexer.Token) string {
	switch t.Kind {
	case name:
		return t.Text
	case ref:
		return "$" + t.Text
	case number:
		return strconv.FormatUint(t.Num, 10)
	case word:
		return "#" + handle.Text(t.Num)
	}
	return "="
}

func anyName(seed *uint64) string {
	const first, others = "abcdefghijklmnopqrstuvwxyz", "abcdefghijklmnopqrstuvwxyz0123456789"
	s := first[next(seed, len(first)):][:1]
	for range next(seed, 12) {
		s += others[next(seed, len(others)):][:1]
	}
	return s
}

func anyNumber(seed *uint64) uint64 {
	n := uint64(next(seed, 1<<31))<<33 ^ uint64(next(seed, 1<<31))<<11 ^ uint64(next(seed, 1<<31))
	switch next(seed, 4) {
	case 0:
		return n
	case 1:
		return ^uint64(0) - n>>(32+next(seed, 32))
	}
	return n >> next(seed, 64)
}

func anyToken(seed *uint64) lexer.Token {
	switch kind := next(seed, 5); kind {
	case name, ref:
		return lexer.Token{Kind: kind, Text: anyName(seed)}
	case number, word:
		return lexer.Token{Kind: kind, Num: anyNumber(seed)}
	default:
		return lexer.Token{Kind: kind}
	}
}

func blanks(seed *uint64, least int) string {
	return strings.Repeat(" ", least+next(seed, 4)*next(seed, 4))
}

// laid is a line with the tokens, at least as many blanks between as are told, and the tokens with where they stand.
func laid(seed *uint64, l []lexer.Token, least int) (string, []lexer.Token) {
	s := blanks(seed, 0)
	var stand []lexer.Token
	for i, t := range l {
		if i > 0 {
			s += blanks(seed, least)
		}
		t.From = len(s)
		stand = append(stand, t)
		s += written(t)
	}
	return s + blanks(seed, 0), stand
}

// P18.2: any tokens, laid out with one or more blanks between them, are scanned as they are.
func TestTokensLaidOut(t *testing.T) {
	seed := uint64(182)
	for range 20000 {
		var l []lexer.Token
		for range next(&seed, 25) {
			l = append(l, anyToken(&seed))
		}
		s, want := laid(&seed, l, 1)
		if len(s) > 1000 {
			long(t, s)
			continue
		}
		tokens(t, s, want...)
	}
}

// P18.2: two tokens of any kinds, with blanks between, are two.
func TestTwoTokensLaidOut(t *testing.T) {
	all := []lexer.Token{
		{Kind: name, Text: "a"}, {Kind: name, Text: "f"}, {Kind: name, Text: "b2"}, {Kind: ref, Text: "a"}, {Kind: ref, Text: "z9"},
		{Kind: number}, {Kind: number, Num: 16}, {Kind: number, Num: 1<<64 - 1}, {Kind: word}, {Kind: word, Num: 1<<64 - 1}, {Kind: equals},
	}
	for _, a := range all {
		for _, b := range all {
			for _, between := range []int{1, 2, 3, 100} {
				for _, ahead := range []int{0, 1, 50} {
					for _, behind := range []int{0, 1, 50} {
						a.From = ahead
						b.From = ahead + len(written(a)) + between
						s := strings.Repeat(" ", ahead) + written(a) + strings.Repeat(" ", between) + written(b) + strings.Repeat(" ", behind)
						tokens(t, s, a, b)
					}
				}
			}
		}
	}
}

// P18.2: more blanks ahead, between, and behind, change only where the tokens stand; tokens that touch may be parted too.
func TestMoreBlanks(t *testing.T) {
	seed := uint64(1820)
	for range 20000 {
		var s strings.Builder
		for range next(&seed, 12) {
			s.WriteString(one(&seed, pieces()))
		}
		l, _, e := lexer.Scan(s.String())
		if e != api.OK {
			continue
		}
		var wide strings.Builder
		var want []lexer.Token
		for i, tok := range l {
			end := s.Len()
			if i+1 < len(l) {
				end = l[i+1].From
			}
			wide.WriteString(blanks(&seed, 0))
			piece := s.String()[tok.From:end]
			tok.From = wide.Len()
			want = append(want, tok)
			wide.WriteString(piece)
		}
		wide.WriteString(blanks(&seed, 0))
		if wide.Len() > 1000 {
			continue
		}
		tokens(t, wide.String(), want...)
	}
}

// P18.2: blanks ahead of a fault move it, blanks behind it don't.
func TestBlanksAtFaults(t *testing.T) {
	for _, ahead := range []string{"", "=", "a ", "1 load ", "$a=", "#0123456789abcdef "} {
		for _, fault := range faults() {
			for n := range 20 {
				b := strings.Repeat(" ", n)
				wrong(t, b+ahead+fault, n+len(ahead))
				wrong(t, ahead+" "+b+fault, n+1+len(ahead))
				wrong(t, ahead+" "+fault+b, 1+len(ahead))
				wrong(t, ahead+" "+fault+b+" a", 1+len(ahead))
			}
		}
	}
}

// P1, P2: any bytes are answered, twice alike, and as the twin answers them.
func TestAnyBytes(t *testing.T) {
	x := newTwin()
	seed := uint64(1)
	for range 30000 {
		b := make([]byte, next(&seed, 30))
		for i := range b {
			b[i] = byte(next(&seed, 256))
			if next(&seed, 3) > 0 {
				b[i] = "az09$#= fF"[next(&seed, 10)]
			}
		}
		x.same(t, string(b))
	}
	for _, n := range []int{999, 1000, 1001, 1 << 16, 1 << 24} {
		for _, s := range []string{"a", "0", "9", " ", "=", "#", "$", "\xff", "é"} {
			x.same(t, strings.Repeat(s, n/len(s)))
		}
	}
}

// P2, rule 4: an answer is new memory, and what is done with it changes none that follows.
func TestNothingIsShared(t *testing.T) {
	const s = "x = 3 point $a 1 #00000000000000ff"
	a, _, _ := lexer.Scan(s)
	b, _, _ := lexer.Scan(s)
	want := slices.Clone(b)
	for i := range a {
		a[i] = lexer.Token{Kind: 9, Text: "no", Num: 9, From: 9}
	}
	_ = append(a[:2], lexer.Token{Text: "none"})
	lexer.Scan("99999999999999999999")
	lexer.Scan("other = $line")
	lexer.Name("a b")
	if !same(b, want) {
		t.Errorf("an answer has changed: %+v, want %+v", b, want)
	}
	tokens(t, s, want...)
}
