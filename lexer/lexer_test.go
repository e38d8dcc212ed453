package lexer_test

import (
	"math"
	"strings"
	"testing"
	"unicode/utf8"

	"socage/api"
	"socage/handle"
	"socage/lexer"
)

// The kinds of a token.
const (
	name = iota
	ref
	number
	word
	equals
)

// byteOf is the text of a byte alone, one that is no character among them.
func byteOf(b int) string {
	return string([]byte{byte(b)})
}

// tell holds what Scan answers against what is wanted.
func tell(t *testing.T, s string, want []lexer.Token, wantAt int, wantE api.Errno) {
	t.Helper()
	l, at, e := lexer.Scan(s)
	if at != wantAt || e != wantE || !same(l, want) {
		t.Fatalf("%q: %+v, %d, error %d, want %+v, %d, error %d", s, l, at, e, want, wantAt, wantE)
	}
}

func same(a, b []lexer.Token) bool {
	if len(a) != len(b) {
		return false
	}
	for i := range a {
		if a[i] != b[i] {
			return false
		}
	}
	return true
}

func tokens(t *testing.T, s string, want ...lexer.Token) {
	t.Helper()
	tell(t, s, want, 0, api.OK)
}

// wrong is a line with a byte at which no token begins.
func wrong(t *testing.T, s string, at int) {
	t.Helper()
	tell(t, s, nil, at, api.ErrForm)
}

func long(t *testing.T, s string) {
	t.Helper()
	tell(t, s, nil, 0, api.ErrFull)
}

// Tokens of each kind.
func nameAt(from int, text string) lexer.Token {
	return lexer.Token{Kind: name, Text: text, From: from}
}

func refAt(from int, text string) lexer.Token {
	return lexer.Token{Kind: ref, Text: text, From: from}
}

func numberAt(from int, n uint64) lexer.Token {
	return lexer.Token{Kind: number, Num: n, From: from}
}

func wordAt(from int, w uint64) lexer.Token {
	return lexer.Token{Kind: word, Num: w, From: from}
}

func equalsAt(from int) lexer.Token {
	return lexer.Token{Kind: equals, From: from}
}

// P18.1: a line as ordinary ones are.
func TestOrdinary(t *testing.T) {
	tokens(t, "x = 3 point $a 1 #00000000000000ff",
		nameAt(0, "x"), equalsAt(2), numberAt(4, 3), nameAt(6, "point"), refAt(12, "a"), numberAt(15, 1), wordAt(17, 255))
	tokens(t, "1 laod", numberAt(0, 1), nameAt(2, "laod"))
	tokens(t, "1 load $c 0", numberAt(0, 1), nameAt(2, "load"), refAt(7, "c"), numberAt(10, 0))
	tokens(t, "12 usage", numberAt(0, 12), nameAt(3, "usage"))
	tokens(t, "p2 = 2 accept 16", nameAt(0, "p2"), equalsAt(3), numberAt(5, 2), nameAt(7, "accept"), numberAt(14, 16))
	tokens(t, "  b1  =16   alloc 2 ", nameAt(2, "b1"), equalsAt(6), numberAt(7, 16), nameAt(12, "alloc"), numberAt(18, 2))
	tokens(t, "#2800000500000102", wordAt(0, 0x2800000500000102))
}

// P18.1: lines without tokens.
func TestLinesOfBlanks(t *testing.T) {
	for n := range lexer.MaxLine + 1 {
		tokens(t, strings.Repeat(" ", n))
	}
	long(t, strings.Repeat(" ", 1001))
}

// P18.1: names of one letter, of each one, with letters and figures behind.
func TestNames(t *testing.T) {
	for r := 'a'; r <= 'z'; r++ {
		tokens(t, string(r), nameAt(0, string(r)))
		for _, behind := range "abmyz0189" {
			s := string(r) + string(behind)
			tokens(t, s, nameAt(0, s))
			tokens(t, " "+s+"q7 ", nameAt(1, s+"q7"))
		}
	}
	for _, s := range []string{"a0", "a1b", "a12b34", "z9z9", "laod", "x00000000000000000000", "e1", "b18446744073709551616", "ff", "a1=", "a0123456789abcdef"} {
		s, more := strings.CutSuffix(s, "=")
		want := []lexer.Token{nameAt(0, s)}
		if more {
			s, want = s+"=", append(want, equalsAt(len(s)))
		}
		tokens(t, s, want...)
	}
}

// P18.1: a figure ahead of a name is a number, and touches it.
func TestFiguresAheadOfNames(t *testing.T) {
	tokens(t, "1a", numberAt(0, 1), nameAt(1, "a"))
	tokens(t, "12a", numberAt(0, 12), nameAt(2, "a"))
	tokens(t, "0x1f", numberAt(0, 0), nameAt(1, "x1f"))
	tokens(t, "1e9", numberAt(0, 1), nameAt(1, "e9"))
	tokens(t, "12a34b 5c", numberAt(0, 12), nameAt(2, "a34b"), numberAt(7, 5), nameAt(8, "c"))
	tokens(t, "18446744073709551615z", numberAt(0, math.MaxUint64), nameAt(20, "z"))
	wrong(t, "18446744073709551616z", 0)
}

// P18.1: a capital letter, or another sign, ahead of a name, within, and behind.
func TestOtherSignsAtNames(t *testing.T) {
	for _, sign := range []string{"A", "M", "Z", "_", "-", "+", ".", ",", "'", "\"", "`", "{", "@", "[", "/", ":", "!", "%", "&", "*", "(", ")", ";", "<", ">", "?", "\\", "]", "^", "|", "}", "~", "é", "ª", "ａ", "à"} {
		wrong(t, sign, 0)
		wrong(t, sign+"ab", 0)
		wrong(t, "a"+sign+"b", 1)
		wrong(t, "ab"+sign, 2)
		wrong(t, "ab "+sign, 3)
		wrong(t, "$"+sign+"ab", 0)
		wrong(t, "$a"+sign+"b", 2)
		wrong(t, "$ab"+sign, 3)
	}
}

// P18.1: refs, and '$' with something else behind.
func TestRefs(t *testing.T) {
	for _, s := range []string{"a", "z", "b2", "x0y", "load", "a00", "z9z9z9"} {
		tokens(t, "$"+s, refAt(0, s))
		tokens(t, " $"+s+" ", refAt(1, s))
		tokens(t, s+"$"+s, nameAt(0, s), refAt(len(s), s))
		tokens(t, "$"+s+"$"+s, refAt(0, s), refAt(len(s)+1, s))
		tokens(t, "7$"+s+"=", numberAt(0, 7), refAt(1, s), equalsAt(2+len(s)))
	}
	for _, behind := range []string{"", " ", " a", "  a", "$", "$a", "=", "= a", "1", "1a", "0", "A", "Aa", "#", "#0000000000000000", "é", "\xff", "\t", "_a", "-"} {
		wrong(t, "$"+behind, 0)
		wrong(t, "  $"+behind, 2)
		wrong(t, "a $"+behind, 2)
		wrong(t, "a$"+behind, 1)
		wrong(t, "$a$"+behind, 2)
		wrong(t, "#0000000000000000$"+behind, 17)
	}
}

// P18.1: numbers, at both ends of what they may be, and with figures 0 ahead.
func TestNumbers(t *testing.T) {
	for s, want := range map[string]uint64{
		"0":                    0,
		"1":                    1,
		"7":                    7,
		"9":                    9,
		"10":                   10,
		"16":                   16,
		"77":                   77,
		"100":                  100,
		"1234567890":           1234567890,
		"2147483648":           1 << 31,
		"4294967296":           1 << 32,
		"9223372036854775807":  1<<63 - 1,
		"9223372036854775808":  1 << 63,
		"9999999999999999999":  9999999999999999999,
		"10000000000000000000": 10000000000000000000,
		"18446744073709551614": math.MaxUint64 - 1,
		"18446744073709551615": math.MaxUint64,
	} {
		tokens(t, s, numberAt(0, want))
		for _, zeros := range []int{1, 2, 8, 20, 64, 1000 - len(s)} {
			tokens(t, strings.Repeat("0", zeros)+s, numberAt(0, want))
		}
		tokens(t, " "+s+" ", numberAt(1, want))
	}
	tokens(t, "007", numberAt(0, 7))
	tokens(t, "1 2", numberAt(0, 1), numberAt(2, 2))
	tokens(t, strings.Repeat("0", 1000), numberAt(0, 0))
}

// P18.1: a number above 2^64 less 1 is none, and stands at its first figure, figures 0 ahead among them.
func TestNumbersThatAreTooGreat(t *testing.T) {
	for _, s := range []string{
		"18446744073709551616", "18446744073709551617", "18446744073709551625", "18446744073709551700", "18446744073709552000", "18446744073709561615",
		"18446744073709651615", "18446744073710551615", "18446744083709551615", "18446745073709551615", "18456744073709551615", "19446744073709551615",
		"20000000000000000000", "28446744073709551615", "36893488147419103232", "99999999999999999999", "100000000000000000000",
		"184467440737095516150", "184467440737095516160", "340282366920938463463374607431768211456", "1" + strings.Repeat("0", 999), strings.Repeat("9", 1000),
	} {
		wrong(t, s, 0)
		if len(s) > 900 {
			continue
		}
		wrong(t, s+" ", 0)
		wrong(t, " "+s, 1)
		wrong(t, "a "+s, 2)
		wrong(t, "a="+s+" b", 2)
		wrong(t, "1 "+s, 2)
		wrong(t, "0"+s, 0)
		wrong(t, strings.Repeat("0", 50)+s, 0)
		wrong(t, "$a"+" "+s+"$", 3)
	}
	long(t, strings.Repeat("9", 1001))
}

// P18.1: signs that other languages have in numbers are none's here.
func TestOtherSignsAtNumbers(t *testing.T) {
	wrong(t, "-1", 0)
	wrong(t, "+1", 0)
	wrong(t, "1-2", 1)
	wrong(t, "1.5", 1)
	wrong(t, "1_000", 1)
	wrong(t, "1,000", 1)
	wrong(t, "1'0", 1)
	wrong(t, "0X1f", 1)
	wrong(t, "12A", 2)
	wrong(t, "1²", 1)
	wrong(t, "١", 0)
	wrong(t, "３", 0)
}

// P18.1: a word has 16 figures, no less and no more.
func TestWords(t *testing.T) {
	for n := range 60 {
		for _, figure := range []string{"0", "7", "9", "a", "f"} {
			s := "#" + strings.Repeat(figure, n)
			if n != 16 {
				wrong(t, s, 0)
				wrong(t, s+" 1", 0)
				wrong(t, " "+s, 1)
				wrong(t, "a"+s, 1)
				wrong(t, "#0123456789abcdef"+s, 17)
				continue
			}
			w, e := handle.Parse(s[1:])
			if e != api.OK {
				t.Fatalf("%q: error %d", s, e)
			}
			tokens(t, s, wordAt(0, w))
			tokens(t, " "+s+" ", wordAt(1, w))
			tokens(t, "a"+s, nameAt(0, "a"), wordAt(1, w))
			tokens(t, s+s, wordAt(0, w), wordAt(17, w))
		}
	}
	for s, want := range map[string]uint64{
		"0000000000000000": 0,
		"0000000000000001": 1,
		"00000000000000ff": 255,
		"0123456789abcdef": 0x0123456789abcdef,
		"fedcba9876543210": 0xfedcba9876543210,
		"2800000500000102": 0x2800000500000102,
		"7fffffffffffffff": 1<<63 - 1,
		"8000000000000000": 1 << 63,
		"fffffffffffffffe": math.MaxUint64 - 1,
		"ffffffffffffffff": math.MaxUint64,
	} {
		tokens(t, "#"+s, wordAt(0, want))
	}
	wrong(t, "#"+strings.Repeat("0", 999), 0)
	wrong(t, "#0000000000000000000000000000001f", 0)
}

// P18.1: letters beyond 'f', capital ones and other signs end a word's figures.
func TestWordsWithOtherSigns(t *testing.T) {
	for _, sign := range []string{"A", "B", "C", "D", "E", "F", "G", "X", "_", "-", "+", " ", "=", "#", "$", "\t", "\x00", "é", "\xff", "１", "g", "x", "z"} {
		for place := range 16 {
			wrong(t, "#"+strings.Repeat("8", place)+sign+strings.Repeat("8", 15-place), 0)
			wrong(t, "a #"+strings.Repeat("b", place)+sign+strings.Repeat("b", 16), 2)
		}
	}
	wrong(t, "#00000000000000FF", 0)
	wrong(t, "#FFFFFFFFFFFFFFFF", 0)
	wrong(t, "#0x00000000000000", 0)
	wrong(t, "# 0000000000000000", 0)
	wrong(t, "##0000000000000000", 0)
	wrong(t, "0000#", 4)
}

// P18.1: what stands behind a word's 16 figures, and is none itself, is another token, or none.
func TestWhatStandsBehindWords(t *testing.T) {
	const s = "#0000000000000abc"
	tokens(t, s+"g", wordAt(0, 0xabc), nameAt(17, "g"))
	tokens(t, s+"x1", wordAt(0, 0xabc), nameAt(17, "x1"))
	tokens(t, s+"$a", wordAt(0, 0xabc), refAt(17, "a"))
	tokens(t, s+"=", wordAt(0, 0xabc), equalsAt(17))
	tokens(t, s+s, wordAt(0, 0xabc), wordAt(17, 0xabc))
	tokens(t, s+" 1", wordAt(0, 0xabc), numberAt(18, 1))
	tokens(t, s+" f", wordAt(0, 0xabc), nameAt(18, "f"))
	wrong(t, s+"1", 0)
	wrong(t, s+"f", 0)
	wrong(t, s+"F", 17)
	wrong(t, s+"G", 17)
	wrong(t, s+"$", 17)
	wrong(t, s+"#", 17)
}

// P18.1: '=' alone, twice, and between names.
func TestEquals(t *testing.T) {
	tokens(t, "=", equalsAt(0))
	tokens(t, "==", equalsAt(0), equalsAt(1))
	tokens(t, "= =", equalsAt(0), equalsAt(2))
	tokens(t, "a=b", nameAt(0, "a"), equalsAt(1), nameAt(2, "b"))
	tokens(t, "a==b1=c", nameAt(0, "a"), equalsAt(1), equalsAt(2), nameAt(3, "b1"), equalsAt(5), nameAt(6, "c"))
	tokens(t, " = a", equalsAt(1), nameAt(3, "a"))
	tokens(t, "a= ", nameAt(0, "a"), equalsAt(1))
	tokens(t, "1=2", numberAt(0, 1), equalsAt(1), numberAt(2, 2))
	wrong(t, "a:=b", 1)
	wrong(t, "a=-b", 2)
	wrong(t, "a＝b", 1)
}

// P18.1: two tokens, of any kinds, that touch: they are two, unless the second one goes on with the first.
func TestTokensThatTouch(t *testing.T) {
	pairs := []struct {
		s    string
		want []lexer.Token
	}{
		{"ab", []lexer.Token{nameAt(0, "ab")}},
		{"a$b", []lexer.Token{nameAt(0, "a"), refAt(1, "b")}},
		{"a1", []lexer.Token{nameAt(0, "a1")}},
		{"a#0000000000000001", []lexer.Token{nameAt(0, "a"), wordAt(1, 1)}},
		{"a=", []lexer.Token{nameAt(0, "a"), equalsAt(1)}},
		{"$ab", []lexer.Token{refAt(0, "ab")}},
		{"$a$b", []lexer.Token{refAt(0, "a"), refAt(2, "b")}},
		{"$a1", []lexer.Token{refAt(0, "a1")}},
		{"$a#0000000000000001", []lexer.Token{refAt(0, "a"), wordAt(2, 1)}},
		{"$a=", []lexer.Token{refAt(0, "a"), equalsAt(2)}},
		{"1a", []lexer.Token{numberAt(0, 1), nameAt(1, "a")}},
		{"1$a", []lexer.Token{numberAt(0, 1), refAt(1, "a")}},
		{"12", []lexer.Token{numberAt(0, 12)}},
		{"1#0000000000000001", []lexer.Token{numberAt(0, 1), wordAt(1, 1)}},
		{"1=", []lexer.Token{numberAt(0, 1), equalsAt(1)}},
		{"#0000000000000001g", []lexer.Token{wordAt(0, 1), nameAt(17, "g")}},
		{"#0000000000000001$a", []lexer.Token{wordAt(0, 1), refAt(17, "a")}},
		{"#0000000000000001#0000000000000002", []lexer.Token{wordAt(0, 1), wordAt(17, 2)}},
		{"#0000000000000001=", []lexer.Token{wordAt(0, 1), equalsAt(17)}},
		{"=a", []lexer.Token{equalsAt(0), nameAt(1, "a")}},
		{"=$a", []lexer.Token{equalsAt(0), refAt(1, "a")}},
		{"=1", []lexer.Token{equalsAt(0), numberAt(1, 1)}},
		{"=#0000000000000001", []lexer.Token{equalsAt(0), wordAt(1, 1)}},
		{"==", []lexer.Token{equalsAt(0), equalsAt(1)}},
	}
	for _, p := range pairs {
		tokens(t, p.s, p.want...)
	}
}

// P18.1: lines of 1000 bytes, each token as long as can be, and of one more.
func TestLongest(t *testing.T) {
	if lexer.MaxLine != 1000 {
		t.Fatalf("MaxLine %d, want 1000", lexer.MaxLine)
	}
	x := strings.Repeat("x", 1000)
	tokens(t, x, nameAt(0, x))
	tokens(t, "$"+x[1:], refAt(0, x[1:]))
	tokens(t, x[:999]+"=", nameAt(0, x[:999]), equalsAt(999))
	tokens(t, strings.Repeat("0", 980)+"18446744073709551615", numberAt(0, math.MaxUint64))
	tokens(t, strings.Repeat(" ", 983)+"#00000000000000ff", wordAt(983, 255))
	tokens(t, strings.Repeat(" ", 998)+"$a", refAt(998, "a"))
	tokens(t, "a"+strings.Repeat(" ", 999), nameAt(0, "a"))
	wrong(t, strings.Repeat(" ", 984)+"#00000000000000f", 984)
	wrong(t, x[:999]+"$", 999)
	wrong(t, x[:999]+"A", 999)
	wrong(t, x[:998]+"é", 998)

	many := func(s string, t lexer.Token) []lexer.Token {
		var l []lexer.Token
		for from := 0; from+len(s) <= 1000; from += len(s) {
			t.From = from
			l = append(l, t)
		}
		return l
	}
	tokens(t, strings.Repeat("=", 1000), many("=", equalsAt(0))...)
	tokens(t, strings.Repeat("$a", 500), many("$a", refAt(0, "a"))...)
	tokens(t, strings.Repeat("b ", 500), many("b ", nameAt(0, "b"))...)
	tokens(t, strings.Repeat("#0123456789abcdef", 58), many("#0123456789abcdef", wordAt(0, 0x0123456789abcdef))[:58]...)
}

// P18.1: a line that is too long is that alone, whatever it has; bytes are counted, not characters.
func TestTooLong(t *testing.T) {
	for _, s := range []string{"x", "1", "0", "=", " ", "$", "#", "A", "\t", "\n", "\xff", "\x00"} {
		for _, n := range []int{1001, 1002, 1024, 2000, 1 << 16, 1 << 20} {
			long(t, strings.Repeat(s, n))
		}
	}
	long(t, strings.Repeat("#0123456789abcdef", 59))
	long(t, strings.Repeat(" ", 1000)+"a")
	long(t, strings.Repeat(" ", 1000)+"$")
	long(t, "$"+strings.Repeat(" ", 1000))
	long(t, "é"+strings.Repeat("a", 999))
	long(t, strings.Repeat("é", 501))
	long(t, strings.Repeat("é", 1000))
	long(t, strings.Repeat("€", 334))
	wrong(t, strings.Repeat("é", 500), 0)
	wrong(t, strings.Repeat("€", 333), 0)
	wrong(t, strings.Repeat("😀", 250), 0)
	wrong(t, "é"+strings.Repeat("a", 998), 0)
}

// begun is a line's beginning that is right, and shows where the next byte stands.
func begun() []string {
	return []string{"", " ", "   ", "a", "a ", "load $a 1 ", "$a", "$a ", "1", "12 ", "#0123456789abcdef", "#0123456789abcdef ", "=", "a=", "x = 3 point "}
}

// P18.1: each byte at which no token begins, at the first place, within, and at the last one.
func TestBytesAtWhichNoneBegins(t *testing.T) {
	for b := range 256 {
		s := byteOf(b)
		if strings.Contains("abcdefghijklmnopqrstuvwxyz0123456789$#= ", s) {
			continue
		}
		for _, ahead := range begun() {
			for _, behind := range []string{"", "a", " a", "1", "$a", "=", " ", "$", s} {
				wrong(t, ahead+s+behind, len(ahead))
			}
		}
	}
	wrong(t, "1 alloc 0\n", 9)
	wrong(t, "1 alloc 0\r\n", 9)
	wrong(t, "1\talloc 0", 1)
	wrong(t, "\t", 0)
	wrong(t, "a\vb", 1)
	wrong(t, "a\fb", 1)
}

// P18.1: characters of two, three and four bytes, blanks, letters and figures of other scripts among them, and bytes that are no character, all at their first byte.
func TestCharactersOfMoreBytes(t *testing.T) {
	texts := []string{"\x80", "\xbf", "\xc3", "\xff", "\xfe\xff", "\xc0\xa0", "\xc1\xa1", "\xe2\x82", "\xe0\x80\xa0", "\xed\xa0\x80", "\xf0\x9f\x98", "\xf4\x90\x80\x80", "\xf8\x88\x80\x80\x80"}
	for _, r := range []rune{0x80, 0x85, 0xa0, 0xe9, 0xdf, 0x120, 0x123, 0x124, 0x130, 0x13d, 0x161, 0x3b1, 0x430, 0x660, 0x7ff, 0x800, 0x2003, 0x2028, 0x3000, 0xff04, 0xff10, 0xff1d, 0xff41, 0xfeff, utf8.RuneError, 0xffff, 0x10000, 0x10061, 0x1d7ce, 0x1f600, utf8.MaxRune} {
		texts = append(texts, string(r))
	}
	for _, s := range texts {
		for _, ahead := range begun() {
			for _, behind := range []string{"", "a", " ", " a", "0", s} {
				wrong(t, ahead+s+behind, len(ahead))
			}
		}
		wrong(t, "$"+s, 0)
		wrong(t, "a $"+s, 2)
		wrong(t, "#"+s, 0)
		wrong(t, " #000000000000000"+s, 1)
	}
}

// P18.1: the first one of several faults is told.
func TestFirstFault(t *testing.T) {
	wrong(t, "$ A", 0)
	wrong(t, "A $", 0)
	wrong(t, "a # 99999999999999999999 $ é", 2)
	wrong(t, "a 99999999999999999999 # $ é", 2)
	wrong(t, "a $1 #", 2)
	wrong(t, "a é $", 2)
	wrong(t, "#0é", 0)
	wrong(t, "99999999999999999999é", 0)
	wrong(t, "$aé$", 2)
}

// P18.1: Name of names, of the empty text, and of what is none.
func TestName(t *testing.T) {
	names := []string{"a", "z", "b2", "a0", "a1b", "load", "x00", "z9z9z9", "abcdefghijklmnopqrstuvwxyz0123456789", strings.Repeat("n", 999), strings.Repeat("n", 1000), strings.Repeat("n0", 1000)}
	for r := 'a'; r <= 'z'; r++ {
		names = append(names, string(r))
	}
	for _, s := range names {
		if !lexer.Name(s) {
			t.Errorf("Name of %q: false, want true", s)
		}
		if s != "" && len(s) < 1000 {
			tokens(t, s, nameAt(0, s))
		}
	}
	noName(t, "")
	for b := range 256 {
		s := byteOf(b)
		if strings.Contains("abcdefghijklmnopqrstuvwxyz", s) {
			continue
		}
		noName(t, s)
		noName(t, s+"a")
		if !strings.Contains("0123456789", s) {
			noName(t, "a"+s)
			noName(t, "a"+s+"b")
			noName(t, strings.Repeat("a", 999)+s)
		}
	}
	for _, s := range []string{" ", " a", "a ", "a b", "$a", "$", "#0123456789abcdef", "=", "a=", "12", "1a", "A", "aB", "a_b", "a-b", "é", "aé", "aéb", "éa", "\xff", "a\xff", "a\x00", "a\n", "ａ", "a１", "a😀", "\xc3a", "a\xc3"} {
		noName(t, s)
	}
}

func noName(t *testing.T, s string) {
	t.Helper()
	if lexer.Name(s) {
		t.Errorf("Name of %q: true, want false", s)
	}
}
