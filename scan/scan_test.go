package scan

import (
	"math"
	"regexp"
	"slices"
	"strconv"
	"strings"
	"testing"
	"unicode/utf8"
	"unsafe"

	"tombolo/api"
	"tombolo/val"
)

// pieces tells what small texts are made of: runes of each class, the edges between classes, and bytes that are runes
// only together.
func pieces() []string {
	return []string{" ", "\n", "0", "1", "9", "a", "Z", "_", "\u00c0", "日", "+", "~", "\x00", "\u00bf", "\ufffd", "\xff", "\xc3", "\xb6"}
}

// smallTexts tells each text of up to n pieces.
func smallTexts(n int) []string {
	all := []string{""}
	last := all
	for range n {
		var longer []string
		for _, s := range last {
			for _, p := range pieces() {
				longer = append(longer, s+p)
			}
		}
		all = append(all, longer...)
		last = longer
	}
	return all
}

// The document's rows, one by one, as a regular expression; a rune that is wrong is in the last group.
var rows = regexp.MustCompile(`([ \t\n]+)|([0-9]+)|([a-zA-Z_\x{c0}-\x{fffc}\x{fffe}-\x{10ffff}]+)|([!-~])|((?s:.))`)

// expected tells what Scan must tell, by those rows.
func expected(s string) ([]any, int, api.Errno) {
	var tokens []any
	for _, m := range rows.FindAllStringSubmatchIndex(s, -1) {
		part := s[m[0]:m[1]]
		switch {
		case m[10] >= 0:
			return nil, m[0], api.ErrRune
		case m[4] >= 0:
			n, err := strconv.Atoi(part)
			if err != nil || strconv.Itoa(n) != part || len(part) > 9 {
				return nil, m[0], api.ErrNumber
			}
			tokens = append(tokens, n)
		case m[6] >= 0:
			tokens = append(tokens, part)
		case m[8] >= 0:
			c, _ := utf8.DecodeRuneInString(part)
			tokens = append(tokens, c)
		}
	}
	return tokens, len(s), api.OK
}

// scanned fails the test, if Scan(s) tells other than these.
func scanned(t *testing.T, s string, tokens []any, at int, e api.Errno) {
	t.Helper()
	l, a, f := Scan(s)
	// Values of two types are never the same here: a number isn't a sign, nor is a sign a text.
	if !slices.Equal(l, tokens) || a != at || f != e {
		t.Errorf("Scan(%q): %#v, %d, %d; want %#v, %d, %d", s, l, a, f, tokens, at, e)
	}
}

// P4.1: the classes are these numbers.
func TestClassesAreNumbers(t *testing.T) {
	if Blank != 1 || Digit != 2 || Letter != 3 || Mark != 4 {
		t.Errorf("classes: %d, %d, %d, %d", Blank, Digit, Letter, Mark)
	}
}

// P4.1: Class at the edges of each class, and of what is no rune at all.
func TestClassEdges(t *testing.T) {
	for want, l := range [][]rune{
		0:     {math.MinInt32, -1, 0, 8, '\v', '\f', '\r', 0x0e, 0x1f, 0x7f, 0x80, 0x85, 0xa0, 0xaa, 0xb5, 0xb7, 0xbf, 0xfffd},
		Blank: {' ', '\t', '\n'},
		Digit: {'0', '1', '8', '9'},
		// Letters are told by their numbers, whatever else they are: signs, digits, blanks, halves.
		Letter: {'a', 'b', 'y', 'z', 'A', 'B', 'Y', 'Z', '_', 0xc0, 0xc1, 0xd7, 0xf7, 0xff, 0x100, 0x661, 0x2003, 0x2028, 0xd7ff, 0xd800, 0xdfff,
			0xe000, 0xfeff, 0xfffc, 0xfffe, 0xffff, 0x10000, 0x1f600, 0x10fffd, 0x10ffff, 0x110000, math.MaxInt32},
		Mark: {'!', '"', '#', '+', ',', '-', '.', '/', ':', ';', '<', '?', '@', '[', '\\', ']', '^', '`', '{', '|', '}', '~'},
	} {
		for _, c := range l {
			if Class(c) != want {
				t.Errorf("Class(%#x): %d; want %d", c, Class(c), want)
			}
		}
	}
}

// P4.1: Class of each rune below U+0100 is told by the one text that it is in, if it is in one.
func TestClassLow(t *testing.T) {
	texts := map[int]string{
		Blank:  " \t\n",
		Digit:  "0123456789",
		Letter: "abcdefghijklmnopqrstuvwxyzABCDEFGHIJKLMNOPQRSTUVWXYZ_ÀÁÂÃÄÅÆÇÈÉÊËÌÍÎÏÐÑÒÓÔÕÖ×ØÙÚÛÜÝÞßàáâãäåæçèéêëìíîïðñòóôõö÷øùúûüýþÿ",
		Mark:   "!\"#$%&'()*+,-./:;<=>?@[\\]^`{|}~",
	}
	for c := rune(-256); c < 256; c++ {
		want := 0
		for class, text := range texts {
			if c >= 0 && strings.ContainsRune(text, c) {
				want = class
			}
		}
		if Class(c) != want {
			t.Errorf("Class(%#x): %d; want %d", c, Class(c), want)
		}
	}
}

// P4.1: all runes from U+0100 on are letters, but for U+FFFD.
func TestClassHigh(t *testing.T) {
	for c := rune(0x100); c <= 0x110100; c++ {
		want := Letter
		if c == 0xfffd {
			want = 0
		}
		if Class(c) != want {
			t.Errorf("Class(%#x): %d; want %d", c, Class(c), want)
		}
	}
}

// P4.1: Count of ordinary texts, of wrong runes, and of bytes that begin none.
func TestCount(t *testing.T) {
	for _, c := range []struct {
		s            string
		runes, wrong int
	}{
		{"", 0, 0}, {"ab+12", 5, 0}, {" \t\n", 3, 0}, {"öß_日", 4, 0}, {"\U0001f600", 1, 0}, {"a 007", 5, 0}, {"1234567890", 10, 0},
		{"\x00", 1, 1}, {"a\rb\r", 4, 2}, {"\u00bf\u00c0", 2, 1}, {"\x7f~", 2, 1}, {"\ufffd", 1, 1}, {"aö\xff\x00 ", 5, 2},
		{"\xc3", 1, 1}, {"\xc3a", 2, 1}, {"\xb6\xc3\xb6", 2, 1}, {"\xe6\x97", 2, 2}, {"\xe6\x97\xa5", 1, 0}, {"\xf0\x9f\x98", 3, 3},
		{"\xed\xa0\x80", 3, 3}, {"\xf4\x90\x80\x80", 4, 4}, {"\xc0\x80", 2, 2}, {"\xff\xfe", 2, 2},
	} {
		if runes, wrong := Count(c.s); runes != c.runes || wrong != c.wrong {
			t.Errorf("Count(%q): %d, %d; want %d, %d", c.s, runes, wrong, c.runes, c.wrong)
		}
	}
}

// P4.1: Count of small texts is that of their runes, each one told by Class.
func TestCountSmallTexts(t *testing.T) {
	for _, s := range smallTexts(3) {
		runes, wrong := Count(s)
		for _, c := range []rune(s) {
			if runes--; Class(c) == 0 {
				wrong--
			}
		}
		if runes != 0 || wrong != 0 {
			t.Errorf("Count(%q): %d more runes, %d more wrong ones", s, runes, wrong)
		}
	}
}

// P4.2: the tokens of texts in which nothing is wrong.
func TestScan(t *testing.T) {
	for _, c := range []struct {
		s      string
		tokens []any
	}{
		{"", nil}, {" ", nil}, {" \t\n\n ", nil},
		{"ab+12", []any{"ab", '+', 12}}, {"a1b", []any{"a", 1, "b"}}, {"1a2", []any{1, "a", 2}}, {"x-5", []any{"x", '-', 5}},
		{"0", []any{0}}, {"9", []any{9}}, {"0 0", []any{0, 0}}, {"10", []any{10}}, {"1 0", []any{1, 0}}, {"0a0", []any{0, "a", 0}},
		{"0+0", []any{0, '+', 0}}, {"100200300", []any{100200300}}, {"999999999", []any{999999999}},
		{"999999999 999999999", []any{999999999, 999999999}}, {"\t7\n", []any{7}},
		{"a b", []any{"a", "b"}}, {" a\tb\n", []any{"a", "b"}}, {"_", []any{"_"}}, {"aZ_öß日", []any{"aZ_öß日"}}, {"a_b", []any{"a_b"}},
		{"\u00c0", []any{"\u00c0"}}, {"\u2003", []any{"\u2003"}}, {"\u0661", []any{"\u0661"}}, {"a\u00d7b", []any{"a×b"}},
		{"\ufeffa", []any{"\ufeffa"}}, {"\U0001f600~", []any{"\U0001f600", '~'}}, {"\U0010ffff", []any{"\U0010ffff"}},
		{"((", []any{'(', '('}}, {"+ +", []any{'+', '+'}}, {"!~", []any{'!', '~'}}, {"\"a\"", []any{'"', "a", '"'}}, {"1.5", []any{1, '.', 5}},
		{"thread 1: + 0 ö;", []any{"thread", 1, ':', '+', 0, "ö", ';'}},
	} {
		scanned(t, c.s, c.tokens, len(c.s), api.OK)
	}
}

// P4.2: where what is wrong first begins, and what it is.
func TestScanWrong(t *testing.T) {
	for _, c := range []struct {
		s  string
		at int
		e  api.Errno
	}{
		{"\x00", 0, api.ErrRune}, {"\r", 0, api.ErrRune}, {"\x7f", 0, api.ErrRune}, {"\u00bf", 0, api.ErrRune}, {"\ufffd", 0, api.ErrRune},
		{"a\xff", 1, api.ErrRune}, {"ab \x00", 3, api.ErrRune}, {"ab+12\r\n", 5, api.ErrRune}, {"ö\xc3", 2, api.ErrRune}, {"日\ufffd日", 3, api.ErrRune},
		{"\xff\xff", 0, api.ErrRune}, {"a\x00b\x00", 1, api.ErrRune}, {"\xed\xa0\x80", 0, api.ErrRune}, {"a\u00a0b", 1, api.ErrRune},
		{"00", 0, api.ErrNumber}, {"01", 0, api.ErrNumber}, {"a 007", 2, api.ErrNumber}, {"a007", 1, api.ErrNumber}, {"ö00", 2, api.ErrNumber},
		{"-00", 1, api.ErrNumber}, {"1234567890", 0, api.ErrNumber}, {"1000000000", 0, api.ErrNumber}, {"0123456789", 0, api.ErrNumber},
		{"999999999 1234567890", 10, api.ErrNumber}, {"18446744073709551617", 0, api.ErrNumber}, {"0 00 000", 2, api.ErrNumber},
		// Of two that are wrong, the one that begins first.
		{"12 01\xff", 3, api.ErrNumber}, {"01\xff", 0, api.ErrNumber}, {"1234567890\x00", 0, api.ErrNumber}, {"\xff01", 0, api.ErrRune},
		{"12\xff", 2, api.ErrRune}, {"0\x000", 1, api.ErrRune}, {"999999999\xff9", 9, api.ErrRune}, {"1 \r 00", 2, api.ErrRune},
	} {
		scanned(t, c.s, nil, c.at, c.e)
	}
}

// P4.2: rows of digits of each length, ahead of what ends them.
func TestScanNumbers(t *testing.T) {
	for n := 1; n < 100; n++ {
		for _, digit := range "0159" {
			for _, end := range []string{"", " ", "a", "+", " a", "ö"} {
				s := strings.Repeat(string(digit), n) + end
				tokens, at, e := expected(s)
				if wrong := n > 9 || n > 1 && digit == '0'; wrong != (e == api.ErrNumber) {
					t.Fatalf("expected(%q): %d", s, e)
				}
				scanned(t, s, tokens, at, e)
			}
		}
	}
}

// P4.2: Scan of each small text tells what the rows tell.
func TestScanSmallTexts(t *testing.T) {
	for _, s := range smallTexts(4) {
		tokens, at, e := expected(s)
		scanned(t, s, tokens, at, e)
	}
}

// P4.2: rows and texts may be long.
func TestScanLong(t *testing.T) {
	const n = 1 << 18
	letters := strings.Repeat("aö", n)
	scanned(t, letters, []any{letters}, len(letters), api.OK)
	scanned(t, strings.Repeat(" ", n)+"7", []any{7}, n+1, api.OK)
	scanned(t, strings.Repeat("+", n), slices.Repeat([]any{'+'}, n), n, api.OK)
	scanned(t, strings.Repeat("a ", n), slices.Repeat([]any{"a"}, n), 2*n, api.OK)
	scanned(t, strings.Repeat("1 ", n)+"00", nil, 2*n, api.ErrNumber)
	scanned(t, strings.Repeat("7", n), nil, 0, api.ErrNumber)
	scanned(t, letters+"\xff", nil, len(letters), api.ErrRune)
}

// within tells whether part's bytes are among those of s.
func within(part, s string) bool {
	p, from := uintptr(unsafe.Pointer(unsafe.StringData(part))), uintptr(unsafe.Pointer(unsafe.StringData(s)))
	return from <= p && p < from+uintptr(len(s))
}

// P4.2: what is told is new memory: no text keeps the one that was scanned, and no list is told twice.
func TestScanTellsNewMemory(t *testing.T) {
	s := strings.Repeat("abc 12 + öö ", 3) + "whole"
	for _, text := range []string{s, "whole"} {
		l, _, _ := Scan(text)
		m, _, _ := Scan(text)
		for _, token := range l {
			if part, ok := token.(string); ok && within(part, text) {
				t.Errorf("%q is kept", text)
			}
		}
		clear(l[:cap(l)])
		if tokens, _, _ := expected(text); !slices.Equal(m, tokens) {
			t.Errorf("two answers share memory: %v", m)
		}
	}
}

// P4.3: Join of tokens, of none too.
func TestJoin(t *testing.T) {
	for _, c := range []struct {
		tokens []any
		s      string
	}{
		{nil, ""}, {[]any{}, ""}, {[]any{"a"}, "a"}, {[]any{0}, "0"}, {[]any{'('}, "("}, {[]any{"a", '+', 12}, "a + 12"}, {[]any{"a", "b"}, "a b"},
		{[]any{1, 2, 999999999}, "1 2 999999999"}, {[]any{'-', 5}, "- 5"}, {[]any{'(', '('}, "( ("}, {[]any{"öß", 7, "日"}, "öß 7 日"},
	} {
		if s := Join(c.tokens); s != c.s {
			t.Errorf("Join(%#v): %q; want %q", c.tokens, s, c.s)
		}
	}
}

// P4.3: Scan tells the same tokens of what Join tells of them.
func TestJoinIsScannedAgain(t *testing.T) {
	for _, s := range append(smallTexts(4), "thread 1:+0 ö;", strings.Repeat("a+1(b 999999999\n", 1000)) {
		tokens, _, e := Scan(s)
		if e != api.OK {
			continue
		}
		joined := Join(tokens)
		scanned(t, joined, tokens, len(joined), api.OK)
		says := make([]string, len(tokens))
		for i, token := range tokens {
			says[i] = val.Say(token)
		}
		if joined != strings.Join(says, " ") {
			t.Errorf("Join(%#v): %q", tokens, joined)
		}
	}
}

// P1, P4.3: Join ends and doesn't panic with what Scan never tells, and what it is given stays.
func TestJoinOfOtherValues(t *testing.T) {
	round := []any{nil}
	round[0] = round
	given := []any{nil, -7, rune(-1), "", "a b", 1.5, []any{3, []any{"ab"}}, round, func() {}}
	tokens := slices.Clone(given[:7])
	if s := Join(given); s != "? -7 \ufffd  a b ? (3 (ab)) ? ?" {
		t.Errorf("Join: %q", s)
	}
	for i, token := range tokens {
		if val.Say(token) != val.Say(given[i]) {
			t.Errorf("Join changed item %d", i)
		}
	}
}
