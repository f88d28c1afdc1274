package val

import (
	"errors"
	"math"
	"runtime/debug"
	"slices"
	"strings"
	"testing"
)

// A value, its kind, and its text.
type known struct {
	v    any
	kind int
	say  string
}

// Types that look like those of values, but are others.
type (
	ownInt   int
	ownText  string
	ownRune  rune
	ownList  []any
	ownLists struct{ list []any }
)

// knownValues tells values of each kind, none of them Equal to another one, but for lists in which no value is.
func knownValues() []known {
	return []known{
		{0, Number, "0"},
		{7, Number, "7"},
		{-7, Number, "-7"},
		{10, Number, "10"},
		{97, Number, "97"},
		{math.MaxInt32 + 1, Number, "2147483648"},
		{math.MaxInt, Number, "9223372036854775807"},
		{math.MinInt, Number, "-9223372036854775808"},
		{"", Text, ""},
		{"7", Text, "7"},
		{"a", Text, "a"},
		{"ab", Text, "ab"},
		{"a b", Text, "a b"},
		{"(3 ab +)", Text, "(3 ab +)"},
		{"()", Text, "()"},
		{"?", Text, "?"},
		{"ö日", Text, "ö日"},
		{"\xff\x00", Text, "\xff\x00"},
		{"\ufffd", Text, "\ufffd"},
		{'+', Sign, "+"},
		{'a', Sign, "a"},
		{'7', Sign, "7"},
		{'ö', Sign, "ö"},
		{'日', Sign, "日"},
		{rune(0), Sign, "\x00"},
		{rune(0xd7ff), Sign, "\ud7ff"},
		{rune(0xd800), Sign, "\ufffd"},
		{rune(0xdfff), Sign, "\ufffd"},
		{rune(0xe000), Sign, "\ue000"},
		{rune(0xfffd), Sign, "\ufffd"},
		{rune(0x10ffff), Sign, "\U0010ffff"},
		{rune(0x110000), Sign, "\ufffd"},
		{rune(-1), Sign, "\ufffd"},
		{rune(math.MinInt32), Sign, "\ufffd"},
		{rune(math.MaxInt32), Sign, "\ufffd"},
		{[]any{}, List, "()"},
		{[]any{0}, List, "(0)"},
		{[]any{-1, 1}, List, "(-1 1)"},
		{[]any{""}, List, "()"},
		{[]any{"", ""}, List, "( )"},
		{[]any{3, "ab", '+'}, List, "(3 ab +)"},
		{[]any{3, "ab", '-'}, List, "(3 ab -)"},
		{[]any{3, "ab"}, List, "(3 ab)"},
		{[]any{"3 ab"}, List, "(3 ab)"},
		{[]any{'+', "ab", 3}, List, "(+ ab 3)"},
		{[]any{[]any{}}, List, "(())"},
		{[]any{[]any{}, []any{}}, List, "(() ())"},
		{[]any{[]any{[]any{}}}, List, "((()))"},
		{[]any{[]any{3}, "ab", '+'}, List, "((3) ab +)"},
		{[]any{3, []any{"ab", '+'}}, List, "(3 (ab +))"},
		{[]any{[]any{3, "ab"}, '+'}, List, "((3 ab) +)"},
		{[]any{1, []any{}, []any{2, []any{'x'}}, "y"}, List, "(1 () (2 (x)) y)"},
		{[]any{rune(-1), 5}, List, "(\ufffd 5)"},
		{[]any{nil}, List, "(?)"},
		{[]any{1, nil, 2}, List, "(1 ? 2)"},
		{[]any{[]any{1.5}, 3}, List, "((?) 3)"},
		{[]any{3, []int{1}, map[int]int{}}, List, "(3 ? ?)"},
	}
}

// noValues tells what is none: among it what Go can't hold against itself, and nil pointers.
func noValues() []any {
	n, s, c, l := 7, "ab", 'x', []any{3}
	return []any{
		nil, true, false, 1.5, float32(2), 1i, uintptr(7),
		int8(7), int16(7), int64(7), uint(7), uint8(7), uint16(7), uint32(7), uint64(7),
		ownInt(7), ownText("ab"), ownRune('x'), ownList{3}, ownLists{l}, struct{}{},
		&n, &s, &c, &l, (*int)(nil), (*[]any)(nil),
		[]int{1}, []string{"ab"}, []rune{'x'}, []byte("ab"), []int(nil), [][]any{{3}}, [1]any{3}, [0]any{},
		map[int]int{}, map[string]any(nil), func() {}, (func())(nil), make(chan int),
		errors.New("ab"), (error)(nil),
	}
}

// hasNone tells whether v, or anything within it, is no value.
func hasNone(v any) bool {
	if l, ok := v.([]any); ok {
		return slices.ContainsFunc(l, hasNone)
	}
	return Kind(v) == 0
}

// P3.1: the kinds are these numbers.
func TestKindsAreNumbers(t *testing.T) {
	if Number != 1 || Text != 2 || Sign != 3 || List != 4 {
		t.Errorf("kinds: %d, %d, %d, %d", Number, Text, Sign, List)
	}
}

// P3.1: Kind of values, and of what is none.
func TestKind(t *testing.T) {
	for _, c := range knownValues() {
		if k := Kind(c.v); k != c.kind {
			t.Errorf("Kind(%#v): %d; want %d", c.v, k, c.kind)
		}
	}
	for _, v := range noValues() {
		if k := Kind(v); k != 0 {
			t.Errorf("Kind(%T): %d", v, k)
		}
		if k := Kind([]any{v}); k != List {
			t.Errorf("Kind of a list of %T: %d", v, k)
		}
	}
	if k := Kind([]any(nil)); k != List {
		t.Errorf("Kind of a nil list: %d", k)
	}
}

// asked fails the test, if one of Num, Str, Rune and Items tells other than what v, of that kind, is.
func asked(t *testing.T, v any, kind int) {
	t.Helper()
	n, isNum := Num(v)
	s, isText := Str(v)
	c, isSign := Rune(v)
	l, isList := Items(v)
	if isNum != (kind == Number) || isText != (kind == Text) || isSign != (kind == Sign) || isList != (kind == List) {
		t.Errorf("%T: %t, %t, %t, %t", v, isNum, isText, isSign, isList)
	}
	if isNum && n != v.(int) || !isNum && n != 0 {
		t.Errorf("Num(%#v): %d", v, n)
	}
	if isText && s != v.(string) || !isText && s != "" {
		t.Errorf("Str(%#v): %q", v, s)
	}
	if isSign && c != v.(rune) || !isSign && c != 0 {
		t.Errorf("Rune(%#v): %d", v, c)
	}
	if isList && len(l) != len(v.([]any)) || !isList && l != nil {
		t.Errorf("Items(%#v): %v", v, l)
	}
}

// P3.1: each of Num, Str, Rune and Items tells what it is for, and of all else that it isn't.
func TestAsk(t *testing.T) {
	for _, c := range knownValues() {
		asked(t, c.v, c.kind)
	}
	for _, v := range noValues() {
		asked(t, v, 0)
	}
	asked(t, []any(nil), List)
}

// P3.1: the items are the list itself, spare room too.
func TestItemsAreTheList(t *testing.T) {
	whole := []any{1, "b", 'c', 4}
	list := whole[:2]
	items, ok := Items(list)
	if !ok || len(items) != 2 || cap(items) != 4 || &items[0] != &list[0] {
		t.Fatalf("Items: %v, %t", items, ok)
	}
	items[1] = "changed"
	if list[1] != any("changed") {
		t.Errorf("Items told a copy")
	}
}

// panics tells whether f does.
func panics(f func()) (did bool) {
	defer func() { did = recover() != nil }()
	f()
	return false
}

// P3.2: what must be is told, or the call panics.
func TestMust(t *testing.T) {
	var all []any
	for _, c := range knownValues() {
		all = append(all, c.v)
	}
	all = append(append(all, []any(nil)), noValues()...)
	for _, v := range all {
		var n int
		if did := panics(func() { n = MustNum(v) }); did != (Kind(v) != Number) {
			t.Errorf("MustNum(%#v) panics: %t", v, did)
		} else if !did && n != v.(int) {
			t.Errorf("MustNum(%#v): %d", v, n)
		}
		var s string
		if did := panics(func() { s = MustStr(v) }); did != (Kind(v) != Text) {
			t.Errorf("MustStr(%#v) panics: %t", v, did)
		} else if !did && s != v.(string) {
			t.Errorf("MustStr(%#v): %q", v, s)
		}
	}
}

// P3.3: each value is Equal to itself, made another time, and to no other one.
func TestEqual(t *testing.T) {
	l, m := knownValues(), knownValues()
	for i, x := range l {
		for j, y := range m {
			want := i == j && !hasNone(x.v)
			if Equal(x.v, y.v) != want {
				t.Errorf("Equal(%#v, %#v): %t", x.v, y.v, !want)
			}
		}
		if Equal(x.v, x.v) == hasNone(x.v) {
			t.Errorf("Equal(%#v, itself): %t", x.v, hasNone(x.v))
		}
	}
}

// P3.3: nothing is Equal to what is no value, it itself neither, nor within lists.
func TestEqualNoValue(t *testing.T) {
	for _, v := range noValues() {
		for _, w := range noValues() {
			if Equal(v, w) || Equal([]any{v}, []any{w}) || Equal([]any{1, []any{v}}, []any{1, []any{w}}) {
				t.Errorf("Equal(%T, %T)", v, w)
			}
		}
		if list := []any{v}; Equal(v, v) || Equal(list, list) {
			t.Errorf("Equal(%T, itself)", v)
		}
		for _, c := range knownValues() {
			if Equal(v, c.v) || Equal(c.v, v) {
				t.Errorf("%T and %#v are Equal", v, c.v)
			}
		}
	}
}

// P3.3: one item less, one more, or another one, wherever it is, and lists aren't Equal.
func TestEqualItems(t *testing.T) {
	list := []any{1, "b", 'c', []any{4, "e"}, 6}
	for i := range list {
		if Equal(list, list[:i]) || Equal(list[:i], list) {
			t.Errorf("Equal to its first %d", i)
		}
		if !Equal(list[:i], slices.Clone(list[:i])) {
			t.Errorf("the first %d aren't Equal to a copy", i)
		}
		for _, other := range []any{2, "c", 'd', nil, []any{}, []any{4}, []any{4, "e", 6}, []any{5, "e"}} {
			changed := slices.Clone(list)
			changed[i] = other
			if Equal(list, changed) || Equal(changed, list) {
				t.Errorf("Equal with %#v at %d", other, i)
			}
		}
	}
	if !Equal([]any(nil), []any{}) || !Equal([]any{}, []any(nil)) || !Equal([]any{[]any(nil)}, []any{[]any{}}) {
		t.Errorf("a nil list isn't Equal to an empty one")
	}
	if Equal([]any{[]any{1}, 2}, []any{[]any{1, 2}}) || Equal([]any{[]any{1, 2}}, []any{[]any{1}, 2}) {
		t.Errorf("Equal, though other lists end")
	}
}

// P3.3: Say of values, alone and in lists.
func TestSay(t *testing.T) {
	var all []any
	var texts []string
	for _, c := range knownValues() {
		if s := Say(c.v); s != c.say {
			t.Errorf("Say(%#v): %q; want %q", c.v, s, c.say)
		}
		if s := Say([]any{c.v, c.v}); s != "("+c.say+" "+c.say+")" {
			t.Errorf("Say of %#v twice: %q", c.v, s)
		}
		all, texts = append(all, c.v), append(texts, c.say)
	}
	if s := Say(all); s != "("+strings.Join(texts, " ")+")" {
		t.Errorf("Say of all: %q", s)
	}
	if s := Say([]any(nil)); s != "()" {
		t.Errorf("Say of a nil list: %q", s)
	}
}

// P3.3: Say of what is no value.
func TestSayNoValue(t *testing.T) {
	for _, v := range noValues() {
		if s := Say(v); s != "?" {
			t.Errorf("Say(%T): %q", v, s)
		}
		if s := Say([]any{v, 1, []any{v}}); s != "(? 1 (?))" {
			t.Errorf("Say of a list of %T: %q", v, s)
		}
	}
}

// P3.3: a list may come twice within one that isn't within itself.
func TestSharedLists(t *testing.T) {
	x := []any{1}
	for range 10 {
		x = []any{x, x}
	}
	y := []any{1}
	for range 10 {
		y = []any{y, slices.Clone(y)}
	}
	if !Equal(x, y) || !Equal(x, x) {
		t.Errorf("lists that share aren't Equal")
	}
	want := "(1)"
	for range 10 {
		want = "(" + want + " " + want + ")"
	}
	if s := Say(x); s != want {
		t.Errorf("Say: %q", s)
	}
}

// P3.3: a list may have a piece of itself within, if that ends.
func TestPieceWithin(t *testing.T) {
	list := []any{5, 6, nil}
	list[2] = list[:2]
	for depth := range 10 {
		x, y := nested(depth, list), nested(depth, []any{5, 6, []any{5, 6}})
		if !Equal(x, y) || !Equal(y, x) || !Equal(x, x) || Equal(x, nested(depth, []any{5, 6, []any{5}})) {
			t.Errorf("Equal, %d deep", depth)
		}
		if s := Say(x); s != strings.Repeat("(", depth)+"(5 6 (5 6))"+strings.Repeat(" 1)", depth) {
			t.Errorf("Say, %d deep: %q", depth, s)
		}
	}
}

// nested tells a list within a list and so on, depth of them, with v within the last one, and 1 behind each list.
func nested(depth int, v any) any {
	for range depth {
		v = []any{v, 1}
	}
	return v
}

// P1: lists may be deeper than calls could be.
func TestDeep(t *testing.T) {
	const depth = 1 << 19
	// With so little stack a call for each list would end the test.
	defer debug.SetMaxStack(debug.SetMaxStack(1 << 24))
	x, y, z := nested(depth, 'x'), nested(depth, 'x'), nested(depth, 'z')
	if !Equal(x, y) || Equal(x, z) || Equal(z, y) || Equal(x, nested(depth+1, 'x')) || Equal(nested(depth-1, 'x'), x) {
		t.Errorf("Equal of deep lists")
	}
	if s := Say(x); s != strings.Repeat("(", depth)+"x"+strings.Repeat(" 1)", depth) {
		t.Errorf("Say of a deep list: %d bytes", len(s))
	}
	if Kind(x) != List {
		t.Errorf("Kind of a deep list: %d", Kind(x))
	}
}

// ring tells a list that has itself within at depth, beside items, before of them in each list ahead of it.
func ring(depth, before int) []any {
	first := make([]any, before+2)
	list := first
	for i := range before {
		list[i] = i
	}
	for range depth - 1 {
		next := make([]any, before+2)
		for i := range before {
			next[i] = []any{i, []any{"x"}}
		}
		list[before], list[before+1] = next, 1
		list = next
	}
	list[before], list[before+1] = first, 1
	return first
}

// P1: both calls end, if a list is within itself, which no text tells.
func TestListWithinItself(t *testing.T) {
	for _, depth := range []int{1, 2, 3, 4, 5, 7, 8, 9, 100} {
		for before := range 3 {
			x, y := ring(depth, before), ring(depth, before)
			for _, v := range []any{x, []any{x}, []any{1, []any{2, x}, 3}, nested(50, x), nested(3, []any{nested(9, 1), x})} {
				if Equal(v, v) || Equal(v, 1) || Equal([]any{1}, v) || Equal(v, nested(500, 1)) || Equal(nested(500, 1), v) {
					t.Errorf("a list %d deep within itself is Equal", depth)
				}
				if s := Say(v); s != "?" {
					t.Errorf("Say of a list %d deep within itself: %.40q", depth, s)
				}
			}
			if Equal(x, y) || Equal(x, []any{y}) || Kind(x) != List {
				t.Errorf("two lists %d deep within themselves are Equal", depth)
			}
		}
	}
	piece := []any{nil, 2}
	piece[0] = piece[:1]
	if Equal(piece, piece) || Say(piece) != "?" {
		t.Errorf("a list whose piece is within: %.40q", Say(piece))
	}
}

// Rules: what is handed in isn't changed, its spare room neither, and what was told stays.
func TestNothingChanges(t *testing.T) {
	inner := []any{"ab", '+', "spare"}
	list := []any{3, inner[:2], nil, "spare"}
	given := list[:3]
	text := Say(given)
	Equal(given, given)
	Equal(given, []any{3, inner, nil})
	Kind(given)
	if len(list) != 4 || list[0] != any(3) || list[2] != nil || list[3] != any("spare") {
		t.Errorf("the list is changed: %v", list)
	}
	if inner[0] != any("ab") || inner[1] != any('+') || inner[2] != any("spare") {
		t.Errorf("the inner list is changed: %v", inner)
	}
	inner[0] = "cd"
	if text != "(3 (ab +) ?)" || Say(given) != "(3 (cd +) ?)" {
		t.Errorf("Say: %q, then %q", text, Say(given))
	}
}

// The chapter's example.
func TestExample(t *testing.T) {
	if s := Say([]any{3, "ab", '+'}); s != "(3 ab +)" {
		t.Errorf("Say: %q", s)
	}
}
