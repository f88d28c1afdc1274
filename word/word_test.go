package word

import (
	"math"
	"testing"

	"tombolo/api"
)

// Parts of words, right and wrong ones: the edges that the document names, and what lies beside them.
var (
	indices = []int{math.MinInt, -65536, -1, 0, 1, 3, 255, 256, 32768, 65534, 65535, 65536, 1 << 32, math.MaxInt}
	threads = []int{math.MinInt, -256, -1, 0, 1, 2, 7, 8, 9, 255, 256, 1 << 32, math.MaxInt}
	tags    = []int{math.MinInt, -1 << 24, -1, 0, 1, 7, 1 << 23, 1<<24 - 2, 1<<24 - 1, 1 << 24, 1 << 32, math.MaxInt}
)

// allWords tells the words of all those parts.
func allWords() []Word {
	var l []Word
	for _, o := range indices {
		for _, n := range indices {
			for _, th := range threads {
				for _, g := range tags {
					l = append(l, Word{Old: o, New: n, Thread: th, Tag: g})
				}
			}
		}
	}
	return l
}

// rightWord says the document's words of a right one, with its numbers.
func rightWord(w Word) bool {
	if w.Old < 0 || w.Old > 65535 || w.New < 0 || w.New > 65535 {
		return false
	}
	if w.Thread < 0 || w.Thread > 8 || w.Tag < 0 || w.Tag > 16777215 {
		return false
	}
	return w.Thread != 0 || w.New == w.Old && w.Tag == 0
}

// rightWords tells those of allWords that are right.
func rightWords() []Word {
	var l []Word
	for _, w := range allWords() {
		if rightWord(w) {
			l = append(l, w)
		}
	}
	return l
}

// P1.1: Right, and Plain of right words.
func TestRightAndPlain(t *testing.T) {
	right, plain := 0, 0
	for _, w := range allWords() {
		want := rightWord(w)
		if w.Right() != want {
			t.Errorf("%v.Right(): %t", w, w.Right())
		}
		if want {
			right++
			if w.Plain() != (w.Thread == 0) {
				t.Errorf("%v.Plain(): %t", w, w.Plain())
			}
		}
		if w.Plain() {
			plain++
		}
	}
	// 8 right indices; plain are those of one index, of no tag; else 4 threads and 6 tags.
	if plain != 8 || right != 8+8*8*4*6 {
		t.Errorf("%d right, %d plain", right, plain)
	}
}

// P1.1: a right word's bits are its parts, each at its place; the bits tell the word again.
func TestPackAndUnpackRight(t *testing.T) {
	for _, w := range rightWords() {
		want := uint64(w.New) + uint64(w.Old)*65536 + uint64(w.Thread)*(1<<32) + uint64(w.Tag)*(1<<40)
		v, e := Pack(w)
		if v != want || e != api.OK {
			t.Errorf("Pack(%v): %#x, %d; want %#x", w, v, e, want)
		}
		if x, e := Unpack(want); x != w || e != api.OK {
			t.Errorf("Unpack(%#x): %v, %d; want %v", want, x, e, w)
		}
	}
}

// P1.1: each part has bits of its own, as many as the chapter says.
func TestUnpackEachBit(t *testing.T) {
	// A thread makes every old, new and tag right.
	const base = 1 << 32
	for i := range 64 {
		if i >= 32 && i < 40 {
			continue
		}
		want := Word{Thread: 1}
		switch {
		case i < 16:
			want.New = 1 << i
		case i < 32:
			want.Old = 1 << (i - 16)
		default:
			want.Tag = 1 << (i - 40)
		}
		v := uint64(base | 1<<i)
		if w, e := Unpack(v); w != want || e != api.OK {
			t.Errorf("Unpack(%#x): %v, %d; want %v", v, w, e, want)
		}
		if x, e := Pack(want); x != v || e != api.OK {
			t.Errorf("Pack(%v): %#x, %d; want %#x", want, x, e, v)
		}
	}
}

// P1.1: no other word has bits.
func TestPackWrong(t *testing.T) {
	for _, w := range allWords() {
		if rightWord(w) {
			continue
		}
		if v, e := Pack(w); v != 0 || e != api.ErrRange {
			t.Errorf("Pack(%v): %#x, %d", w, v, e)
		}
	}
}

// P1.1: bits of no right word: a thread too great, or none and two meanings, or none and a tag.
func TestUnpackWrong(t *testing.T) {
	var l []uint64
	for th := uint64(9); th < 256; th++ {
		l = append(l, th<<32, th<<32|0x30003, th<<32|7<<40|0x30005)
	}
	for i := range 16 {
		l = append(l, 1<<i, 1<<(i+16), 0xffffffff^1<<i)
	}
	for i := range 24 {
		l = append(l, 1<<(i+40), 1<<(i+40)|0x30003, 1<<(i+40)|0x20003)
	}
	l = append(l, math.MaxUint64)
	for _, v := range l {
		if w, e := Unpack(v); w != (Word{}) || e != api.ErrWord {
			t.Errorf("Unpack(%#x): %v, %d", v, w, e)
		}
	}
	for th := uint64(1); th <= 8; th++ {
		if w, e := Unpack(th << 32); w != (Word{Thread: int(th)}) || e != api.OK {
			t.Errorf("Unpack of thread %d: %v, %d", th, w, e)
		}
	}
}

// P1.1: Of cuts to the range of indices.
func TestOf(t *testing.T) {
	for _, c := range []struct{ x, want int }{
		{math.MinInt, 0}, {-65536, 0}, {-1, 0}, {0, 0}, {1, 1}, {3, 3}, {32768, 32768},
		{65534, 65534}, {65535, 65535}, {65536, 65535}, {65537, 65535}, {1 << 32, 65535}, {math.MaxInt, 65535},
	} {
		if w := Of(c.x); w != (Word{Old: c.want, New: c.want}) {
			t.Errorf("Of(%d): %v", c.x, w)
		}
	}
}

// P1.2: a state's bits, and the state again.
func TestStateAndTag(t *testing.T) {
	for _, tag := range tags {
		for _, done := range []bool{false, true} {
			v, e := State(tag, done)
			if tag < 0 || tag > 16777215 {
				if v != 0 || e != api.ErrRange {
					t.Errorf("State(%d, %t): %#x, %d", tag, done, v, e)
				}
				continue
			}
			want := uint64(tag) * 2
			if done {
				want++
			}
			if v != want || e != api.OK {
				t.Errorf("State(%d, %t): %#x, %d; want %#x", tag, done, v, e, want)
			}
			if g, d, e := Tag(want); g != tag || d != done || e != api.OK {
				t.Errorf("Tag(%#x): %d, %t, %d", want, g, d, e)
			}
		}
	}
}

// P1.2: a state has 25 bits, and no more.
func TestTagEachBit(t *testing.T) {
	for i := range 64 {
		v := uint64(1) << i
		tag, done, e := Tag(v)
		switch {
		case i == 0:
			if tag != 0 || !done || e != api.OK {
				t.Errorf("Tag(1): %d, %t, %d", tag, done, e)
			}
		case i < 25:
			if tag != 1<<(i-1) || done || e != api.OK {
				t.Errorf("Tag(%#x): %d, %t, %d", v, tag, done, e)
			}
		default:
			for _, v := range []uint64{v, v | 1, v | 15} {
				if tag, done, e := Tag(v); tag != 0 || done || e != api.ErrWord {
					t.Errorf("Tag(%#x): %d, %t, %d", v, tag, done, e)
				}
			}
		}
	}
	if tag, done, e := Tag(math.MaxUint64); tag != 0 || done || e != api.ErrWord {
		t.Errorf("Tag of all bits: %d, %t, %d", tag, done, e)
	}
}

// P1.2: what a word means, by its thread's state.
func TestMeans(t *testing.T) {
	w := Word{Old: 3, New: 5, Thread: 1, Tag: 7}
	first := Word{Old: 9, New: 2, Thread: 8}
	last := Word{Old: 65535, New: 0, Thread: 4, Tag: 1<<24 - 1}
	for _, c := range []struct {
		w    Word
		tag  int
		done bool
		want int
	}{
		{w, 0, false, 3}, {w, 0, true, 3}, {w, 6, false, 3}, {w, 6, true, 3}, {w, 7, false, 3},
		{w, 7, true, 5}, {w, 8, false, 5}, {w, 8, true, 5}, {w, 1<<24 - 1, false, 5}, {w, 1<<24 - 1, true, 5},
		{first, 0, false, 9}, {first, 0, true, 2}, {first, 1, false, 2}, {first, 1, true, 2},
		{last, 1<<24 - 2, true, 65535}, {last, 1<<24 - 1, false, 65535}, {last, 1<<24 - 1, true, 0},
		{Word{Old: 4, New: 4, Thread: 2, Tag: 1}, 0, true, 4}, {Word{Old: 4, New: 4, Thread: 2, Tag: 1}, 1, true, 4},
	} {
		if x := Means(c.w, c.tag, c.done); x != c.want {
			t.Errorf("Means(%v, %d, %t): %d; want %d", c.w, c.tag, c.done, x, c.want)
		}
	}
	for _, x := range []int{0, 1, 9, 65535} {
		for _, tag := range []int{0, 1, 1<<24 - 1} {
			if Means(Of(x), tag, false) != x || Means(Of(x), tag, true) != x {
				t.Errorf("Means of %d's plain word by %d: %d, %d", x, tag, Means(Of(x), tag, false), Means(Of(x), tag, true))
			}
		}
	}
}

// P1.3: a word's bits are those of one word.
func TestBitsAreOneWords(t *testing.T) {
	seen := map[uint64]Word{}
	for _, w := range rightWords() {
		v, e := Pack(w)
		if e != api.OK {
			t.Fatalf("Pack(%v): %d", w, e)
		}
		if x, ok := seen[v]; ok {
			t.Errorf("%v and %v have one word's bits: %#x", x, w, v)
		}
		seen[v] = w
	}
}

// P1.3: a plain word's bits are New times 65537, for every index.
func TestPlainBits(t *testing.T) {
	for x := range 65536 {
		want := uint64(x) * 65537
		if v, e := Pack(Of(x)); v != want || e != api.OK {
			t.Fatalf("Pack(Of(%d)): %d, %d", x, v, e)
		}
		if w, e := Unpack(want); w != Of(x) || !w.Plain() || e != api.OK {
			t.Fatalf("Unpack(%d): %v, %d", want, w, e)
		}
	}
}

// P1.3: as a state goes on, a word goes from Old to New once, at its own tag's being done, and never back.
func TestMeaningGoesOnce(t *testing.T) {
	for _, tag := range []int{0, 1, 2, 7, 19} {
		w := Word{Old: 11, New: 12, Thread: 3, Tag: tag}
		// Bits of states, in their order, are the states as a thread goes through them.
		for v := uint64(0); v < 42; v++ {
			g, done, e := Tag(v)
			if e != api.OK {
				t.Fatalf("Tag(%d): %d", v, e)
			}
			want := w.Old
			if v > uint64(tag)*2 {
				want = w.New
			}
			if x := Means(w, g, done); x != want {
				t.Errorf("%v by state %d: %d; want %d", w, v, x, want)
			}
		}
	}
}

// P1: no call panics, whatever it is given.
func TestWrongNeverPanics(t *testing.T) {
	for _, w := range allWords() {
		w.Plain()
		for _, tag := range tags {
			Means(w, tag, false)
			Means(w, tag, true)
		}
	}
}

// The chapter's examples.
func TestExamples(t *testing.T) {
	if v, e := Pack(Of(3)); v != 196611 || e != api.OK {
		t.Errorf("Of(3): %d, %d", v, e)
	}
	w := Word{Old: 3, New: 5, Thread: 1, Tag: 7}
	if a, b, c := Means(w, 7, false), Means(w, 7, true), Means(w, 8, false); a != 3 || b != 5 || c != 5 {
		t.Errorf("Means: %d, %d, %d", a, b, c)
	}
}
