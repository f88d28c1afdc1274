package ptr

import (
	"math"
	"slices"
	"testing"

	"tombolo/api"
	"tombolo/cell"
	"tombolo/lay"
	"tombolo/mem"
)

// The lay of most tests: all threads that may be, so that each word's thread is there.
var wide = lay.Lay{Vertices: 2, Slots: 1, Threads: api.MaxThreads}

// Numbers to write: the edges that the document names, of halves of them, and some between.
var numbers = []int{0, 1, 3, 255, 256, api.MaxIndex - 1, api.MaxIndex}

// Tags of pens, likewise.
var tags = []int{0, 1, 7, 1<<16 - 1, 1 << 16, api.MaxTag - 1}

// Threads of pens, likewise.
var threads = []int{1, 2, 7, 8}

// Bits of no word: unlike meanings, or a tag, without a thread; a thread past the last one.
var noWords = []uint64{
	1, 1 << 16, 2<<16 | 1, 65535, 1 << 40, 1<<40 | 3*65537, 1 << 63, 9 << 32, 9<<32 | 3*65537, 255 << 32, 7<<40 | 9<<32,
	math.MaxUint64,
}

// Bits of no state.
var noStates = []uint64{1 << 25, 1<<25 | 14, 1 << 32, 1<<40 | 15, 1 << 63, math.MaxUint64}

// Lays that may not be.
var wrongLays = []lay.Lay{
	{}, {Vertices: 2, Slots: 1}, {Vertices: 2, Slots: 1, Threads: 9}, {Vertices: 17, Slots: 1, Threads: 2},
	{Slots: 1, Threads: 2}, {Vertices: 2, Slots: -1, Threads: 2}, {Vertices: 2, Slots: 49, Threads: 2},
	{Vertices: math.MaxInt, Slots: math.MinInt, Threads: math.MaxInt},
}

// sample is a right word's parts.
type sample struct{ old, new, thread, tag int }

// samples tells words: plain ones, and such of threads and tags at their edges.
func samples() []sample {
	var all []sample
	for _, x := range numbers {
		all = append(all, sample{old: x, new: x})
	}
	for _, th := range threads {
		for _, tag := range append(tags, api.MaxTag) {
			for _, x := range [][2]int{{0, 0}, {3, 5}, {5, 3}, {4, 4}, {0, api.MaxIndex}, {api.MaxIndex, 0}} {
				all = append(all, sample{old: x[0], new: x[1], thread: th, tag: tag})
			}
		}
	}
	return all
}

// bits tells a word's bits, by the document.
func (s sample) bits() uint64 {
	return uint64(s.new) + uint64(s.old)*(1<<16) + uint64(s.thread)*(1<<32) + uint64(s.tag)*(1<<40)
}

// state tells a state's bits, by the document.
func state(tag int, committed bool) uint64 {
	if committed {
		return uint64(2*tag + 1)
	}
	return uint64(2 * tag)
}

// meant tells what a word means by a state, by the document.
func (s sample) meant(tag int, committed bool) int {
	switch {
	case s.thread == 0, tag > s.tag, tag == s.tag && committed:
		return s.new
	}
	return s.old
}

// pens tells pens of all threads and tags that are tried.
func pens() []Pen {
	var all []Pen
	for _, th := range threads {
		for _, tag := range tags {
			all = append(all, Pen{Thread: th, Tag: tag})
		}
	}
	return all
}

// places tells cells to write into: the first and last pointer cell of nodes, and the last cell of all.
func places(l lay.Lay) []int {
	return []int{l.Field(1, lay.Version), l.Field(1, lay.Parent), l.Field(l.Nodes(), lay.Parent), l.Cells() - 1}
}

// filled makes an arena of a lay whose cells all have other numbers: its states such that nothing is done, by the tag 3.
func filled(t *testing.T, l lay.Lay) *cell.Arena {
	t.Helper()
	a, e := cell.New(l.Cells())
	if e != api.OK {
		t.Fatalf("New(%d): %d", l.Cells(), e)
	}
	for i := range a.Len() {
		a.Store(i, uint64(i+1)*65537)
	}
	for th := range l.Threads {
		a.Store(l.State(th+1), state(3, false))
	}
	return a
}

// cells tells what an arena has; it looks at a copy, so that the counts stay.
func cells(a *cell.Arena) []uint64 {
	b := a.Copy()
	all := make([]uint64, b.Len())
	for i := range all {
		all[i], _ = b.Load(i)
	}
	return all
}

// load and store are accesses.
func load(i int, v uint64) mem.Access  { return mem.Access{Cell: i, Value: v} }
func store(i int, v uint64) mem.Access { return mem.Access{Store: true, Cell: i, Value: v} }

// does fails the test, if what is done to memory isn't just the accesses told: by the row of a trace; a plain memory's
// counts and cells; and a memory of a kind that this package doesn't know.
func does(t *testing.T, a *cell.Arena, do func(mem.Mem), want ...mem.Access) {
	t.Helper()
	x := mem.Over(a)
	do(x)
	if !slices.Equal(x.Row(), want) {
		t.Errorf("did %v; want %v", x.Row(), want)
	}
	counts, has, kept := a.Copy().Counts(), cells(a), odd{}
	for i, v := range has {
		kept[i] = v
	}
	for _, w := range want {
		if w.Store {
			counts.Stores++
			has[w.Cell] = w.Value
		} else {
			counts.Loads++
		}
	}
	b := a.Copy()
	do(mem.Of(b))
	if b.Counts() != counts {
		t.Errorf("counted %v; want %v", b.Counts(), counts)
	}
	do(kept)
	for i, v := range cells(b) {
		if v != has[i] || kept[i] != has[i] {
			t.Errorf("cell %d has %#x, and %#x; want %#x", i, v, kept[i], has[i])
		}
	}
	if len(kept) != len(has) {
		t.Errorf("%d cells; want %d", len(kept), len(has))
	}
}

// odd is a memory that isn't of this project's packages: cells in a map.
type odd map[int]uint64

func (o odd) Load(i int) uint64     { return o[i] }
func (o odd) Store(i int, v uint64) { o[i] = v }

// strict is a memory that panics where there is no cell.
type strict []uint64

func (m strict) Load(i int) uint64     { return m[i] }
func (m strict) Store(i int, v uint64) { m[i] = v }

// P8.1: a pen writes, by one load and one store: over its own word New alone changes, over another one Old becomes what
// New was, and Thread and Tag are the pen's.
func TestWrite(t *testing.T) {
	l := wide
	for _, c := range places(l) {
		for _, s := range samples() {
			a := filled(t, l)
			a.Store(c, s.bits())
			for _, p := range pens() {
				x := numbers[(s.old+s.tag+p.Thread+p.Tag)%len(numbers)]
				want := sample{old: s.new, new: x, thread: p.Thread, tag: p.Tag}
				if s.thread == p.Thread && s.tag == p.Tag {
					want.old = s.old
				}
				does(t, a, func(m mem.Mem) { p.Write(m, c, x) }, load(c, s.bits()), store(c, want.bits()))
				if t.Failed() {
					t.Fatalf("%v, Write %d over %v", p, x, s)
				}
			}
		}
	}
}

// P8.1: a pen writes each number over each one, also over the same one.
func TestWriteNumbers(t *testing.T) {
	l, p := wide, Pen{Thread: 2, Tag: 7}
	c := l.Field(1, lay.Parent)
	for _, was := range numbers {
		for _, x := range numbers {
			for _, y := range numbers {
				a := filled(t, l)
				a.Store(c, sample{old: was, new: was}.bits())
				first := sample{old: was, new: x, thread: 2, tag: 7}.bits()
				second := sample{old: was, new: y, thread: 2, tag: 7}.bits()
				does(t, a, func(m mem.Mem) { p.Write(m, c, x); p.Write(m, c, y) },
					load(c, uint64(was)*65537), store(c, first), load(c, first), store(c, second))
			}
		}
	}
}

// P8.1: who has the pen's thread, but not its tag, or its tag, but not its thread, isn't the pen.
func TestWriteOverAnother(t *testing.T) {
	l, p := wide, Pen{Thread: 2, Tag: 7}
	c := l.Field(1, lay.Parent)
	for _, s := range []sample{{3, 5, 2, 6}, {3, 5, 2, 8}, {3, 5, 1, 7}, {3, 5, 3, 7}, {5, 5, 0, 0}} {
		a := filled(t, l)
		a.Store(c, s.bits())
		p.Write(mem.Of(a), c, 9)
		if v, _ := a.Load(c); v != (sample{5, 9, 2, 7}).bits() {
			t.Errorf("over %v: %#x", s, v)
		}
	}
}

// P8.1: a pen cleans, by one load and one store, also what is plain, and what another pen wrote.
func TestClean(t *testing.T) {
	l := wide
	for _, c := range places(l) {
		for _, s := range samples() {
			a := filled(t, l)
			a.Store(c, s.bits())
			for _, p := range []Pen{{Thread: 1}, {Thread: 2, Tag: 7}, {Thread: 8, Tag: api.MaxTag - 1}} {
				does(t, a, func(m mem.Mem) { p.Clean(m, c) }, load(c, s.bits()), store(c, uint64(s.new)*65537))
			}
		}
	}
}

// P8.1, P8.2: where there is no word nothing is stored, and what it has, and means, is 0.
func TestNoWord(t *testing.T) {
	l := wide
	for _, c := range places(l) {
		for _, v := range noWords {
			a := filled(t, l)
			a.Store(c, v)
			for _, p := range pens() {
				does(t, a, func(m mem.Mem) { p.Write(m, c, 5) }, load(c, v))
				does(t, a, func(m mem.Mem) { p.Clean(m, c) }, load(c, v))
			}
			does(t, a, func(m mem.Mem) { told(t, New(m, c), 0) }, load(c, v))
			does(t, a, func(m mem.Mem) { told(t, Means(m, l, c), 0) }, load(c, v))
			looks(t, a, l, c, 1, 0)
		}
	}
}

// told fails the test, if a number isn't as it should be.
func told(t *testing.T, got, want int) {
	t.Helper()
	if got != want {
		t.Errorf("told %d; want %d", got, want)
	}
}

// P8.1: Begin, Commit and End store a state, one store each, of the pen's thread alone.
func TestStates(t *testing.T) {
	for _, l := range []lay.Lay{wide, {Vertices: 1, Threads: 8}, {Vertices: 16, Slots: 48, Threads: 8}} {
		for _, p := range pens() {
			a, c := filled(t, l), p.Thread-1
			does(t, a, func(m mem.Mem) { p.Begin(m, l) }, store(c, state(p.Tag, false)))
			does(t, a, func(m mem.Mem) { p.Commit(m, l) }, store(c, state(p.Tag, true)))
			does(t, a, func(m mem.Mem) { p.End(m, l) }, store(c, state(p.Tag+1, false)))
		}
	}
}

// P8.1: they store it whatever was there.
func TestStatesOverAny(t *testing.T) {
	l, p := wide, Pen{Thread: 2, Tag: 7}
	for _, v := range append(noStates, 0, 1, state(6, true), state(7, true), state(8, false), state(api.MaxTag, true)) {
		a := filled(t, l)
		a.Store(l.State(2), v)
		does(t, a, func(m mem.Mem) { p.Begin(m, l) }, store(1, 14))
		does(t, a, func(m mem.Mem) { p.Commit(m, l) }, store(1, 15))
		does(t, a, func(m mem.Mem) { p.End(m, l) }, store(1, 16))
	}
}

// P8.1: each thread of each lay has its state; the last one of a lay too.
func TestStatesOfThreads(t *testing.T) {
	for n := 1; n <= api.MaxThreads; n++ {
		l := lay.Lay{Vertices: 3, Slots: 2, Threads: n}
		a := filled(t, l)
		for th := 1; th <= n; th++ {
			p := Pen{Thread: th, Tag: 100 * th}
			does(t, a, func(m mem.Mem) { p.Commit(m, l) }, store(th-1, state(100*th, true)))
		}
	}
}

// P8.1: New tells a word's New, by one load, whatever the states are.
func TestNew(t *testing.T) {
	l := wide
	for _, c := range places(l) {
		for _, s := range samples() {
			a := filled(t, l)
			a.Store(c, s.bits())
			for _, v := range []uint64{0, state(s.tag, false), state(s.tag, true), math.MaxUint64} {
				for th := range l.Threads {
					a.Store(l.State(th+1), v)
				}
				does(t, a, func(m mem.Mem) { told(t, New(m, c), s.new) }, load(c, s.bits()))
			}
		}
	}
}

// looks fails the test, if a look at a cell of memory that stays hasn't just so many steps, each a load, and tells just
// the value then, and 0 ahead.
func looks(t *testing.T, a *cell.Arena, l lay.Lay, c, steps, value int) {
	t.Helper()
	has, counts := cells(a), a.Counts()
	k := NewLook(l, c)
	for i := range steps {
		if k == nil || k.Done() || k.Value() != 0 {
			t.Fatalf("ahead of step %d of %d: %v", i+1, steps, k)
		}
		if got := k.Step(a); got != (i == steps-1) || k.Done() != got {
			t.Fatalf("step %d of %d: %t, Done: %t", i+1, steps, got, k.Done())
		}
		counts.Loads++
		if a.Counts() != counts {
			t.Errorf("step %d counted %v; want %v", i+1, a.Counts(), counts)
		}
	}
	for range 3 {
		if !k.Done() || k.Value() != value || !k.Step(a) {
			t.Errorf("done: %t, %d; want %d", k.Done(), k.Value(), value)
		}
	}
	if a.Counts() != counts || !slices.Equal(cells(a), has) {
		t.Errorf("a look that is done does something, or one stores")
	}
}

// P8.2: what a cell means, by its word and its thread's state; of a plain word the state isn't loaded, whatever it is.
func TestMeans(t *testing.T) {
	l := wide
	for i, s := range samples() {
		c := places(l)[i%4]
		for _, tag := range []int{0, s.tag - 1, s.tag, s.tag + 1, api.MaxTag} {
			if tag < 0 || tag > api.MaxTag {
				continue
			}
			for _, committed := range []bool{false, true} {
				a := filled(t, l)
				a.Store(c, s.bits())
				if s.thread == 0 {
					for th := range l.Threads {
						a.Store(l.State(th+1), noStates[th%len(noStates)])
					}
					does(t, a, func(m mem.Mem) { told(t, Means(m, l, c), s.new) }, load(c, s.bits()))
					looks(t, a, l, c, 1, s.new)
					continue
				}
				v, want := state(tag, committed), s.meant(tag, committed)
				a.Store(s.thread-1, v)
				does(t, a, func(m mem.Mem) { told(t, Means(m, l, c), want) }, load(c, s.bits()), load(s.thread-1, v))
				looks(t, a, l, c, 2, want)
			}
		}
	}
}

// P8.2: a word whose thread's cell has no state's bits means 0, whatever the other threads' cells have.
func TestNoState(t *testing.T) {
	l := wide
	c := l.Field(1, lay.Parent)
	for _, th := range threads {
		for _, v := range noStates {
			a := filled(t, l)
			a.Store(c, sample{3, 5, th, 2}.bits())
			told(t, Means(mem.Of(a), l, c), 5)
			looks(t, a, l, c, 2, 5)
			a.Store(th-1, v)
			told(t, Means(mem.Of(a), l, c), 0)
			looks(t, a, l, c, 2, 0)
		}
	}
}

// P8.2: a look tells what it loaded: of the cell by its first step, of the state by its second one.
func TestLookByWhatWasLoaded(t *testing.T) {
	l := wide
	c := l.Field(1, lay.Parent)
	for _, to := range []uint64{0, 9 * 65537, 1, sample{6, 7, 2, 0}.bits(), sample{6, 7, 1, 0}.bits()} {
		for _, committed := range []bool{false, true} {
			a := filled(t, l)
			s := sample{3, 5, 1, 3}
			a.Store(c, s.bits())
			k := NewLook(l, c)
			if k.Step(a) || k.Done() || k.Value() != 0 {
				t.Errorf("done by one step")
			}
			a.Store(c, to)
			a.Store(0, state(3, committed))
			a.Store(1, state(9, true))
			if !k.Step(a) || k.Value() != s.meant(3, committed) {
				t.Errorf("told %d", k.Value())
			}
			a.Store(c, 0)
			a.Store(0, state(2, !committed))
			if !k.Step(a) || k.Value() != s.meant(3, committed) {
				t.Errorf("told %d, once it was done", k.Value())
			}
		}
	}
}

// P8.2: looks have nothing to do with one another; each one has its own cell and lay.
func TestLooksApart(t *testing.T) {
	l := wide
	a := filled(t, l)
	x, y := l.Field(1, lay.Parent), l.Field(2, lay.Parent)
	a.Store(x, sample{3, 5, 1, 3}.bits())
	a.Store(y, sample{4, 6, 2, 2}.bits())
	j, k := NewLook(l, x), NewLook(l, y)
	j.Step(a)
	k.Step(a)
	k.Step(a)
	if j.Done() || j.Value() != 0 || !k.Done() || k.Value() != 6 {
		t.Errorf("told %d, %d", j.Value(), k.Value())
	}
	j.Step(a)
	if j.Value() != 3 || k.Value() != 6 {
		t.Errorf("told %d, %d", j.Value(), k.Value())
	}
	b := a.Copy()
	k = NewLook(l, x)
	k.Step(a)
	b.Store(0, state(4, false))
	k.Step(b)
	told(t, k.Value(), 5)
}

// P1: of pens and numbers that may not be, all calls end and none panics; nothing is stored that is no word, or no state.
func TestWrongPens(t *testing.T) {
	l := lay.Lay{Vertices: 2, Slots: 1, Threads: 2}
	c := l.Field(1, lay.Parent)
	wrong := []Pen{
		{Thread: -1, Tag: 7}, {Thread: 9, Tag: 7}, {Thread: math.MinInt, Tag: 7}, {Thread: math.MaxInt, Tag: 7},
		{Thread: 256 + 1, Tag: 7}, {Thread: 1, Tag: -2}, {Thread: 1, Tag: api.MaxTag + 1}, {Thread: 1, Tag: math.MaxInt},
		{Thread: 1, Tag: math.MinInt}, {Thread: 0, Tag: 7}, {Thread: 0, Tag: -1},
	}
	for _, s := range []sample{{5, 5, 0, 0}, {3, 5, 1, 7}} {
		a := filled(t, l)
		a.Store(c, s.bits())
		for _, p := range wrong {
			does(t, a, func(m mem.Mem) { p.Write(m, c, 9) }, load(c, s.bits()))
			does(t, a, func(m mem.Mem) { turns(p, m, l) })
		}
		for _, x := range []int{-1, math.MinInt, api.MaxIndex + 1, math.MaxInt} {
			for _, p := range []Pen{{Thread: 1, Tag: 7}, {Thread: 2}, {}} {
				does(t, a, func(m mem.Mem) { p.Write(m, c, x) }, load(c, s.bits()))
			}
		}
	}
	a := filled(t, l)
	for _, th := range []int{0, 3, 8} {
		does(t, a, func(m mem.Mem) { turns(Pen{Thread: th, Tag: 7}, m, l) })
	}
	last := Pen{Thread: 1, Tag: api.MaxTag}
	does(t, a, func(m mem.Mem) { turns(last, m, l) }, store(0, state(api.MaxTag, false)), store(0, state(api.MaxTag, true)))
}

// turns lets a pen begin, commit and end.
func turns(p Pen, m mem.Mem, l lay.Lay) {
	p.Begin(m, l)
	p.Commit(m, l)
	p.End(m, l)
}

// P1: of cells that aren't there, and in small arenas, no call panics, and none changes a cell that is there.
func TestNoCell(t *testing.T) {
	l := lay.Lay{Vertices: 2, Slots: 1, Threads: 2}
	p := Pen{Thread: 2, Tag: 7}
	for _, n := range []int{0, 1, 2, l.Cells()} {
		a, _ := cell.New(n)
		for i := range n {
			a.Store(i, 65537)
		}
		has := cells(a)
		for _, c := range []int{math.MinInt, -2, -1, n, n + 1, api.MaxCells, math.MaxInt} {
			for _, m := range []mem.Mem{mem.Of(a), mem.Over(a)} {
				p.Write(m, c, 5)
				p.Clean(m, c)
				told(t, New(m, c), 0)
				told(t, Means(m, l, c), 0)
			}
			k := NewLook(l, c)
			if !k.Step(a) || !k.Done() || k.Value() != 0 {
				t.Errorf("%d cells, a look at %d: %d", n, c, k.Value())
			}
		}
		if !slices.Equal(cells(a), has) {
			t.Errorf("%d cells: they have %v; want %v", n, cells(a), has)
		}
		turns(p, mem.Of(a), l)
	}
}

// P1: a word whose thread isn't there, as none is in a lay that may not be, means 0, and is looked at without a panic; a
// plain one means its number. No state is stored for such a thread.
func TestNoThread(t *testing.T) {
	few := lay.Lay{Vertices: 2, Slots: 1, Threads: 2}
	c := few.Field(1, lay.Parent)
	for _, l := range append(wrongLays, few) {
		for _, th := range []int{3, 8} {
			a := filled(t, few)
			a.Store(c, sample{3, 5, th, 0}.bits())
			told(t, Means(strict(cells(a)), l, c), 0)
			looks(t, a, l, c+1, 1, c+2)
			k := NewLook(l, c)
			if k.Step(a) || !k.Step(a) || k.Value() != 0 {
				t.Errorf("%v, a look at a word of the thread %d: %d", l, th, k.Value())
			}
			does(t, a, func(m mem.Mem) { turns(Pen{Thread: th, Tag: 7}, m, l) })
			turns(Pen{Thread: th, Tag: 7}, strict{}, l)
		}
	}
}
