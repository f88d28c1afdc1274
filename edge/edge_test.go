package edge

import (
	"math"
	"slices"
	"testing"

	"tombolo/api"
	"tombolo/cell"
	"tombolo/lay"
	"tombolo/mem"
)

// A lay of few vertices, of 3 levels.
var small = lay.Lay{Vertices: 5, Slots: 4, Threads: 2}

// The greatest lay.
var great = lay.Lay{Vertices: api.MaxVertices, Slots: api.MaxSlots, Threads: api.MaxThreads}

// Lays at the edges of what may be: without slots, or without two vertices, there are no edges.
var lays = []lay.Lay{
	small, great, {Vertices: 2, Slots: 1, Threads: 1}, {Vertices: 3, Slots: 48, Threads: 1}, {Vertices: 16, Slots: 1, Threads: 8},
	{Vertices: 4, Slots: 6, Threads: 3}, {Vertices: 8, Slots: 0, Threads: 2}, {Vertices: 1, Slots: 48, Threads: 2},
	{Vertices: 1, Slots: 0, Threads: 1},
}

// Lays that may not be.
var wrongLays = []lay.Lay{
	{}, {Vertices: 5, Slots: 4}, {Vertices: 5, Slots: 4, Threads: 9}, {Vertices: 17, Slots: 4, Threads: 2},
	{Slots: 4, Threads: 2}, {Vertices: 5, Slots: -1, Threads: 2}, {Vertices: 5, Slots: 49, Threads: 2},
	{Vertices: math.MaxInt, Slots: math.MaxInt, Threads: math.MaxInt}, {Vertices: math.MinInt, Slots: 4, Threads: 2},
}

// Numbers of vertices, slots and levels that no lay has.
var nowhere = []int{
	math.MinInt, math.MinInt + 1, -1 << 32, -256, -2, -1, 48, 49, 255, 256, 65536, 1 << 32, 1 << 62, 1<<62 - 1, math.MaxInt,
}

// dice tell numbers that look like any.
type dice uint64

// upTo tells a number from 0 on and below n.
func (d *dice) upTo(n int) int {
	*d = *d*6364136223846793005 + 1442695040888963407
	return int(uint64(*d) >> 33 % uint64(n))
}

// strict is a memory that panics where there is no cell.
type strict []uint64

func (m strict) Load(i int) uint64     { return m[i] }
func (m strict) Store(i int, v uint64) { m[i] = v }

// had is an edge of the bench, as it was put: u and v in either order.
type had struct {
	slot, u, v, level int
	tree              bool
}

// bench is a memory of edges, and what it should have: the edges, and the number of each cell.
type bench struct {
	Edges
	l    lay.Lay
	a    *cell.Arena
	has  []had
	want []uint64
}

// born makes memory of a lay without edges; each other cell has a number of its own.
func born(t *testing.T, l lay.Lay) *bench {
	t.Helper()
	a, e := cell.New(l.Cells())
	if e != api.OK {
		t.Fatalf("New(%d): %d", l.Cells(), e)
	}
	for i := range a.Len() {
		a.Store(i, uint64(i)<<33|9)
	}
	for v := range l.Vertices {
		for u := range v {
			a.Store(l.Edge(u, v), 0)
		}
	}
	return &bench{Edges: Edges{L: l, M: mem.Of(a)}, l: l, a: a, want: cells(a)}
}

// cells tells what an arena has; it looks at a copy, so that the counts stay.
func cells(a *cell.Arena) []uint64 {
	b := a.Copy()
	all := make([]uint64, b.Len())
	for i := range all {
		all[i], _ = b.Load(i)
	}
	return all
}

// between tells the place of the edge between u and v among those that there are, or -1 if there is none.
func (b *bench) between(u, v int) int {
	return slices.IndexFunc(b.has, func(x had) bool { return x.u == u && x.v == v || x.u == v && x.v == u })
}

// of tells the place of a slot's edge, or -1 if it has none.
func (b *bench) of(slot int) int {
	return slices.IndexFunc(b.has, func(x had) bool { return x.slot == slot })
}

// put puts an edge, and looks at what is told.
func (b *bench) put(t *testing.T, slot, u, v, level int, tree bool) {
	t.Helper()
	if i := b.between(u, v); i >= 0 {
		b.has = slices.Delete(b.has, i, i+1)
	}
	b.has = append(b.has, had{slot, u, v, level, tree})
	b.Put(slot, u, v, level, tree)
	b.want[b.l.Edge(u, v)] = number(slot, tree)
	b.want[b.l.Ends(slot)] = uint64(min(u, v)*256 + max(u, v))
	b.want[b.l.Level(slot)] = uint64(level)
	b.holds(t)
}

// remove removes what is between u and v, if anything is, and looks at what is told.
func (b *bench) remove(t *testing.T, u, v int) {
	t.Helper()
	if i := b.between(u, v); i >= 0 {
		b.has = slices.Delete(b.has, i, i+1)
	}
	b.Remove(u, v)
	b.want[b.l.Edge(u, v)] = 0
	b.holds(t)
}

// turn turns a slot's edge, and looks at what is told.
func (b *bench) turn(t *testing.T, slot int, tree bool) {
	t.Helper()
	x := &b.has[b.of(slot)]
	x.tree = tree
	b.Turn(slot, tree)
	b.want[b.l.Edge(x.u, x.v)] = number(slot, tree)
	b.holds(t)
}

// lift lifts a slot's edge, and looks at what is told.
func (b *bench) lift(t *testing.T, slot, level int) {
	t.Helper()
	b.has[b.of(slot)].level = level
	b.Lift(slot, level)
	b.want[b.l.Level(slot)] = uint64(level)
	b.holds(t)
}

// number tells what the cell of two vertices has, in the document's words.
func number(slot int, tree bool) uint64 {
	if tree {
		return uint64((slot+1)*2 + 1)
	}
	return uint64((slot + 1) * 2)
}

// holds fails the test, if anything isn't as it should be.
func (b *bench) holds(t *testing.T) {
	t.Helper()
	before := b.a.Counts()
	b.finds(t)
	b.gets(t)
	after := b.a.Counts()
	if after.Loads = before.Loads; after != before {
		t.Fatalf("what only tells has counted %v; want %v, but for loads", after, before)
	}
	for i, v := range cells(b.a) {
		if v != b.want[i] {
			t.Fatalf("cell %d has %#x; want %#x", i, v, b.want[i])
		}
	}
}

// finds fails the test, if Find or All tells anything wrong.
func (b *bench) finds(t *testing.T) {
	t.Helper()
	var all []int
	for u := range b.l.Vertices {
		for v := range b.l.Vertices {
			x, i := had{}, b.between(u, v)
			if i >= 0 {
				x = b.has[i]
				if u < v {
					all = append(all, x.slot)
				}
			}
			if slot, tree, ok := b.Find(u, v); slot != x.slot || tree != x.tree || ok != (i >= 0) {
				t.Fatalf("Find(%d, %d): %d, %t, %t; want %v", u, v, slot, tree, ok, x)
			}
		}
	}
	if got := b.All(); !slices.Equal(got, all) {
		t.Fatalf("All: %v; want %v", got, all)
	}
}

// gets fails the test, if Get tells anything wrong.
func (b *bench) gets(t *testing.T) {
	t.Helper()
	for slot := range b.l.Slots {
		want := Edge{}
		if i := b.of(slot); i >= 0 {
			x := b.has[i]
			want = Edge{U: min(x.u, x.v), V: max(x.u, x.v), Level: x.level, Tree: x.tree}
		}
		if got := b.Get(slot); got != want {
			t.Fatalf("Get(%d): %v; want %v", slot, got, want)
		}
	}
}

// free tells a slot without an edge, if there is one.
func (b *bench) free(d *dice) (int, bool) {
	if b.l.Slots == 0 {
		return 0, false
	}
	first := d.upTo(b.l.Slots)
	for i := range b.l.Slots {
		if slot := (first + i) % b.l.Slots; b.of(slot) < 0 {
			return slot, true
		}
	}
	return 0, false
}

// deed does anything that may be done.
func (b *bench) deed(t *testing.T, d *dice) {
	t.Helper()
	u, v := d.upTo(b.l.Vertices), d.upTo(b.l.Vertices)
	level, tree := d.upTo(b.l.Levels()), d.upTo(2) == 0
	if len(b.has) > 0 && d.upTo(3) > 0 {
		slot := b.has[d.upTo(len(b.has))].slot
		if d.upTo(2) == 0 {
			b.turn(t, slot, tree)
		} else {
			b.lift(t, slot, level)
		}
		return
	}
	if u == v {
		return
	}
	slot, ok := b.free(d)
	if !ok || b.between(u, v) >= 0 && d.upTo(3) > 0 || d.upTo(8) == 0 {
		b.remove(t, u, v)
		return
	}
	b.put(t, slot, u, v, level, tree)
}

// P11.1, P11.2: the examples of the chapter.
func TestExamples(t *testing.T) {
	b := born(t, small)
	b.Put(2, 3, 1, 0, true)
	if slot, tree, ok := b.Find(1, 3); slot != 2 || !tree || !ok {
		t.Errorf("Find(1, 3): %d, %t, %t", slot, tree, ok)
	}
	if x := b.Get(2); x != (Edge{U: 1, V: 3, Level: 0, Tree: true}) {
		t.Errorf("Get(2): %v", x)
	}
}

// P11.1, P11.2: without edges nothing is told.
func TestNoEdges(t *testing.T) {
	for _, l := range lays {
		born(t, l).holds(t)
	}
}

// P11.1, P11.2: one edge between each two vertices, put in either order, of each slot, at each level, of the forests or not.
func TestOneEdge(t *testing.T) {
	for _, l := range []lay.Lay{small, {Vertices: 2, Slots: 1, Threads: 1}, {Vertices: 9, Slots: 2, Threads: 1}} {
		for u := range l.Vertices {
			for v := range l.Vertices {
				for slot := range l.Slots {
					for level := range l.Levels() {
						if u != v {
							one(t, l, had{slot, u, v, level, (u+v+slot+level)%2 == 0})
						}
					}
				}
			}
		}
	}
}

// one puts an edge, and does with it all that may be done.
func one(t *testing.T, l lay.Lay, x had) {
	t.Helper()
	b := born(t, l)
	b.put(t, x.slot, x.u, x.v, x.level, x.tree)
	for _, tree := range []bool{x.tree, !x.tree, !x.tree, x.tree} {
		b.turn(t, x.slot, tree)
	}
	for level := range l.Levels() {
		b.lift(t, x.slot, level)
		b.lift(t, x.slot, l.Levels()-1-level)
	}
	b.remove(t, x.v, x.u)
	b.remove(t, x.u, x.v)
	b.put(t, x.slot, x.v, x.u, 0, !x.tree)
	b.remove(t, x.u, x.v)
}

// P11.1, P11.2: as many edges as a lay can have, and their order: that of the vertices, whatever their slots are, and
// whichever was put first.
func TestAllSlots(t *testing.T) {
	for _, l := range lays {
		for turned := range 2 {
			b := born(t, l)
			var pairs [][2]int
			for u := range l.Vertices {
				for v := u + 1; v < l.Vertices; v++ {
					pairs = append(pairs, [2]int{u, v})
				}
			}
			if turned == 1 {
				slices.Reverse(pairs)
			}
			n := min(l.Slots, len(pairs))
			for i, p := range pairs[:n] {
				b.put(t, (i*29+7)%l.Slots, p[i%2], p[1-i%2], i%l.Levels(), i%3 == 0)
			}
			if got := len(b.All()); got != n {
				t.Errorf("%v: %d edges; want %d", l, got, n)
			}
			for _, p := range pairs[:n] {
				b.remove(t, p[1], p[0])
			}
			if got := b.All(); len(got) != 0 {
				t.Errorf("%v: %v are left", l, got)
			}
		}
	}
}

// P11.1, P11.2: the least and the greatest numbers: of vertices, slots and levels.
func TestLimits(t *testing.T) {
	b := born(t, great)
	b.put(t, 47, 15, 0, 4, true)
	b.put(t, 0, 0, 1, 0, false)
	b.put(t, 46, 14, 15, 4, false)
	b.turn(t, 47, false)
	b.turn(t, 0, true)
	b.lift(t, 0, 4)
	b.lift(t, 46, 0)
	for _, c := range []struct {
		cell int
		want uint64
	}{
		{great.Edge(0, 15), 96}, {great.Edge(0, 1), 3}, {great.Edge(14, 15), 94}, {great.Ends(47), 15}, {great.Ends(0), 1},
		{great.Ends(46), 14*256 + 15}, {great.Level(47), 4}, {great.Level(0), 4}, {great.Level(46), 0},
	} {
		if v, _ := b.a.Load(c.cell); v != c.want {
			t.Errorf("cell %d has %d; want %d", c.cell, v, c.want)
		}
	}
}

// P11.1: Find and All tell what memory has, whoever has put it there.
func TestFoundInCells(t *testing.T) {
	b := born(t, small)
	b.a.Store(small.Edge(3, 4), 9)
	b.a.Store(small.Edge(0, 2), 2)
	b.a.Store(small.Ends(3), 3*256+4)
	b.a.Store(small.Level(3), 2)
	if slot, tree, ok := b.Find(4, 3); slot != 3 || !tree || !ok {
		t.Errorf("Find(4, 3): %d, %t, %t", slot, tree, ok)
	}
	if slot, tree, ok := b.Find(0, 2); slot != 0 || tree || !ok {
		t.Errorf("Find(0, 2): %d, %t, %t", slot, tree, ok)
	}
	if x := b.Get(3); x != (Edge{U: 3, V: 4, Level: 2, Tree: true}) {
		t.Errorf("Get(3): %v", x)
	}
	if got := b.All(); !slices.Equal(got, []int{0, 3}) {
		t.Errorf("All: %v", got)
	}
}

// P11.1: of two vertices that have an edge already, what is put last holds, of another slot or of the same one.
func TestPutAgain(t *testing.T) {
	b := born(t, small)
	b.put(t, 1, 0, 3, 0, true)
	b.put(t, 1, 3, 0, 2, false)
	b.put(t, 2, 3, 0, 1, true)
	b.put(t, 1, 1, 2, 0, false)
	b.remove(t, 0, 3)
	b.put(t, 2, 2, 3, 1, false)
}

// P11.1: Remove changes the cell of both vertices alone: the slot's cells stay; where there is no edge nothing changes.
func TestRemove(t *testing.T) {
	b := born(t, small)
	b.put(t, 1, 4, 0, 2, true)
	b.put(t, 2, 4, 1, 1, false)
	b.remove(t, 2, 3)
	b.remove(t, 0, 4)
	ends, _ := b.a.Load(small.Ends(1))
	level, _ := b.a.Load(small.Level(1))
	if ends != 4 || level != 2 {
		t.Errorf("the slot's cells have %d and %d; want 4 and 2", ends, level)
	}
	b.remove(t, 0, 4)
}

// P11.1, P11.2: whatever is put, removed, turned and lifted.
func TestDays(t *testing.T) {
	for i, l := range lays {
		d := dice(i)
		b := born(t, l)
		for range 1500 {
			b.deed(t, &d)
		}
	}
}

// P11.2: two answers of All share no memory, spare room too.
func TestAllIsNew(t *testing.T) {
	b := born(t, small)
	for slot := range 3 {
		b.put(t, slot, slot, slot+1, 0, true)
	}
	x, y := b.All(), b.All()
	x = x[:cap(x)]
	for i := range x {
		x[i] = 99
	}
	if !slices.Equal(y, []int{0, 1, 2}) || slices.Contains(y[:cap(y)], 99) {
		t.Errorf("All, told with another answer: %v", y)
	}
	b.holds(t)
}

// P11.1, P11.2: in a trace, all is done likewise, and its arena stays.
func TestTrace(t *testing.T) {
	b := born(t, small)
	b.put(t, 3, 2, 0, 1, false)
	x := mem.Over(b.a)
	e := Edges{L: small, M: x}
	e.Put(0, 4, 1, 2, true)
	e.Turn(3, true)
	e.Lift(3, 2)
	if !slices.Equal(e.All(), []int{3, 0}) || e.Get(3) != (Edge{U: 0, V: 2, Level: 2, Tree: true}) {
		t.Errorf("in a trace: %v, %v", e.All(), e.Get(3))
	}
	e.Remove(0, 2)
	if _, _, ok := e.Find(0, 2); ok || !slices.Equal(e.All(), []int{0}) {
		t.Errorf("in a trace, removed: %v", e.All())
	}
	want := []int{small.Ends(0), small.Level(0), small.Level(3), small.Edge(0, 2), small.Edge(1, 4)}
	slices.Sort(want)
	if !slices.Equal(x.Changed(), want) {
		t.Errorf("a trace has changed %v; want %v", x.Changed(), want)
	}
	b.holds(t)
}

// P11.1, P11.2: Edges are kept in memory alone: two of the same memory tell the same, and a copy of one is it.
func TestSameMemory(t *testing.T) {
	b := born(t, small)
	other := Edges{L: small, M: mem.Of(b.a)}
	b.put(t, 1, 2, 4, 0, true)
	if x := other.Get(1); x != (Edge{U: 2, V: 4, Level: 0, Tree: true}) {
		t.Errorf("Get(1), put by another one: %v", x)
	}
	other.Remove(4, 2)
	if got := b.All(); len(got) != 0 {
		t.Errorf("All, removed by another one: %v", got)
	}
}

// wrong fails the test, if a call of which one of the numbers isn't there, or two vertices are one, tells anything.
func wrong(t *testing.T, e Edges, slot, u, v, level int) {
	t.Helper()
	for _, tree := range []bool{false, true} {
		e.Put(slot, u, v, level, tree)
	}
	if e.L.Edge(u, v) < 0 {
		for _, p := range [][2]int{{u, v}, {v, u}} {
			e.Remove(p[0], p[1])
			if found, tree, ok := e.Find(p[0], p[1]); found != 0 || tree || ok {
				t.Errorf("Find(%d, %d): %d, %t, %t", p[0], p[1], found, tree, ok)
			}
		}
	}
	if e.L.Ends(slot) < 0 {
		e.Turn(slot, true)
		e.Turn(slot, false)
		e.Lift(slot, 0)
		if x := e.Get(slot); x != (Edge{}) {
			t.Errorf("Get(%d): %v", slot, x)
		}
	}
	if level < 0 || level >= e.L.Levels() {
		for s := range e.L.Slots {
			e.Lift(s, level)
		}
	}
}

// P1: of vertices, slots and levels that aren't there, and of one vertex twice, nothing is told, and nothing is changed.
func TestNotThere(t *testing.T) {
	b := born(t, small)
	b.put(t, 0, 0, 1, 2, true)
	b.put(t, 1, 3, 2, 0, false)
	b.put(t, 3, 3, 4, 1, true)
	for _, n := range append([]int{5, 16}, nowhere...) {
		wrong(t, b.Edges, 1, n, 3, 0)
		wrong(t, b.Edges, 1, 3, n, 0)
		wrong(t, b.Edges, 1, n, n, 0)
		wrong(t, b.Edges, n, 2, 3, 1)
		wrong(t, b.Edges, 1, 2, 3, n)
		wrong(t, b.Edges, n, n, n, n)
	}
	wrong(t, b.Edges, 4, 2, 3, 1)
	wrong(t, b.Edges, 1, 2, 3, 3)
	for u := range small.Vertices {
		wrong(t, b.Edges, 1, u, u, 0)
	}
	b.holds(t)
}

// P1, and nothing is promised: a slot that has no edge, or had one that was removed or is another slot's, has none to turn,
// to lift, or to tell.
func TestSlotWithoutEdge(t *testing.T) {
	b := born(t, small)
	b.put(t, 0, 0, 1, 2, true)
	b.put(t, 1, 3, 2, 1, false)
	b.remove(t, 0, 1)
	b.put(t, 2, 2, 3, 0, true)
	for _, slot := range []int{0, 1, 3} {
		b.Turn(slot, true)
		b.Turn(slot, false)
		b.Lift(slot, 0)
		b.holds(t)
	}
}

// P1: in a memory that has just the lay's cells no other cell is asked, whatever is told to the calls.
func TestNoOtherCells(t *testing.T) {
	for _, l := range lays {
		e := Edges{L: l, M: make(strict, l.Cells())}
		numbers := append([]int{0, 1, 2, l.Vertices - 1, l.Vertices, l.Slots - 1, l.Slots, l.Levels()}, nowhere...)
		for _, x := range numbers {
			for _, y := range numbers {
				wrong(t, e, x, y, 0, 0)
				wrong(t, e, 0, x, y, 0)
				wrong(t, e, 0, 0, x, y)
			}
			e.Get(x)
			e.Turn(x, true)
			e.Lift(x, 0)
		}
		if n := len(e.All()); n > l.Vertices*l.Vertices/2 {
			t.Errorf("%v: %d edges", l, n)
		}
	}
}

// P1: of a lay that isn't right nothing is there, and no cell is asked.
func TestWrongLays(t *testing.T) {
	for _, l := range wrongLays {
		e := Edges{L: l, M: strict{}}
		for n := -1; n < 5; n++ {
			e.Put(0, n, n+1, 0, true)
			e.Remove(n, n+1)
			e.Turn(n, true)
			e.Lift(n, 0)
			if slot, tree, ok := e.Find(n, n+1); slot != 0 || tree || ok {
				t.Errorf("%v, Find(%d, %d): %d, %t, %t", l, n, n+1, slot, tree, ok)
			}
			if x := e.Get(n); x != (Edge{}) {
				t.Errorf("%v, Get(%d): %v", l, n, x)
			}
		}
		if got := e.All(); len(got) != 0 {
			t.Errorf("%v, All: %v", l, got)
		}
	}
}

// P1: in memory that isn't right all calls end, and none panics; slots that aren't there are not told.
func TestWrongMemory(t *testing.T) {
	d := dice(23)
	numbers := []uint64{
		0, 1, 2, 3, 9, 10, 11, 96, 97, 98, 258, 513, 1026, 1284, 65536, 1 << 32, 1<<62 - 1, 1 << 63, 1<<63 | 3, math.MaxUint64 - 1,
		math.MaxUint64,
	}
	for range 500 {
		m := make(strict, small.Cells())
		for c := range m {
			m[c] = numbers[d.upTo(len(numbers))]
		}
		e := Edges{L: small, M: m}
		for range 10 {
			slot, u, v, level := d.upTo(6), d.upTo(6), d.upTo(6), d.upTo(4)
			e.Get(slot)
			e.Turn(slot, d.upTo(2) == 0)
			e.Lift(slot, level)
			e.Find(u, v)
			e.Remove(u, v)
			e.Put(slot, v, u, level, d.upTo(2) == 0)
			if got := e.All(); slices.ContainsFunc(got, func(s int) bool { return s < 0 || s >= small.Slots }) {
				t.Fatalf("All: %v", got)
			}
		}
	}
}
