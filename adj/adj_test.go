package adj

import (
	"math"
	"slices"
	"testing"

	"tombolo/api"
	"tombolo/cell"
	"tombolo/edge"
	"tombolo/lay"
	"tombolo/mem"
	"tombolo/ptr"
	"tombolo/tour"
	"tombolo/treap"
)

// The pen of all tests.
var pen = ptr.Pen{Thread: 1, Tag: 7}

// A lay of few vertices, of 3 levels.
var small = lay.Lay{Vertices: 5, Slots: 6, Threads: 2}

// The greatest lay.
var great = lay.Lay{Vertices: api.MaxVertices, Slots: api.MaxSlots, Threads: api.MaxThreads}

// Lays at the edges of what may be: without slots, or without two vertices, nothing lies beside.
var lays = []lay.Lay{
	small, great, {Vertices: 2, Slots: 1, Threads: 1}, {Vertices: 3, Slots: 48, Threads: 1}, {Vertices: 16, Slots: 1, Threads: 8},
	{Vertices: 4, Slots: 6, Threads: 3}, {Vertices: 8, Slots: 0, Threads: 2}, {Vertices: 1, Slots: 48, Threads: 2},
	{Vertices: 1, Slots: 0, Threads: 1},
}

// Lays that may not be.
var wrongLays = []lay.Lay{
	{}, {Vertices: 5, Slots: 4}, {Vertices: 5, Slots: 4, Threads: 9}, {Vertices: 17, Slots: 4, Threads: 2},
	{Slots: 4, Threads: 2}, {Vertices: 5, Slots: -1, Threads: 2}, {Vertices: 5, Slots: 49, Threads: 2},
	{Vertices: math.MaxInt, Slots: math.MaxInt, Threads: math.MaxInt}, {Vertices: math.MinInt, Slots: 4, Threads: 2},
}

// Numbers of vertices, slots and levels that no lay has.
var nowhere = []int{
	math.MinInt, math.MinInt + 1, -1 << 32, -256, -2, -1, 48, 49, 255, 256, 65536, 1 << 32, 1 << 62, 1<<62 - 1, math.MaxInt,
}

// dice tell numbers that look like any.
type dice uint64

// upTo tells a number from 0 on and below n.
func (d *dice) upTo(n int) int {
	*d = *d*6364136223846793005 + 1442695040888963407
	return int(uint64(*d) >> 33 % uint64(n))
}

// strict is a memory that panics where there is no cell.
type strict []uint64

func (m strict) Load(i int) uint64     { return m[i] }
func (m strict) Store(i int, v uint64) { m[i] = v }

// over tells the edges that lie beside in a memory, which tours and edges share.
func over(l lay.Lay, m mem.Mem) Adj {
	return Adj{T: tour.Tours{Trees: treap.Trees{L: l, M: m, Pen: pen}}, E: edge.Edges{L: l, M: m}}
}

// end is a vertex at a level, which has a list.
type end struct{ vertex, level int }

// bench is a memory, and what it should have: the lists, the edges of the slots that lie beside, and the number of each cell
// that no list and no tree has.
type bench struct {
	Adj
	l    lay.Lay
	a    *cell.Arena
	has  map[end][]int
	lies map[int]edge.Edge
	want []uint64
}

// born makes memory of a lay whose nodes are alone, without edges; each cell that means nothing then has a number of its own.
func born(t *testing.T, l lay.Lay) *bench {
	t.Helper()
	a, e := cell.New(l.Cells())
	if e != api.OK {
		t.Fatalf("New(%d): %d", l.Cells(), e)
	}
	for i := range a.Len() {
		a.Store(i, uint64(i)<<33|9)
	}
	for v := range l.Vertices {
		for u := range v {
			a.Store(l.Edge(u, v), 0)
		}
		for level := range l.Levels() {
			a.Store(l.Head(v, level), 0)
		}
	}
	b := &bench{Adj: over(l, mem.Of(a)), l: l, a: a, has: map[end][]int{}, lies: map[int]edge.Edge{}}
	for x := 1; x <= l.Nodes(); x++ {
		a.Store(l.Field(x, lay.Parent), 0)
		a.Store(l.Field(x, lay.Priority), uint64(x*7%5))
		b.T.Alone(x)
	}
	b.want = cells(a)
	return b
}

// cells tells what an arena has; it looks at a copy, so that the counts stay.
func cells(a *cell.Arena) []uint64 {
	b := a.Copy()
	all := make([]uint64, b.Len())
	for i := range all {
		all[i], _ = b.Load(i)
	}
	return all
}

// keep takes what memory has as what it should have, after the layers below have changed it.
func (b *bench) keep() { b.want = cells(b.a) }

// put puts an edge that lies nowhere, and doesn't let it lie beside yet.
func (b *bench) put(slot, u, v, level int) {
	b.E.Put(slot, u, v, level, false)
	b.keep()
}

// add lets a slot's edge lie beside, and looks at what is told.
func (b *bench) add(t *testing.T, slot int) {
	t.Helper()
	x := b.E.Get(slot)
	for _, v := range []int{x.U, x.V} {
		l := end{v, x.Level}
		b.has[l] = slices.Insert(b.has[l], 0, slot)
	}
	b.lies[slot] = x
	b.Add(slot)
	b.holds(t)
}

// puts puts an edge, lets it lie beside, and looks at what is told.
func (b *bench) puts(t *testing.T, slot, u, v, level int) {
	t.Helper()
	b.put(slot, u, v, level)
	b.add(t, slot)
}

// remove lets a slot's edge not lie beside any more, and looks at what is told.
func (b *bench) remove(t *testing.T, slot int) {
	t.Helper()
	x := b.lies[slot]
	for _, v := range []int{x.U, x.V} {
		l := end{v, x.Level}
		i := slices.Index(b.has[l], slot)
		b.has[l] = slices.Delete(b.has[l], i, i+1)
	}
	delete(b.lies, slot)
	b.Remove(slot)
	b.holds(t)
}

// ends lets a slot's edge not lie beside any more, and not be there.
func (b *bench) ends(t *testing.T, slot int) {
	t.Helper()
	x := b.lies[slot]
	b.remove(t, slot)
	b.E.Remove(x.U, x.V)
	b.keep()
}

// holds fails the test, if anything isn't as it should be.
func (b *bench) holds(t *testing.T) {
	t.Helper()
	before := b.a.Counts()
	for v := range b.l.Vertices {
		for level := range b.l.Levels() {
			b.tells(t, end{v, level})
		}
	}
	after := b.a.Counts()
	if after.Loads = before.Loads; after != before {
		t.Fatalf("what only tells has counted %v; want %v, but for loads", after, before)
	}
	b.marks(t)
	b.stays(t)
}

// tells fails the test, if List, First or the cells of a list tell anything wrong.
func (b *bench) tells(t *testing.T, l end) {
	t.Helper()
	want := b.has[l]
	if got := b.List(l.vertex, l.level); !slices.Equal(got, want) {
		t.Fatalf("List(%d, %d): %v; want %v", l.vertex, l.level, got, want)
	}
	first := 0
	if len(want) > 0 {
		first = want[0]
	}
	if slot, ok := b.First(l.vertex, l.level); slot != first || ok != (len(want) > 0) {
		t.Fatalf("First(%d, %d): %d, %t; want %v", l.vertex, l.level, slot, ok, want)
	}
	all := cells(b.a)
	link, ahead := b.l.Head(l.vertex, l.level), uint64(0)
	for _, slot := range want {
		side := 0
		if b.lies[slot].V == l.vertex {
			side = 1
		}
		x := uint64(2*slot + side + 1)
		if all[link] != x || all[b.l.Prev(slot, side)] != ahead {
			t.Fatalf("the list of %v: a cell has %d; want the slot %d, and %d ahead of it", l, all[link], slot, ahead)
		}
		link, ahead = b.l.Next(slot, side), x
	}
	if all[link] != 0 {
		t.Fatalf("the list of %v: the last cell has %d", l, all[link])
	}
}

// marks fails the test, if a mark or a sum is wrong: the mark 0 is that of vertices whose lists aren't empty, and of all others
// that are above one.
func (b *bench) marks(t *testing.T) {
	t.Helper()
	for x := 1; x <= b.l.Nodes(); x++ {
		what, _ := b.l.Node(x)
		want := !what.Arc && len(b.has[end{what.Vertex, what.Level}]) > 0
		if got := b.T.Marked(x, 0); got != want {
			t.Fatalf("Marked(%d, 0), of %v: %t", x, what, got)
		}
		first, row := 0, b.T.List(x)
		if i := slices.IndexFunc(row, func(y int) bool { return b.T.Marked(y, 0) }); i >= 0 {
			first = row[i]
		}
		if got := b.T.First(x, 0); got != first {
			t.Fatalf("First(%d, 0), of the row %v: %d; want %d", x, row, got, first)
		}
	}
}

// stays fails the test, if a cell has changed that neither a list has nor a sum; of the sums the marks alone may.
func (b *bench) stays(t *testing.T) {
	t.Helper()
	const marked = 1<<34 | 1<<32 // the mark 0 of a sum: a node's own one, and that of any below it
	free := map[int]uint64{}
	for v := range b.l.Vertices {
		for level := range b.l.Levels() {
			free[b.l.Head(v, level)] = math.MaxUint64
		}
	}
	for slot := range b.l.Slots {
		for side := range 2 {
			free[b.l.Next(slot, side)] = math.MaxUint64
			free[b.l.Prev(slot, side)] = math.MaxUint64
		}
	}
	for x := 1; x <= b.l.Nodes(); x++ {
		free[b.l.Field(x, lay.Sum)] = marked
	}
	for i, v := range cells(b.a) {
		if (v^b.want[i])&^free[i] != 0 {
			t.Fatalf("cell %d has %#x; want %#x", i, v, b.want[i])
		}
	}
}

// unused tells a slot whose edge lies nowhere, if there is one.
func (b *bench) unused(d *dice) (int, bool) {
	if b.l.Slots == 0 {
		return 0, false
	}
	first := d.upTo(b.l.Slots)
	for i := range b.l.Slots {
		slot := (first + i) % b.l.Slots
		if _, ok := b.lies[slot]; !ok {
			return slot, true
		}
	}
	return 0, false
}

// some tells a slot whose edge lies beside.
func (b *bench) some(d *dice) int {
	slots := make([]int, 0, len(b.lies))
	for slot := range b.lies {
		slots = append(slots, slot)
	}
	slices.Sort(slots)
	return slots[d.upTo(len(slots))]
}

// deed does anything that may be done.
func (b *bench) deed(t *testing.T, d *dice) {
	t.Helper()
	u, v, level := d.upTo(b.l.Vertices), d.upTo(b.l.Vertices), d.upTo(b.l.Levels())
	if len(b.lies) > 0 && d.upTo(5) < 2 {
		b.leaves(t, d, level)
		return
	}
	slot, ok := b.unused(d)
	if !ok {
		return
	}
	if d.upTo(4) == 0 {
		b.ties(slot, u, v, level)
		b.holds(t)
		return
	}
	if _, _, found := b.E.Find(u, v); u != v && !found {
		b.puts(t, slot, u, v, level)
	}
}

// leaves lets any edge that lies beside end, be at another level, or leave with its cell already removed.
func (b *bench) leaves(t *testing.T, d *dice, level int) {
	t.Helper()
	slot := b.some(d)
	switch x := b.lies[slot]; d.upTo(3) {
	case 0:
		b.ends(t, slot)
	case 1:
		b.remove(t, slot)
		b.E.Lift(slot, level)
		b.keep()
		b.add(t, slot)
	default:
		b.E.Remove(x.V, x.U)
		b.keep()
		b.remove(t, slot)
	}
}

// ties lets the forest of a level be another one: of a slot that lies nowhere, which is linked, or cut if it is.
func (b *bench) ties(slot, u, v, level int) {
	if b.T.Linked(level, slot) {
		b.T.Cut(level, slot)
	} else {
		b.T.Link(level, slot, u, v)
	}
	b.keep()
}

// P12.1, P12.2: the example of the chapter.
func TestExample(t *testing.T) {
	b := born(t, small)
	b.puts(t, 0, 2, 1, 0)
	b.puts(t, 1, 2, 4, 0)
	if got := b.List(2, 0); !slices.Equal(got, []int{1, 0}) {
		t.Errorf("List(2, 0): %v", got)
	}
	if slot, ok := b.First(2, 0); slot != 1 || !ok {
		t.Errorf("First(2, 0): %d, %t", slot, ok)
	}
}

// P12.2: at first all lists are empty.
func TestEmpty(t *testing.T) {
	for _, l := range lays {
		born(t, l).holds(t)
	}
}

// P12.1: one edge between each two vertices, of each slot, at each level: it lies beside, and then not, and then again.
func TestOneEdge(t *testing.T) {
	for u := range small.Vertices {
		for v := range small.Vertices {
			for slot := range small.Slots {
				for level := range small.Levels() {
					if u == v {
						continue
					}
					b := born(t, small)
					b.puts(t, slot, u, v, level)
					b.remove(t, slot)
					b.add(t, slot)
					b.ends(t, slot)
				}
			}
		}
	}
}

// P12.1: a side's number is twice its slot's, and 1 for the side 1: the lesser vertex has the side 0, whichever was put first.
func TestCells(t *testing.T) {
	b := born(t, small)
	b.puts(t, 2, 4, 3, 1)
	b.puts(t, 5, 0, 4, 1)
	for _, c := range []struct {
		cell int
		want uint64
	}{
		{small.Head(3, 1), 5}, {small.Head(4, 1), 12}, {small.Head(0, 1), 11}, {small.Head(4, 0), 0}, {small.Next(5, 1), 6},
		{small.Prev(5, 1), 0}, {small.Next(5, 0), 0}, {small.Prev(5, 0), 0}, {small.Next(2, 1), 0}, {small.Prev(2, 1), 12},
		{small.Next(2, 0), 0}, {small.Prev(2, 0), 0},
	} {
		if v, _ := b.a.Load(c.cell); v != c.want {
			t.Errorf("cell %d has %d; want %d", c.cell, v, c.want)
		}
	}
}

// P12.2: First and List tell what memory has, whoever has put it there.
func TestFoundInCells(t *testing.T) {
	b := born(t, small)
	b.a.Store(small.Head(1, 2), 2*3+1+1)
	b.a.Store(small.Next(3, 1), 2*0+0+1)
	b.a.Store(small.Next(0, 0), 2*5+1+1)
	b.a.Store(small.Next(5, 1), 0)
	if slot, ok := b.First(1, 2); slot != 3 || !ok {
		t.Errorf("First(1, 2): %d, %t", slot, ok)
	}
	if got := b.List(1, 2); !slices.Equal(got, []int{3, 0, 5}) {
		t.Errorf("List(1, 2): %v", got)
	}
}

// orders tells all orders of the numbers from 0 on and below n.
func orders(n int) [][]int {
	if n == 0 {
		return [][]int{nil}
	}
	var all [][]int
	for _, o := range orders(n - 1) {
		for at := range n {
			all = append(all, slices.Insert(slices.Clone(o), at, n-1))
		}
	}
	return all
}

// P12.1, P12.2: what is added last is first; whichever is removed, first, last or between, the others' order stays.
func TestOrders(t *testing.T) {
	for _, in := range orders(4) {
		for _, out := range orders(4) {
			b := born(t, small)
			for _, slot := range in {
				b.puts(t, slot, []int{0, 1, 3, 4}[slot], 2, 1)
			}
			want := slices.Clone(in)
			slices.Reverse(want)
			for _, slot := range out {
				if got := b.List(2, 1); !slices.Equal(got, want) {
					t.Fatalf("in by %v, out by %v: %v; want %v", in, out, got, want)
				}
				b.remove(t, slot)
				want = slices.DeleteFunc(want, func(s int) bool { return s == slot })
			}
		}
	}
}

// P12.1: an edge that lies beside lies there at its level alone.
func TestLevels(t *testing.T) {
	b := born(t, small)
	b.puts(t, 0, 0, 1, 0)
	b.puts(t, 1, 0, 2, 1)
	b.puts(t, 2, 0, 3, 2)
	b.puts(t, 3, 0, 4, 2)
	for level, want := range [][]int{{0}, {1}, {3, 2}} {
		if got := b.List(0, level); !slices.Equal(got, want) {
			t.Errorf("List(0, %d): %v; want %v", level, got, want)
		}
	}
	for _, slot := range []int{0, 3, 1, 2} {
		b.remove(t, slot)
		b.E.Lift(slot, 2-slot/2)
		b.keep()
		b.add(t, slot)
	}
}

// P12.1: the marks are right within rows of many nodes: where one list of a row is empty another one may not be.
func TestMarksInRows(t *testing.T) {
	b := born(t, small)
	for level := range small.Levels() {
		for v := 1; v < small.Vertices; v++ {
			b.ties(v-1, v-1, v, level)
		}
		b.puts(t, 4, 0, 3, level)
		b.puts(t, 5, 3, 1, level)
		first := b.T.First(b.T.Root(small.Vertex(level, 4)), 0)
		if first == 0 {
			t.Errorf("level %d: no node of the row has the mark 0", level)
		}
		b.ends(t, 4)
		if b.T.Marked(small.Vertex(level, 0), 0) || !b.T.Marked(small.Vertex(level, 3), 0) {
			t.Errorf("level %d: of both ends just 3 should have the mark 0", level)
		}
		b.ends(t, 5)
		if first := b.T.First(b.T.Root(small.Vertex(level, 4)), 0); first != 0 {
			t.Errorf("level %d: %d has the mark 0 still", level, first)
		}
	}
}

// P12.1: the mark 1 of vertices and arcs stays, and so does what it tells.
func TestOtherMark(t *testing.T) {
	b := born(t, small)
	b.ties(0, 0, 1, 1)
	arc := small.Arc(0, 1, 0)
	b.T.Mark(arc, 1, true)
	b.T.Mark(small.Vertex(1, 1), 1, true)
	b.keep()
	b.puts(t, 3, 0, 1, 1)
	b.remove(t, 3)
	if !b.T.Marked(arc, 1) || !b.T.Marked(small.Vertex(1, 1), 1) || b.T.Marked(small.Vertex(1, 0), 1) {
		t.Errorf("a mark 1 has changed")
	}
}

// P12.1: both marks are right then, even if they weren't ahead of the call.
func TestMarkAgain(t *testing.T) {
	b := born(t, small)
	b.puts(t, 0, 1, 2, 0)
	b.put(1, 1, 3, 0)
	b.T.Mark(small.Vertex(0, 1), 0, false)
	b.T.Mark(small.Vertex(0, 3), 0, true)
	b.add(t, 1)
	b.T.Mark(small.Vertex(0, 1), 0, false)
	b.remove(t, 1)
}

// P12.1: whoever doesn't lie beside any more can be of other vertices, and lie beside there; so a list may have it as often as
// it comes, while its old neighbours' cells stay.
func TestSlotAgain(t *testing.T) {
	b := born(t, small)
	b.puts(t, 0, 0, 1, 0)
	b.puts(t, 1, 0, 2, 0)
	b.puts(t, 2, 0, 3, 0)
	b.ends(t, 1)
	b.ends(t, 2)
	b.puts(t, 1, 3, 4, 0)
	b.puts(t, 2, 3, 0, 1)
	b.ends(t, 0)
	b.puts(t, 0, 3, 1, 0)
	b.ends(t, 1)
	b.ends(t, 0)
	b.ends(t, 2)
}

// P12.1: the cells that a side's removal has left name its old neighbours, whose edges may be another writer's by now: their cells
// aren't asked when it comes again elsewhere.
func TestOldNeighbours(t *testing.T) {
	b := born(t, small)
	b.puts(t, 0, 0, 1, 0)
	b.puts(t, 1, 0, 2, 0)
	b.puts(t, 2, 1, 2, 0)
	b.ends(t, 0)
	b.put(0, 3, 4, 0)
	x := mem.Over(b.a)
	over(small, x).Add(0)
	for _, y := range x.Row() {
		for _, slot := range []int{1, 2} {
			for side := range 2 {
				if y.Cell == small.Next(slot, side) || y.Cell == small.Prev(slot, side) {
					t.Errorf("Add(0), of the lists of 3 and 4, has the access %v to the side %d of the slot %d", y, side, slot)
				}
			}
		}
	}
	b.add(t, 0)
}

// P12.1: an edge whose cell was removed already is removed from the lists as well: its slot's cells are there still.
func TestEdgeGone(t *testing.T) {
	b := born(t, small)
	b.puts(t, 0, 1, 0, 0)
	b.puts(t, 1, 2, 0, 0)
	b.puts(t, 2, 3, 0, 0)
	b.E.Remove(0, 2)
	b.keep()
	b.remove(t, 1)
	b.puts(t, 3, 0, 2, 1)
	b.E.Remove(0, 3)
	b.E.Remove(0, 1)
	b.keep()
	b.remove(t, 2)
	b.remove(t, 0)
}

// P12.1, P12.2: as many edges as a lay can have, all at one level, or at all of them.
func TestAllSlots(t *testing.T) {
	for _, l := range lays {
		for step := range 2 {
			b := born(t, l)
			slot := 0
			for u := range l.Vertices {
				for v := u + 1; v < l.Vertices && slot < l.Slots; v++ {
					b.puts(t, slot, v, u, slot*step%l.Levels())
					slot++
				}
			}
			if got := b.List(0, 0); step == 0 && len(got) != min(l.Vertices-1, l.Slots) {
				t.Errorf("%v: the vertex 0 has %v", l, got)
			}
			for s := range slot {
				b.ends(t, s*29%slot)
			}
		}
	}
}

// P12.1, P12.2: the greatest numbers of vertices, slots and levels.
func TestLimits(t *testing.T) {
	b := born(t, great)
	b.puts(t, 47, 15, 14, 4)
	b.puts(t, 46, 15, 0, 4)
	if head, _ := b.a.Load(great.Head(14, 4)); head != 95 {
		t.Errorf("the head of 14 is %d", head)
	}
	if next, _ := b.a.Load(great.Next(46, 1)); next != 96 {
		t.Errorf("behind the slot 46 is %d", next)
	}
	b.remove(t, 46)
	b.remove(t, 47)
}

// P12.1, P12.2: whatever is put, added, removed and lifted, while forests are linked and cut.
func TestDays(t *testing.T) {
	for i, l := range lays {
		for j := range 3 {
			d := dice(10*i + j)
			b := born(t, l)
			deeds := 400
			if l == great {
				deeds = 60
			}
			for range deeds {
				b.deed(t, &d)
			}
		}
	}
}

// P12.2: two answers of List share no memory, spare room too.
func TestListIsNew(t *testing.T) {
	b := born(t, small)
	for slot := range 3 {
		b.puts(t, slot, slot, 4, 0)
	}
	x, y := b.List(4, 0), b.List(4, 0)
	x = x[:cap(x)]
	for i := range x {
		x[i] = 99
	}
	if !slices.Equal(y, []int{2, 1, 0}) || slices.Contains(y[:cap(y)], 99) {
		t.Errorf("List, told with another answer: %v", y)
	}
	b.holds(t)
}

// P12.1, P12.2: in a trace, all is done likewise, and its arena stays.
func TestTrace(t *testing.T) {
	b := born(t, small)
	b.puts(t, 0, 0, 1, 0)
	b.puts(t, 1, 0, 2, 0)
	b.put(2, 3, 0, 0)
	x := mem.Over(b.a)
	y := over(small, x)
	y.Add(2)
	y.Remove(1)
	y.Remove(0)
	if got := y.List(0, 0); !slices.Equal(got, []int{2}) {
		t.Errorf("in a trace: %v", got)
	}
	if y.T.Marked(small.Vertex(0, 2), 0) || !y.T.Marked(small.Vertex(0, 3), 0) {
		t.Errorf("in a trace, a mark is wrong")
	}
	for _, c := range x.Changed() {
		if c == small.Ends(1) || c == small.Level(1) || c == small.Edge(0, 2) || c == small.Head(4, 0) {
			t.Errorf("a trace has changed the cell %d", c)
		}
	}
	b.holds(t)
	if n, ok := mem.Replay(mem.Of(b.a), x.Row()); !ok || !slices.Equal(b.List(0, 0), []int{2}) {
		t.Errorf("replayed: %d, %t, %v", n, ok, b.List(0, 0))
	}
}

// P12.1, P12.2: lists are kept in memory alone: whoever has the same memory tells the same.
func TestSameMemory(t *testing.T) {
	b := born(t, small)
	other := over(small, mem.Of(b.a))
	b.puts(t, 1, 2, 4, 0)
	if got := other.List(4, 0); !slices.Equal(got, []int{1}) {
		t.Errorf("List(4, 0), added by another one: %v", got)
	}
	other.Remove(1)
	if got := b.List(4, 0); len(got) != 0 {
		t.Errorf("List(4, 0), removed by another one: %v", got)
	}
}

// refused fails the test, if a call changes memory.
func (b *bench) refused(t *testing.T, call func(slot int), slot int) {
	t.Helper()
	was := cells(b.a)
	call(slot)
	if !slices.Equal(cells(b.a), was) {
		t.Fatalf("a call of the slot %d, that should do nothing, has changed memory", slot)
	}
}

// P1, and nothing is promised: what lies beside already isn't added again, and what doesn't isn't removed.
func TestTwice(t *testing.T) {
	b := born(t, small)
	for slot := range 3 {
		b.puts(t, slot, slot, 4, 1)
	}
	b.put(3, 3, 4, 1)
	b.put(5, 0, 3, 0)
	for side := range 2 {
		b.a.Store(small.Next(3, side), 0)
		b.a.Store(small.Prev(3, side), 0)
	}
	for slot := range 3 {
		b.refused(t, b.Add, slot)
	}
	for _, slot := range []int{3, 4, 5} {
		b.refused(t, b.Remove, slot)
	}
	b.add(t, 3)
	// What the removed ones' cells have is no more than what once was ahead of them, and behind.
	for _, slot := range []int{1, 2, 0, 3} {
		b.remove(t, slot)
		for _, gone := range []int{1, 2, 0, 3} {
			if _, ok := b.lies[gone]; !ok {
				b.refused(t, b.Remove, gone)
			}
		}
	}
}

// P1: a slot that never had an edge, in memory as it is at first, or whose cells have none that may be, neither comes to lie
// beside, nor goes.
func TestSlotWithoutEdge(t *testing.T) {
	b := born(t, small)
	b.puts(t, 1, 0, 1, 0)
	for _, ends := range []uint64{0, 1<<8 | 1, 5, 4<<8 | 5, 16<<8 | 1, 1<<16 | 1, 1<<63 | 1, math.MaxUint64} {
		b.a.Store(small.Ends(2), ends)
		b.a.Store(small.Level(2), 0)
		b.refused(t, b.Add, 2)
		b.refused(t, b.Remove, 2)
	}
	for _, level := range []uint64{3, 4, 1 << 32, 1 << 63, math.MaxUint64} {
		b.a.Store(small.Ends(2), 2)
		b.a.Store(small.Level(2), level)
		b.refused(t, b.Add, 2)
		b.refused(t, b.Remove, 2)
	}
	b.keep()
	b.holds(t)
}

// wrong fails the test, if a call of a vertex, a level or a slot that isn't there tells anything.
func wrong(t *testing.T, a Adj, v, level, slot int) {
	t.Helper()
	if a.E.L.Head(v, level) < 0 {
		if got, ok := a.First(v, level); got != 0 || ok {
			t.Errorf("First(%d, %d): %d, %t", v, level, got, ok)
		}
		if got := a.List(v, level); len(got) != 0 {
			t.Errorf("List(%d, %d): %v", v, level, got)
		}
	}
	if a.E.L.Ends(slot) < 0 {
		a.Add(slot)
		a.Remove(slot)
	}
}

// P1: of vertices, levels and slots that aren't there nothing is told, and nothing is changed.
func TestNotThere(t *testing.T) {
	b := born(t, small)
	b.puts(t, 0, 0, 1, 2)
	b.puts(t, 5, 4, 3, 0)
	was := cells(b.a)
	for _, n := range append([]int{5, 6, 16}, nowhere...) {
		wrong(t, b.Adj, n, 0, n)
		wrong(t, b.Adj, 0, n, n)
		wrong(t, b.Adj, n, n, n)
	}
	wrong(t, b.Adj, 4, 3, 6)
	if !slices.Equal(cells(b.a), was) {
		t.Errorf("memory is changed")
	}
	b.holds(t)
}

// P1: in a memory that has just the lay's cells no other cell is asked, whatever is told to the calls.
func TestNoOtherCells(t *testing.T) {
	for _, l := range lays {
		a := over(l, make(strict, l.Cells()))
		for x := 1; x <= l.Nodes(); x++ {
			a.T.Alone(x)
		}
		numbers := append([]int{0, 1, 2, l.Vertices - 1, l.Vertices, l.Slots - 1, l.Slots, l.Levels()}, nowhere...)
		for _, x := range numbers {
			for _, y := range numbers {
				wrong(t, a, x, y, x)
				a.List(x, y)
				a.First(x, y)
			}
			a.E.Put(x, 0, 1, 0, false)
			a.Add(x)
			a.Remove(x)
		}
	}
}

// P1: of a lay that isn't right nothing is there, and no cell is asked.
func TestWrongLays(t *testing.T) {
	for _, l := range wrongLays {
		for n := -1; n < 5; n++ {
			wrong(t, over(l, strict{}), n, n, n)
			wrong(t, over(l, strict{}), 0, n, n)
			wrong(t, over(l, strict{}), n, 0, n)
		}
	}
}

// P1: in memory that isn't right all calls end, and none panics; slots that aren't there are not told, and no list is longer
// than there are slots.
func TestWrongMemory(t *testing.T) {
	d := dice(23)
	numbers := []uint64{
		0, 1, 2, 3, 12, 13, 14, 97, 257, 258, 516, 1026, 65536, 1 << 32, 1<<62 - 1, 1 << 63, 1<<63 | 3, math.MaxUint64 - 1,
		math.MaxUint64,
	}
	for i := range 500 {
		m := make(strict, small.Cells())
		for c := range m {
			m[c] = numbers[d.upTo(len(numbers))]
			if i%2 == 0 && d.upTo(4) > 0 {
				m[c] = uint64(d.upTo(2*small.Slots + 2))
			}
		}
		a := over(small, m)
		for slot := range small.Slots {
			if d.upTo(2) == 0 {
				a.E.Put(slot, d.upTo(5), d.upTo(5), d.upTo(3), false)
			}
		}
		for range 20 {
			a.Add(d.upTo(small.Slots + 1))
			a.Remove(d.upTo(small.Slots + 1))
			v, level := d.upTo(6), d.upTo(4)
			list := a.List(v, level)
			slot, ok := a.First(v, level)
			list = append(list, slot)
			if len(list) > small.Slots+1 || !ok && slot != 0 {
				t.Fatalf("List(%d, %d), First: %v, %t", v, level, list, ok)
			}
			if slices.ContainsFunc(list, func(s int) bool { return s < 0 || s >= small.Slots }) {
				t.Fatalf("List(%d, %d), First: %v", v, level, list)
			}
		}
	}
}
