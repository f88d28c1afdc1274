package lift

import (
	"math"
	"slices"
	"testing"

	"tombolo/adj"
	"tombolo/api"
	"tombolo/cell"
	"tombolo/edge"
	"tombolo/lay"
	"tombolo/mem"
	"tombolo/ptr"
	"tombolo/tour"
	"tombolo/treap"
)

// The pen of all tests.
var pen = ptr.Pen{Thread: 1, Tag: 7}

// A lay of few vertices, of 3 levels.
var small = lay.Lay{Vertices: 5, Slots: 7, Threads: 2}

// The greatest lay.
var great = lay.Lay{Vertices: api.MaxVertices, Slots: api.MaxSlots, Threads: api.MaxThreads}

// Lays at the edges of what may be: without slots, or without two vertices, there are no edges.
var lays = []lay.Lay{
	small, great, {Vertices: 2, Slots: 1, Threads: 1}, {Vertices: 3, Slots: 48, Threads: 1}, {Vertices: 16, Slots: 1, Threads: 8},
	{Vertices: 4, Slots: 6, Threads: 3}, {Vertices: 8, Slots: 12, Threads: 2}, {Vertices: 8, Slots: 0, Threads: 2},
	{Vertices: 1, Slots: 48, Threads: 2}, {Vertices: 1, Slots: 0, Threads: 1},
}

// Lays that may not be.
var wrongLays = []lay.Lay{
	{}, {Vertices: 5, Slots: 4}, {Vertices: 5, Slots: 4, Threads: 9}, {Vertices: 17, Slots: 4, Threads: 2},
	{Slots: 4, Threads: 2}, {Vertices: 5, Slots: -1, Threads: 2}, {Vertices: 5, Slots: 49, Threads: 2},
	{Vertices: math.MaxInt, Slots: math.MaxInt, Threads: math.MaxInt}, {Vertices: math.MinInt, Slots: 4, Threads: 2},
}

// Numbers of vertices, slots and levels that no lay has.
var nowhere = []int{
	math.MinInt, math.MinInt + 1, -1 << 32, -256, -2, -1, 48, 49, 255, 256, 65536, 1 << 32, 1 << 62, 1<<62 - 1, math.MaxInt,
}

// dice tell numbers that look like any.
type dice uint64

// upTo tells a number from 0 on and below n.
func (d *dice) upTo(n int) int {
	*d = *d*6364136223846793005 + 1442695040888963407
	return int(uint64(*d) >> 33 % uint64(n))
}

// strict is a memory that panics where there is no cell.
type strict []uint64

func (m strict) Load(i int) uint64     { return m[i] }
func (m strict) Store(i int, v uint64) { m[i] = v }

// kinds tells kinds of priorities: all the same, rising, falling, few, many.
func kinds() []func(x int) uint64 {
	d := dice(5)
	return []func(x int) uint64{
		func(int) uint64 { return 0 },
		func(x int) uint64 { return uint64(x) },
		func(x int) uint64 { return math.MaxUint64 - uint64(x) },
		func(x int) uint64 { return uint64(x * 7 % 5) },
		func(int) uint64 { return uint64(d.upTo(1 << 30)) },
	}
}

// over tells the edges of a memory.
func over(l lay.Lay, m mem.Mem) Lift {
	t := tour.Tours{Trees: treap.Trees{L: l, M: m, Pen: pen}}
	return Lift{Adj: adj.Adj{T: t, E: edge.Edges{L: l, M: m}}}
}

// end is a vertex at a level, which has a list.
type end struct{ vertex, level int }

// had is the edge of a slot: it is there, until it is removed; it stands in the forests up to its level, or lies beside there,
// or neither.
type had struct {
	edge.Edge
	stands, lies bool
}

// bench is a memory, and what it should have: the rows of all nodes, the lists, the edges by their slots, and the number of
// each cell that no list and no tree has.
type bench struct {
	Lift
	l    lay.Lay
	a    *cell.Arena
	rows [][]int
	has  map[end][]int
	edge map[int]*had
	want []uint64
}

// born makes memory of a lay whose nodes are alone, without edges; each cell that means nothing then has a number of its own.
func born(t *testing.T, l lay.Lay, priority func(x int) uint64) *bench {
	t.Helper()
	a, e := cell.New(l.Cells())
	if e != api.OK {
		t.Fatalf("New(%d): %d", l.Cells(), e)
	}
	for i := range a.Len() {
		a.Store(i, uint64(i)<<33|9)
	}
	for v := range l.Vertices {
		for u := range v {
			a.Store(l.Edge(u, v), 0)
		}
		for level := range l.Levels() {
			a.Store(l.Head(v, level), 0)
		}
	}
	b := &bench{Lift: over(l, mem.Of(a)), l: l, a: a, has: map[end][]int{}, edge: map[int]*had{}}
	for x := 1; x <= l.Nodes(); x++ {
		a.Store(l.Field(x, lay.Parent), 0)
		a.Store(l.Field(x, lay.Priority), priority(x))
		b.T.Alone(x)
		b.rows = append(b.rows, []int{x})
	}
	b.want = cells(a)
	return b
}

// cells tells what an arena has; it looks at a copy, so that the counts stay.
func cells(a *cell.Arena) []uint64 {
	b := a.Copy()
	all := make([]uint64, b.Len())
	for i := range all {
		all[i], _ = b.Load(i)
	}
	return all
}

// find tells which row has a node, and where.
func (b *bench) find(x int) (row, at int) {
	for i, r := range b.rows {
		if at := slices.Index(r, x); at >= 0 {
			return i, at
		}
	}
	panic("a node is in no row")
}

// rowOf tells the row of a vertex at a level.
func (b *bench) rowOf(level, v int) []int {
	i, _ := b.find(b.l.Vertex(level, v))
	return b.rows[i]
}

// together tells whether two vertices should be in one row.
func (b *bench) together(level, u, v int) bool {
	return slices.Contains(b.rowOf(level, u), b.l.Vertex(level, v))
}

// count tells how many vertices a vertex's row should have.
func (b *bench) count(level, u int) int {
	n := 0
	for v := range b.l.Vertices {
		if b.together(level, u, v) {
			n++
		}
	}
	return n
}

// begun lets the row that has x begin at x, and takes it away from the others.
func (b *bench) begun(x int) []int {
	i, at := b.find(x)
	row := slices.Concat(b.rows[i][at:], b.rows[i][:at])
	b.rows = slices.Delete(b.rows, i, i+1)
	return row
}

// linked lets the rows of a slot's ends be one at a level, as the document links them, the lesser one first.
func (b *bench) linked(level, slot int) {
	x := b.edge[slot]
	b.rows = append(b.rows, slices.Concat(b.begun(b.l.Vertex(level, x.U)), b.begun(b.l.Arc(slot, level, 0)),
		b.begun(b.l.Vertex(level, x.V)), b.begun(b.l.Arc(slot, level, 1))))
}

// parted lets the row of a slot be two at a level, as the document cuts it.
func (b *bench) parted(level, slot int) {
	arcs := []int{b.l.Arc(slot, level, 0), b.l.Arc(slot, level, 1)}
	k, i := b.find(arcs[0])
	_, j := b.find(arcs[1])
	i, j = min(i, j), max(i, j)
	row := b.rows[k]
	within, around := slices.Clone(row[i+1:j]), slices.Concat(row[:i], row[j+1:])
	b.rows = slices.Delete(b.rows, k, k+1)
	b.rows = append(b.rows, within, around, arcs[:1], arcs[1:])
}

// listed lets a slot be first in both lists of its level, or in none.
func (b *bench) listed(slot int, on bool) {
	x := b.edge[slot]
	x.lies = on
	for _, v := range []int{x.U, x.V} {
		l := end{v, x.Level}
		if on {
			b.has[l] = slices.Insert(b.has[l], 0, slot)
			continue
		}
		i := slices.Index(b.has[l], slot)
		b.has[l] = slices.Delete(b.has[l], i, i+1)
	}
}

// raised lets a slot's edge be at a level.
func (b *bench) raised(slot, level int) {
	b.edge[slot].Level = level
	b.want[b.l.Level(slot)] = uint64(level)
}

// treeUp lets a tree edge be at the next level, in the document's words.
func (b *bench) treeUp(slot int) {
	b.raised(slot, b.edge[slot].Level+1)
	b.linked(b.edge[slot].Level, slot)
}

// plainUp lets an edge lie beside at the next level, in the document's words.
func (b *bench) plainUp(slot int) {
	b.listed(slot, false)
	b.raised(slot, b.edge[slot].Level+1)
	b.listed(slot, true)
}

// treesUp lets all tree edges of a row be at the next level, in the document's words.
func (b *bench) treesUp(level, v int) {
	for {
		i := slices.IndexFunc(b.rowOf(level, v), b.hasPlanted)
		if i < 0 {
			return
		}
		what, _ := b.l.Node(b.rowOf(level, v)[i])
		b.treeUp(what.Slot)
	}
}

// sought tells what Seek should tell, and lets what comes ahead of it be at the next level, in the document's words.
func (b *bench) sought(level, v int) (int, bool) {
	for {
		row := b.rowOf(level, v)
		i := slices.IndexFunc(row, b.hasFilled)
		if i < 0 {
			return 0, false
		}
		what, _ := b.l.Node(row[i])
		slot := b.has[end{what.Vertex, level}][0]
		x := b.edge[slot]
		other := x.U
		if other == what.Vertex {
			other = x.V
		}
		if !slices.Contains(row, b.l.Vertex(level, other)) {
			return slot, true
		}
		b.plainUp(slot)
	}
}

// hasFilled tells whether a node should have the mark 0.
func (b *bench) hasFilled(x int) bool {
	what, _ := b.l.Node(x)
	return !what.Arc && len(b.has[end{what.Vertex, what.Level}]) > 0
}

// hasPlanted tells whether a node should have the mark 1.
func (b *bench) hasPlanted(x int) bool {
	what, _ := b.l.Node(x)
	e := b.edge[what.Slot]
	return what.Arc && what.Side == 0 && e != nil && e.stands && e.Level == what.Level
}

// put puts an edge, that neither stands nor lies beside yet.
func (b *bench) put(slot, u, v, level int) {
	b.edge[slot] = &had{Edge: edge.Edge{U: min(u, v), V: max(u, v), Level: level}}
	b.E.Put(slot, u, v, level, false)
	b.want[b.l.Ends(slot)] = uint64(min(u, v)*256 + max(u, v))
	b.want[b.l.Level(slot)] = uint64(level)
	b.want[b.l.Edge(u, v)] = uint64((slot + 1) * 2)
}

// remove removes the edge of a slot, which neither stands nor lies beside any more.
func (b *bench) remove(slot int) {
	x := b.edge[slot]
	delete(b.edge, slot)
	b.E.Remove(x.U, x.V)
	b.want[b.l.Edge(x.U, x.V)] = 0
}

// add lets a slot's edge lie beside.
func (b *bench) add(slot int) {
	b.listed(slot, true)
	b.Add(slot)
}

// leave lets a slot's edge lie beside no longer.
func (b *bench) leave(slot int) {
	b.listed(slot, false)
	b.Remove(slot)
}

// plant plants a slot's edge, and looks at what is there then.
func (b *bench) plant(t *testing.T, slot int) {
	t.Helper()
	x := b.edge[slot]
	for level := range x.Level + 1 {
		b.linked(level, slot)
	}
	x.stands, x.Tree = true, true
	b.want[b.l.Edge(x.U, x.V)] = uint64((slot+1)*2 + 1)
	b.Plant(slot)
	b.holds(t)
}

// fell fells a slot's tree edge, and looks at what is there then.
func (b *bench) fell(t *testing.T, slot int) {
	t.Helper()
	x := b.edge[slot]
	for level := range x.Level + 1 {
		b.parted(level, slot)
	}
	x.stands = false
	b.Fell(slot)
	b.holds(t)
}

// tree lets a tree edge go up, and looks at what is there then.
func (b *bench) tree(t *testing.T, slot int) {
	t.Helper()
	b.treeUp(slot)
	b.Tree(slot)
	b.holds(t)
}

// plain lets an edge that lies beside go up, and looks at what is there then.
func (b *bench) plain(t *testing.T, slot int) {
	t.Helper()
	b.plainUp(slot)
	b.Plain(slot)
	b.holds(t)
}

// trees lets the tree edges of a row go up, and looks at what is there then.
func (b *bench) trees(t *testing.T, level, v int) {
	t.Helper()
	b.treesUp(level, v)
	b.Trees(level, v)
	b.holds(t)
}

// seek seeks an edge that joins, looks at what is told, and tells it.
func (b *bench) seek(t *testing.T, level, v int) (int, bool) {
	t.Helper()
	want, found := b.sought(level, v)
	slot, ok := b.Seek(level, v)
	if slot != want || ok != found {
		t.Fatalf("Seek(%d, %d): %d, %t; want %d, %t", level, v, slot, ok, want, found)
	}
	b.holds(t)
	return slot, ok
}

// stand puts an edge and plants it.
func (b *bench) stand(t *testing.T, slot, u, v, level int) {
	t.Helper()
	b.put(slot, u, v, level)
	b.plant(t, slot)
}

// lay puts an edge and lets it lie beside.
func (b *bench) lay(t *testing.T, slot, u, v, level int) {
	t.Helper()
	b.put(slot, u, v, level)
	b.add(slot)
	b.holds(t)
}

// holds fails the test, if anything isn't as it should be.
func (b *bench) holds(t *testing.T) {
	t.Helper()
	for _, row := range b.rows {
		root := b.T.Root(row[0])
		if got := b.T.List(root); !slices.Equal(got, row) {
			t.Fatalf("the row of %d: %v; want %v", row[0], got, row)
		}
		b.marks(t, row, root)
	}
	for v := range b.l.Vertices {
		for level := range b.l.Levels() {
			if got, want := b.List(v, level), b.has[end{v, level}]; !slices.Equal(got, want) {
				t.Fatalf("List(%d, %d): %v; want %v", v, level, got, want)
			}
		}
	}
	for slot := range b.l.Slots {
		b.stood(t, slot)
	}
	b.stays(t)
}

// marks fails the test, if a mark of a row is wrong, or what its root tells of marks.
func (b *bench) marks(t *testing.T, row []int, root int) {
	t.Helper()
	for mark, marked := range []func(x int) bool{b.hasFilled, b.hasPlanted} {
		first := 0
		if i := slices.IndexFunc(row, marked); i >= 0 {
			first = row[i]
		}
		if got := b.T.First(root, mark); got != first {
			t.Fatalf("First(%d, %d): %d; want %d", root, mark, got, first)
		}
		for _, x := range row {
			if got := b.T.Marked(x, mark); got != marked(x) {
				what, _ := b.l.Node(x)
				t.Fatalf("Marked(%d, %d), of %v: %t", x, mark, what, got)
			}
		}
	}
}

// stood fails the test, if a slot's edge is another one, or is linked at levels where it shouldn't be, or isn't where it should.
func (b *bench) stood(t *testing.T, slot int) {
	t.Helper()
	x := had{}
	if e := b.edge[slot]; e != nil {
		x = *e
	}
	if got := b.E.Get(slot); got != x.Edge {
		t.Fatalf("Get(%d): %v; want %v", slot, got, x.Edge)
	}
	for level := range b.l.Levels() {
		if got := b.T.Linked(level, slot); got != (x.stands && level <= x.Level) {
			t.Fatalf("Linked(%d, %d), of %v: %t", level, slot, x, got)
		}
	}
}

// stays fails the test, if a cell that neither a list nor a tree has isn't as it should be.
func (b *bench) stays(t *testing.T) {
	t.Helper()
	free := map[int]bool{}
	for v := range b.l.Vertices {
		for level := range b.l.Levels() {
			free[b.l.Head(v, level)] = true
		}
	}
	for slot := range b.l.Slots {
		for side := range 2 {
			free[b.l.Next(slot, side)], free[b.l.Prev(slot, side)] = true, true
		}
	}
	for x := 1; x <= b.l.Nodes(); x++ {
		for _, field := range []int{lay.Parent, lay.Left, lay.Right, lay.Sum} {
			free[b.l.Field(x, field)] = true
		}
	}
	for i, v := range cells(b.a) {
		if v != b.want[i] && !free[i] {
			t.Fatalf("cell %d has %#x; want %#x", i, v, b.want[i])
		}
	}
}

// refuses fails the test, if a call of a slot changes memory; the pen is another one, so that whatever it writes is seen.
func (b *bench) refuses(t *testing.T, name string, call func(f Lift, slot int), slot int) {
	t.Helper()
	was := cells(b.a)
	f := b.Lift
	f.T.Pen = ptr.Pen{Thread: 2, Tag: 3}
	call(f, slot)
	if !slices.Equal(cells(b.a), was) {
		t.Fatalf("%s(%d) has changed memory", name, slot)
	}
}

// P13.2: the example of the chapter.
func TestExample(t *testing.T) {
	b := born(t, small, kinds()[4])
	b.stand(t, 3, 0, 1, 0)
	b.tree(t, 3)
	if !b.T.Linked(1, 3) {
		t.Errorf("Linked(1, 3): false")
	}
}

// P13.1: one edge between each two vertices, in either order, of each slot, at each level: planted, felled, and both again.
func TestOneEdge(t *testing.T) {
	for u := range small.Vertices {
		for v := range small.Vertices {
			for slot := range small.Slots {
				for level := range small.Levels() {
					if u == v {
						continue
					}
					b := born(t, small, kinds()[3])
					b.stand(t, slot, u, v, level)
					b.fell(t, slot)
					b.plant(t, slot)
					b.fell(t, slot)
					b.remove(slot)
					b.stand(t, slot, (u+1)%5, u, small.Levels()-1-level)
				}
			}
		}
	}
}

// Trees of vertices of the small lay: each edge's ends, of the slots from 0 on.
var shapes = [][][2]int{
	{{0, 1}, {1, 2}, {2, 3}, {3, 4}}, {{0, 1}, {0, 2}, {0, 3}, {0, 4}}, {{4, 0}, {3, 0}, {2, 0}, {1, 0}},
	{{1, 0}, {2, 1}, {2, 3}, {1, 4}}, {{3, 2}, {1, 0}, {0, 3}, {4, 3}},
}

// P13.1: whole trees, of edges at levels, are planted, and each edge is felled, and planted again at another level.
func TestShapes(t *testing.T) {
	for i, priority := range kinds() {
		for j, edges := range shapes {
			b := born(t, small, priority)
			for slot, e := range edges {
				b.stand(t, slot, e[0], e[1], (i+j+slot)%small.Levels())
			}
			for slot, e := range edges {
				b.fell(t, slot)
				b.remove(slot)
				b.stand(t, slot, e[1], e[0], (i+j+2*slot+1)%small.Levels())
			}
			for slot := range edges {
				b.fell(t, slot)
			}
		}
	}
}

// P13.1: Plant and Fell go from the level 0 on, one level after the other.
func TestLevelsInOrder(t *testing.T) {
	b := born(t, small, kinds()[4])
	b.stand(t, 0, 3, 4, 2)
	b.put(1, 1, 3, 2)
	for name, call := range map[string]func(f Lift){
		"Plant": func(f Lift) { f.Plant(1) },
		"Fell":  func(f Lift) { f.Fell(0) },
	} {
		x := mem.Over(b.a)
		call(over(small, x))
		var levels []int
		for _, a := range x.Row() {
			if n, ok := nodeOf(small, a.Cell); ok && a.Store {
				levels = append(levels, n.Level)
			}
		}
		if want := []int{0, 1, 2}; !slices.Equal(slices.Compact(levels), want) {
			t.Errorf("%s has stored in nodes of the levels %v; want %v", name, slices.Compact(levels), want)
		}
	}
}

// nodeOf tells of which node a cell is.
func nodeOf(l lay.Lay, c int) (lay.Thing, bool) {
	for x := 1; x <= l.Nodes(); x++ {
		if c >= l.Field(x, lay.Lock) && c <= l.Field(x, lay.Sum) {
			return l.Node(x)
		}
	}
	return lay.Thing{}, false
}

// P13.1: a felled edge's cells stay, and so do the marks of all other edges and of the vertices that have lists.
func TestFellKeeps(t *testing.T) {
	b := born(t, small, kinds()[3])
	b.stand(t, 0, 0, 1, 1)
	b.stand(t, 1, 1, 2, 2)
	b.stand(t, 2, 3, 2, 1)
	b.lay(t, 3, 0, 2, 1)
	b.lay(t, 4, 3, 1, 0)
	b.fell(t, 1)
	if got := b.E.Get(1); got != (edge.Edge{U: 1, V: 2, Level: 2, Tree: true}) {
		t.Errorf("Get(1), of a felled edge: %v", got)
	}
	b.fell(t, 0)
	b.fell(t, 2)
}

// P13.1: an edge of a slot whose cell was removed already is felled as well.
func TestFellOfEdgeGone(t *testing.T) {
	b := born(t, small, kinds()[4])
	b.stand(t, 5, 0, 1, 2)
	b.stand(t, 6, 1, 2, 1)
	b.E.Remove(0, 1)
	b.want[small.Edge(0, 1)] = 0
	for level := range small.Levels() {
		b.parted(level, 5)
	}
	delete(b.edge, 5)
	b.Fell(5)
	b.holds(t)
}

// P13.2: a tree edge of each shape goes up to the highest level, others having gone up ahead of it.
func TestTreeUp(t *testing.T) {
	for _, priority := range kinds() {
		for _, edges := range shapes {
			for first := range edges {
				b := born(t, small, priority)
				for slot, e := range edges {
					b.stand(t, slot, e[0], e[1], 0)
				}
				for i := range edges {
					for range small.Levels() - 1 {
						b.tree(t, (first+i)%len(edges))
					}
				}
			}
		}
	}
}

// P13.2: edges that lie beside go up to the highest level, and each is first in both its lists there.
func TestPlainUp(t *testing.T) {
	b := born(t, small, kinds()[4])
	for slot, e := range shapes[0] {
		b.stand(t, slot, e[0], e[1], slot%2)
	}
	b.lay(t, 4, 2, 0, 0)
	b.lay(t, 5, 0, 3, 0)
	b.lay(t, 6, 4, 0, 0)
	b.plain(t, 5)
	b.plain(t, 4)
	if got := b.List(0, 1); !slices.Equal(got, []int{4, 5}) {
		t.Errorf("List(0, 1): %v", got)
	}
	b.plain(t, 4)
	b.plain(t, 6)
	b.plain(t, 6)
	b.plain(t, 5)
	if got := b.List(0, 2); !slices.Equal(got, []int{5, 6, 4}) {
		t.Errorf("List(0, 2): %v", got)
	}
}

// P13.2, where nothing is promised: at the highest level no edge goes up, and nothing changes.
func TestHighest(t *testing.T) {
	for _, l := range lays {
		if l.Vertices < 4 || l.Slots < 4 {
			continue
		}
		b := born(t, l, kinds()[4])
		top := l.Levels() - 1
		b.stand(t, 0, 0, 1, top)
		b.lay(t, 1, 1, 2, top)
		b.lay(t, 3, 1, 3, top)
		b.refuses(t, "Tree", Lift.Tree, 0)
		b.refuses(t, "Plain", Lift.Plain, 1)
		b.leave(3)
		b.remove(3)
		b.refuses(t, "Trees", func(f Lift, _ int) { f.Trees(top, 0) }, 0)
		b.seek(t, top, 1)
		b.leave(1)
		b.plant(t, 1)
		b.lay(t, 2, 2, 0, top)
		b.refuses(t, "Seek", func(f Lift, _ int) {
			if slot, ok := f.Seek(top, 1); slot != 0 || ok {
				t.Errorf("Seek(%d, 1): %d, %t", top, slot, ok)
			}
		}, 0)
	}
}

// P13.1, P13.2, where nothing is promised: what a call isn't made for changes nothing: edges of the other kind, those that are
// neither, slots without one, and edges whose ends are in one row already.
func TestOfOthers(t *testing.T) {
	b := born(t, small, kinds()[4])
	b.stand(t, 0, 0, 1, 0)
	b.stand(t, 1, 1, 2, 1)
	b.lay(t, 2, 3, 4, 0)
	b.put(3, 0, 3, 0)
	b.stand(t, 4, 3, 1, 0)
	b.fell(t, 4)
	b.lay(t, 5, 2, 4, 0)
	b.leave(5)
	b.remove(5)
	b.put(6, 0, 2, 0)
	for _, slot := range []int{0, 1, 2, 5, 6} {
		b.refuses(t, "Plant", Lift.Plant, slot)
	}
	for _, slot := range []int{2, 3, 4, 5, 6} {
		b.refuses(t, "Fell", Lift.Fell, slot)
		b.refuses(t, "Tree", Lift.Tree, slot)
	}
	for _, slot := range []int{0, 1, 3, 4, 5, 6} {
		b.refuses(t, "Plain", Lift.Plain, slot)
	}
	b.plant(t, 3)
	b.refuses(t, "Plant", Lift.Plant, 4)
	b.fell(t, 3)
	b.plant(t, 4)
}

// P13.3: of a row the tree edges of its level alone go up, as they stand in it; those of other rows, and of other levels, stay.
func TestTrees(t *testing.T) {
	for _, priority := range kinds() {
		b := born(t, great, priority)
		for u := range 7 {
			b.stand(t, u, u+1, u, u%3%2)
		}
		b.stand(t, 10, 9, 8, 0)
		b.stand(t, 11, 9, 10, 1)
		b.lay(t, 20, 0, 7, 0)
		b.trees(t, 0, 5)
		for slot, want := range map[int]int{0: 1, 1: 1, 2: 1, 6: 1, 10: 0, 11: 1} {
			if got := b.E.Get(slot).Level; got != want {
				t.Errorf("the edge of the slot %d is at the level %d; want %d", slot, got, want)
			}
		}
		b.trees(t, 0, 0)
		b.trees(t, 0, 15)
		b.trees(t, 1, 8)
		b.trees(t, 1, 3)
		b.trees(t, 3, 3)
		b.trees(t, 2, 3)
	}
}

// P13.3: the first tree edge of a row goes up first, so that the next level's row is made in this order.
func TestTreesInOrder(t *testing.T) {
	for begin := range small.Vertices {
		b := born(t, small, kinds()[0])
		for slot, e := range shapes[3] {
			b.stand(t, slot, e[0], e[1], 0)
		}
		row := b.begun(small.Vertex(0, begin))
		b.rows = append(b.rows, row)
		b.T.Begin(0, begin)
		b.trees(t, 0, 4)
		if got := b.T.List(b.T.Root(small.Vertex(1, 0))); len(got) != 13 {
			t.Errorf("the row of the level 1: %v", got)
		}
	}
}

// P13.3: an edge that joins is told at once, and stays as it is.
func TestSeekAtOnce(t *testing.T) {
	b := born(t, small, kinds()[4])
	b.stand(t, 0, 0, 1, 0)
	b.stand(t, 1, 2, 3, 0)
	b.lay(t, 2, 1, 3, 0)
	b.lay(t, 3, 4, 0, 0)
	for v := range small.Vertices {
		for range 2 {
			if slot, ok := b.seek(t, 0, v); slot < 2 || slot > 3 || !ok {
				t.Errorf("Seek(0, %d): %d, %t", v, slot, ok)
			}
		}
	}
	if b.E.Get(2).Level != 0 || b.E.Get(3).Level != 0 {
		t.Errorf("an edge that joins went up")
	}
}

// P13.3: of a list with many the first one is told, and what doesn't join goes up ahead of it, and no other one.
func TestSeekInList(t *testing.T) {
	b := born(t, great, kinds()[4])
	b.stand(t, 0, 0, 1, 0)
	b.stand(t, 1, 1, 2, 0)
	b.lay(t, 2, 0, 3, 0)
	b.lay(t, 3, 0, 2, 0)
	b.lay(t, 4, 0, 4, 0)
	for _, want := range []int{4, 2} {
		if slot, ok := b.seek(t, 0, 0); slot != want || !ok {
			t.Errorf("Seek(0, 0): %d, %t; want %d", slot, ok, want)
		}
		b.leave(want)
		b.remove(want)
	}
	if got := b.E.Get(3).Level; got != 1 {
		t.Errorf("the slot 3 is at the level %d", got)
	}
}

// P13.3: rows are those of the level that is told: what joins rows there may be within one row below it.
func TestSeekAtLevel(t *testing.T) {
	b := born(t, great, kinds()[4])
	b.stand(t, 0, 0, 1, 2)
	b.stand(t, 1, 1, 2, 0)
	b.lay(t, 2, 0, 2, 2)
	b.lay(t, 3, 2, 3, 0)
	if slot, ok := b.seek(t, 2, 1); slot != 2 || !ok {
		t.Errorf("Seek(2, 1): %d, %t", slot, ok)
	}
	if slot, ok := b.seek(t, 1, 1); slot != 0 || ok {
		t.Errorf("Seek(1, 1): %d, %t", slot, ok)
	}
	if slot, ok := b.seek(t, 0, 1); slot != 3 || !ok {
		t.Errorf("Seek(0, 1): %d, %t", slot, ok)
	}
}

// P13.3: what doesn't join goes up until what does is found, or until nothing is left.
func TestSeekOver(t *testing.T) {
	for _, priority := range kinds() {
		for v := range 3 {
			b := born(t, great, priority)
			b.stand(t, 0, 0, 1, 0)
			b.stand(t, 1, 1, 2, 0)
			b.stand(t, 2, 3, 4, 0)
			b.lay(t, 3, 2, 4, 0)
			b.lay(t, 4, 0, 2, 0)
			b.lay(t, 5, 4, 5, 0)
			b.lay(t, 6, 1, 6, 1)
			if slot, ok := b.seek(t, 0, v); slot != 3 || !ok || b.E.Get(5).Level != 0 {
				t.Errorf("Seek(0, %d): %d, %t", v, slot, ok)
			}
			b.leave(3)
			b.remove(3)
			if slot, ok := b.seek(t, 0, v); slot != 0 || ok || b.E.Get(4).Level != 1 || b.E.Get(5).Level != 0 {
				t.Errorf("Seek(0, %d): %d, %t; the slot 4 is at the level %d", v, slot, ok, b.E.Get(4).Level)
			}
			if slot, ok := b.seek(t, 1, 1); slot != 6 || !ok {
				t.Errorf("Seek(1, 1): %d, %t", slot, ok)
			}
		}
	}
}

// P13.3: as many as a lay can have go up by one call: all slots lie beside in one row, or nearly all stand in it.
func TestAllSlots(t *testing.T) {
	b := born(t, lay.Lay{Vertices: 16, Slots: 48, Threads: 1}, kinds()[4])
	for u := range 15 {
		b.T.Link(0, 47-u, u, u+1)
	}
	slot := 0
	for u := range 16 {
		for v := u + 2; v < 16 && slot < 48; v++ {
			b.E.Put(slot, u, v, 0, false)
			b.Add(slot)
			slot++
		}
	}
	if got, ok := b.Seek(0, 3); got != 0 || ok {
		t.Errorf("Seek(0, 3): %d, %t", got, ok)
	}
	for slot := range 48 {
		if got := b.E.Get(slot).Level; got != 1 {
			t.Errorf("the edge of the slot %d is at the level %d", slot, got)
		}
	}
	b = born(t, lay.Lay{Vertices: 16, Slots: 15, Threads: 1}, kinds()[3])
	for slot := range 15 {
		b.stand(t, slot, slot+1, slot/2, 0)
	}
	for level := range 4 {
		b.trees(t, level, 9)
		if b.Smaller(level+1, 0, 15) != 0 || b.T.Count(level+1, 9) != 16 {
			t.Errorf("the level %d has not all vertices in one row", level+1)
		}
	}
}

// P13.3: of two vertices the one whose row has fewer vertices is told, at each level; of rows with as many the first one.
func TestSmaller(t *testing.T) {
	for _, priority := range kinds() {
		b := born(t, great, priority)
		b.stand(t, 0, 0, 1, 4)
		b.stand(t, 1, 1, 2, 2)
		b.stand(t, 2, 3, 4, 3)
		b.stand(t, 3, 5, 4, 0)
		b.stand(t, 4, 6, 5, 0)
		for level := range great.Levels() {
			for u := range great.Vertices {
				for v := range great.Vertices {
					want := u
					if b.count(level, v) < b.count(level, u) {
						want = v
					}
					if got := b.Smaller(level, u, v); got != want {
						t.Errorf("Smaller(%d, %d, %d): %d", level, u, v, got)
					}
				}
			}
		}
		b.holds(t)
	}
}

// some tells a slot whose edge is one of those that are told by is, if there is any.
func (b *bench) some(d *dice, is func(x *had) bool) (int, bool) {
	var slots []int
	for slot := range b.l.Slots {
		if x := b.edge[slot]; is(x) {
			slots = append(slots, slot)
		}
	}
	if len(slots) == 0 {
		return 0, false
	}
	return slots[d.upTo(len(slots))], true
}

// comes puts an edge, that is planted if nothing joins its ends yet, and else lies beside; now and then it lies beside though
// nothing does.
func (b *bench) comes(t *testing.T, d *dice) {
	t.Helper()
	u, v, level := d.upTo(b.l.Vertices), d.upTo(b.l.Vertices), d.upTo(b.l.Levels())
	slot, ok := b.some(d, func(x *had) bool { return x == nil })
	if _, _, found := b.E.Find(u, v); !ok || u == v || found {
		return
	}
	if b.together(0, u, v) || d.upTo(5) == 0 {
		b.lay(t, slot, u, v, level)
		return
	}
	b.stand(t, slot, u, v, level)
}

// goes lets an edge be no more, or, if it lies beside and its ends aren't joined, stand.
func (b *bench) goes(t *testing.T, d *dice) {
	t.Helper()
	slot, ok := b.some(d, func(x *had) bool { return x != nil })
	if !ok {
		return
	}
	switch x := b.edge[slot]; {
	case x.stands:
		b.fell(t, slot)
		b.remove(slot)
	case !b.together(0, x.U, x.V):
		b.leave(slot)
		b.plant(t, slot)
	default:
		b.leave(slot)
		b.remove(slot)
	}
	b.holds(t)
}

// rises lets an edge go up, or all of a row that may.
func (b *bench) rises(t *testing.T, d *dice) {
	t.Helper()
	top := b.l.Levels() - 1
	if top == 0 {
		return
	}
	level, v := d.upTo(top), d.upTo(b.l.Vertices)
	switch d.upTo(6) {
	case 0:
		b.trees(t, level, v)
	case 1:
		b.seek(t, level, v)
	case 2, 3:
		if slot, ok := b.some(d, func(x *had) bool { return x != nil && x.stands && x.Level < top }); ok {
			b.tree(t, slot)
		}
	default:
		if slot, ok := b.some(d, func(x *had) bool { return x != nil && x.lies && x.Level < top }); ok {
			b.plain(t, slot)
		}
	}
}

// P13.1, P13.2, P13.3: whatever comes, goes and rises.
func TestDays(t *testing.T) {
	for i, l := range lays {
		for j, priority := range kinds() {
			d := dice(10*i + j)
			b := born(t, l, priority)
			deeds := 250
			if l == great {
				deeds = 80
			}
			for range deeds {
				switch d.upTo(7) {
				case 0, 1, 2:
					b.comes(t, &d)
				case 3, 4:
					b.goes(t, &d)
				default:
					b.rises(t, &d)
				}
			}
		}
	}
}

// P13.1, P13.2, P13.3: in a trace, all is done likewise, and its arena stays.
func TestTrace(t *testing.T) {
	b := born(t, small, kinds()[4])
	b.stand(t, 0, 0, 1, 0)
	b.stand(t, 1, 1, 2, 0)
	b.put(2, 2, 3, 1)
	b.lay(t, 3, 0, 2, 0)
	b.lay(t, 4, 3, 0, 0)
	x := mem.Over(b.a)
	f := over(small, x)
	f.Plant(2)
	f.Fell(0)
	f.Tree(1)
	f.Trees(0, 3)
	slot, ok := f.Seek(0, 2)
	if slot != 3 && slot != 4 || !ok || f.E.Get(1).Level != 1 || f.Smaller(0, 3, 0) != 0 || f.T.Same(0, 0, 1) {
		t.Errorf("in a trace: %d, %t", slot, ok)
	}
	b.holds(t)
	if n, ok := mem.Replay(mem.Of(b.a), x.Row()); !ok || !b.T.Same(0, 1, 3) || b.T.Same(0, 0, 1) {
		t.Errorf("replayed: %d, %t", n, ok)
	}
}

// P13.1, P13.2, P13.3: what is kept is kept in memory alone: whoever has the same memory tells the same.
func TestSameMemory(t *testing.T) {
	b := born(t, small, kinds()[3])
	other := over(small, mem.Of(b.a))
	b.stand(t, 0, 2, 4, 0)
	b.lay(t, 1, 2, 3, 0)
	if slot, ok := other.Seek(0, 4); slot != 1 || !ok || other.Smaller(0, 4, 3) != 3 {
		t.Errorf("Seek(0, 4), of another one: %d, %t", slot, ok)
	}
	other.Tree(0)
	b.treeUp(0)
	b.holds(t)
}

// wrong fails the test, if a call of a level, a slot or vertices of which one isn't there tells anything.
func wrong(t *testing.T, f Lift, level, slot, v int) {
	t.Helper()
	if f.T.L.Vertex(level, v) == 0 {
		f.Trees(level, v)
		if got, ok := f.Seek(level, v); got != 0 || ok {
			t.Errorf("Seek(%d, %d): %d, %t", level, v, got, ok)
		}
	}
	if got := f.Smaller(level, v, slot); got != v && got != slot {
		t.Errorf("Smaller(%d, %d, %d): %d", level, v, slot, got)
	}
	if f.E.L.Ends(slot) < 0 {
		f.Plant(slot)
		f.Fell(slot)
		f.Tree(slot)
		f.Plain(slot)
	}
}

// P1: of vertices, levels and slots that aren't there nothing is told, and nothing is changed.
func TestNotThere(t *testing.T) {
	b := born(t, small, kinds()[4])
	b.stand(t, 0, 0, 1, 0)
	b.stand(t, 6, 1, 4, 1)
	b.lay(t, 1, 0, 4, 0)
	b.lay(t, 5, 4, 3, 0)
	was := cells(b.a)
	for _, n := range append([]int{5, 7, 16}, nowhere...) {
		wrong(t, b.Lift, n, n, 0)
		wrong(t, b.Lift, 0, n, n)
		wrong(t, b.Lift, 1, n, n)
		wrong(t, b.Lift, n, n, n)
	}
	wrong(t, b.Lift, 3, 7, 4)
	if !slices.Equal(cells(b.a), was) {
		t.Errorf("memory is changed")
	}
	b.holds(t)
}

// P1: in a memory that has just the lay's cells no other cell is asked, whatever is told to the calls.
func TestNoOtherCells(t *testing.T) {
	for _, l := range lays {
		f := over(l, make(strict, l.Cells()))
		for x := 1; x <= l.Nodes(); x++ {
			f.T.Alone(x)
		}
		numbers := append([]int{0, 1, 2, l.Vertices - 1, l.Vertices, l.Slots - 1, l.Slots, l.Levels()}, nowhere...)
		for _, x := range numbers {
			for _, y := range numbers {
				wrong(t, f, x, y, x)
				f.Trees(x, y)
				f.Seek(x, y)
				f.Smaller(x, y, x)
			}
			f.E.Put(x, 0, 1, 0, false)
			f.Plant(x)
			f.Tree(x)
			f.Plain(x)
			f.Fell(x)
		}
	}
}

// P1: of a lay that isn't right nothing is there, and no cell is asked.
func TestWrongLays(t *testing.T) {
	for _, l := range wrongLays {
		for n := -1; n < 5; n++ {
			wrong(t, over(l, strict{}), n, n, n)
			wrong(t, over(l, strict{}), 0, n, n)
			wrong(t, over(l, strict{}), n, 0, n)
			wrong(t, over(l, strict{}), n, n, 0)
		}
	}
}

// P1: in memory that isn't right all calls end, and none panics; slots that aren't there are not told.
func TestWrongMemory(t *testing.T) {
	d := dice(23)
	numbers := []uint64{
		0, 1, 2, 3, 12, 13, 14, 97, 257, 258, 516, 1026, 65536, 1 << 32, 1<<62 - 1, 1 << 63, 1<<63 | 3, math.MaxUint64 - 1,
		math.MaxUint64, math.MaxInt64, math.MaxInt64 - 1, 1<<32 | 1<<34, 1<<33 | 1<<35, 15<<32 | 5,
	}
	for i := range 300 {
		m := make(strict, small.Cells())
		for c := range m {
			m[c] = numbers[d.upTo(len(numbers))]
			if i%2 == 0 && d.upTo(4) > 0 {
				m[c] = uint64(d.upTo(small.Nodes() + 1))
			}
		}
		f := over(small, m)
		for slot := range small.Slots {
			if d.upTo(2) == 0 {
				f.E.Put(slot, d.upTo(5), d.upTo(5), d.upTo(3), d.upTo(2) == 0)
			}
			if d.upTo(3) == 0 {
				m[small.Level(slot)] = numbers[d.upTo(len(numbers))]
			}
		}
		for range 10 {
			slot, level, v := d.upTo(8), d.upTo(4), d.upTo(6)
			for _, call := range []func(slot int){f.Plant, f.Tree, f.Plain, f.Fell}[d.upTo(4):] {
				call(slot)
			}
			f.Trees(level, v)
			got, ok := f.Seek(level, v)
			if got < 0 || got >= small.Slots || !ok && got != 0 {
				t.Fatalf("Seek(%d, %d): %d, %t", level, v, got, ok)
			}
			f.Smaller(level, v, d.upTo(6))
		}
	}
}
