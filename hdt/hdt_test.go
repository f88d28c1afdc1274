package hdt

import (
	"maps"
	"math"
	"slices"
	"testing"

	"tombolo/api"
	"tombolo/cell"
	"tombolo/edge"
	"tombolo/lay"
	"tombolo/mem"
	"tombolo/ptr"
)

// The pen of all tests but for that of pens.
var pen = ptr.Pen{Thread: 1, Tag: 7}

// A lay of few vertices, of 3 levels, which can have all edges between them.
var small = lay.Lay{Vertices: 4, Slots: 6, Threads: 2}

// A lay of some vertices, of 4 levels.
var middle = lay.Lay{Vertices: 8, Slots: 14, Threads: 2}

// The greatest lay.
var great = lay.Lay{Vertices: api.MaxVertices, Slots: api.MaxSlots, Threads: api.MaxThreads}

// Lays at the edges of what may be: without slots, or without two vertices, there are no edges.
var lays = []lay.Lay{
	small, middle, great, {Vertices: 2, Slots: 1, Threads: 1}, {Vertices: 3, Slots: 48, Threads: 1},
	{Vertices: 16, Slots: 1, Threads: 8}, {Vertices: 5, Slots: 7, Threads: 3}, {Vertices: 7, Slots: 21, Threads: 2},
	{Vertices: 8, Slots: 0, Threads: 2}, {Vertices: 1, Slots: 48, Threads: 2}, {Vertices: 1, Slots: 0, Threads: 1},
}

// Lays that may not be.
var wrongLays = []lay.Lay{
	{}, {Vertices: 5, Slots: 4}, {Vertices: 5, Slots: 4, Threads: 9}, {Vertices: 17, Slots: 4, Threads: 2},
	{Slots: 4, Threads: 2}, {Vertices: 5, Slots: -1, Threads: 2}, {Vertices: 5, Slots: 49, Threads: 2},
	{Vertices: math.MaxInt, Slots: math.MaxInt, Threads: math.MaxInt}, {Vertices: math.MinInt, Slots: 4, Threads: 2},
}

// Numbers of vertices and slots that no lay has.
var nowhere = []int{
	math.MinInt, math.MinInt + 1, -1 << 32, -256, -2, -1, 48, 49, 255, 256, 65536, 1 << 32, 1 << 62, 1<<62 - 1, math.MaxInt,
}

// Edges of the middle lay, by their slots: the triangle of 0, 1, 2, whose slot 2 lies beside, and the path of 3 to 6, which the
// slot 3 joins.
var shape = [][2]int{{0, 1}, {1, 2}, {0, 2}, {2, 3}, {3, 4}, {4, 5}, {5, 6}}

// dice tell numbers that look like any.
type dice uint64

// upTo tells a number from 0 on and below n.
func (d *dice) upTo(n int) int {
	*d = *d*6364136223846793005 + 1442695040888963407
	return int(uint64(*d) >> 33 % uint64(n))
}

// strict is a memory that panics where there is no cell.
type strict []uint64

func (m strict) Load(i int) uint64     { return m[i] }
func (m strict) Store(i int, v uint64) { m[i] = v }

// kinds tells kinds of priorities: all the same, rising, falling, few, many.
func kinds() []func(x int) uint64 {
	d := dice(5)
	return []func(x int) uint64{
		func(int) uint64 { return 0 },
		func(x int) uint64 { return uint64(x) },
		func(x int) uint64 { return math.MaxUint64 - uint64(x) },
		func(x int) uint64 { return uint64(x * 7 % 5) },
		func(int) uint64 { return uint64(d.upTo(1 << 30)) },
	}
}

// end is a vertex at a level, which has a list.
type end struct{ vertex, level int }

// deleted is what a Delete tells.
type deleted struct {
	tree bool
	by   int
	ok   bool
}

// bench is a memory, and what it should have: the rows of all nodes, the lists, the edges by their slots, and the number of
// each cell that no list and no tree has.
type bench struct {
	Graph
	l    lay.Lay
	a    *cell.Arena
	rows [][]int
	has  map[end][]int
	edge map[int]edge.Edge
	want []uint64
}

// born makes memory of a lay whose nodes are alone, without edges; each cell that means nothing then has a number of its own.
func born(t *testing.T, l lay.Lay, priority func(x int) uint64) *bench {
	t.Helper()
	a, e := cell.New(l.Cells())
	if e != api.OK {
		t.Fatalf("New(%d): %d", l.Cells(), e)
	}
	for i := range a.Len() {
		a.Store(i, uint64(i)<<33|9)
	}
	for v := range l.Vertices {
		for u := range v {
			a.Store(l.Edge(u, v), 0)
		}
		for level := range l.Levels() {
			a.Store(l.Head(v, level), 0)
		}
	}
	b := &bench{Graph: Of(l, mem.Of(a), pen), l: l, a: a, has: map[end][]int{}, edge: map[int]edge.Edge{}}
	for x := 1; x <= l.Nodes(); x++ {
		a.Store(l.Field(x, lay.Parent), 0)
		a.Store(l.Field(x, lay.Priority), priority(x))
		b.T.Alone(x)
		b.rows = append(b.rows, []int{x})
	}
	b.want = cells(a)
	return b
}

// twin tells another bench that is the same, and shares nothing with it.
func (b *bench) twin() *bench {
	a := b.a.Copy()
	c := &bench{Graph: Of(b.l, mem.Of(a), pen), l: b.l, a: a, has: map[end][]int{}, edge: maps.Clone(b.edge)}
	for _, row := range b.rows {
		c.rows = append(c.rows, slices.Clone(row))
	}
	for l, slots := range b.has {
		c.has[l] = slices.Clone(slots)
	}
	c.want = slices.Clone(b.want)
	return c
}

// cells tells what an arena has; it looks at a copy, so that the counts stay.
func cells(a *cell.Arena) []uint64 {
	b := a.Copy()
	all := make([]uint64, b.Len())
	for i := range all {
		all[i], _ = b.Load(i)
	}
	return all
}

// find tells which row has a node, and where.
func (b *bench) find(x int) (row, at int) {
	for i, r := range b.rows {
		if at := slices.Index(r, x); at >= 0 {
			return i, at
		}
	}
	panic("a node is in no row")
}

// rowOf tells the row of a vertex at a level.
func (b *bench) rowOf(level, v int) []int {
	i, _ := b.find(b.l.Vertex(level, v))
	return b.rows[i]
}

// count tells how many vertices a vertex's row should have.
func (b *bench) count(level, u int) int {
	n := 0
	for _, x := range b.rowOf(level, u) {
		if what, _ := b.l.Node(x); !what.Arc {
			n++
		}
	}
	return n
}

// begun lets the row that has x begin at x, and takes it away from the others.
func (b *bench) begun(x int) []int {
	i, at := b.find(x)
	row := slices.Concat(b.rows[i][at:], b.rows[i][:at])
	b.rows = slices.Delete(b.rows, i, i+1)
	return row
}

// linked lets the rows of a slot's ends be one at a level, as the document links them, the lesser one first.
func (b *bench) linked(level, slot int) {
	x := b.edge[slot]
	b.rows = append(b.rows, slices.Concat(b.begun(b.l.Vertex(level, x.U)), b.begun(b.l.Arc(slot, level, 0)),
		b.begun(b.l.Vertex(level, x.V)), b.begun(b.l.Arc(slot, level, 1))))
}

// parted lets the row of a slot be two at a level, as the document cuts it.
func (b *bench) parted(level, slot int) {
	arcs := []int{b.l.Arc(slot, level, 0), b.l.Arc(slot, level, 1)}
	k, i := b.find(arcs[0])
	_, j := b.find(arcs[1])
	i, j = min(i, j), max(i, j)
	row := b.rows[k]
	within, around := slices.Clone(row[i+1:j]), slices.Concat(row[:i], row[j+1:])
	b.rows = slices.Delete(b.rows, k, k+1)
	b.rows = append(b.rows, within, around, arcs[:1], arcs[1:])
}

// listed lets a slot be first in both lists of its level, or in none.
func (b *bench) listed(slot int, on bool) {
	x := b.edge[slot]
	for _, v := range []int{x.U, x.V} {
		l := end{v, x.Level}
		if on {
			b.has[l] = slices.Insert(b.has[l], 0, slot)
			continue
		}
		i := slices.Index(b.has[l], slot)
		b.has[l] = slices.Delete(b.has[l], i, i+1)
	}
}

// set lets a slot have an edge, and the cells that tell so have it too.
func (b *bench) set(slot int, x edge.Edge) {
	b.edge[slot] = x
	b.want[b.l.Ends(slot)] = uint64(x.U*256 + x.V)
	b.want[b.l.Level(slot)] = uint64(x.Level)
	b.want[b.l.Edge(x.U, x.V)] = uint64((slot + 1) * 2)
	if x.Tree {
		b.want[b.l.Edge(x.U, x.V)]++
	}
}

// gone lets a slot have no edge; its own cells stay.
func (b *bench) gone(slot int) {
	x := b.edge[slot]
	delete(b.edge, slot)
	b.want[b.l.Edge(x.U, x.V)] = 0
}

// planted lets a slot's edge be a tree edge at its level, in the document's words.
func (b *bench) planted(slot int) {
	x := b.edge[slot]
	x.Tree = true
	b.set(slot, x)
	for level := range x.Level + 1 {
		b.linked(level, slot)
	}
}

// up lets a slot's edge be at the next level.
func (b *bench) up(slot int) {
	x := b.edge[slot]
	x.Level++
	b.set(slot, x)
}

// treesUp lets all tree edges of a row be at the next level, in the document's words.
func (b *bench) treesUp(level, v int) {
	for {
		i := slices.IndexFunc(b.rowOf(level, v), b.hasPlanted)
		if i < 0 {
			return
		}
		what, _ := b.l.Node(b.rowOf(level, v)[i])
		b.up(what.Slot)
		b.linked(level+1, what.Slot)
	}
}

// sought tells the edge that joins a row with another one, if there is one, and lets what comes ahead of it be at the next
// level, in the document's words.
func (b *bench) sought(level, v int) (int, bool) {
	for {
		row := b.rowOf(level, v)
		i := slices.IndexFunc(row, b.hasFilled)
		if i < 0 {
			return 0, false
		}
		what, _ := b.l.Node(row[i])
		slot := b.has[end{what.Vertex, level}][0]
		x := b.edge[slot]
		if !slices.Contains(row, b.l.Vertex(level, x.U)) || !slices.Contains(row, b.l.Vertex(level, x.V)) {
			return slot, true
		}
		b.listed(slot, false)
		b.up(slot)
		b.listed(slot, true)
	}
}

// hasFilled tells whether a node should have the mark 0.
func (b *bench) hasFilled(x int) bool {
	what, _ := b.l.Node(x)
	return !what.Arc && len(b.has[end{what.Vertex, what.Level}]) > 0
}

// hasPlanted tells whether a node should have the mark 1.
func (b *bench) hasPlanted(x int) bool {
	what, _ := b.l.Node(x)
	e := b.edge[what.Slot]
	return what.Arc && what.Side == 0 && e.Tree && e.Level == what.Level
}

// comes lets an edge be inserted, in the document's words, and tells whether it is a tree edge.
func (b *bench) comes(slot, u, v int) bool {
	b.set(slot, edge.Edge{U: min(u, v), V: max(u, v)})
	if slices.Contains(b.rowOf(0, u), b.l.Vertex(0, v)) {
		b.listed(slot, true)
		return false
	}
	b.planted(slot)
	return true
}

// goes lets a slot's edge be deleted, in the document's words, and tells what Delete should tell.
func (b *bench) goes(slot int) deleted {
	x := b.edge[slot]
	if !x.Tree {
		b.listed(slot, false)
		b.gone(slot)
		return deleted{}
	}
	for level := range x.Level + 1 {
		b.parted(level, slot)
	}
	b.gone(slot)
	for level := x.Level; level >= 0; level-- {
		v := x.U
		if b.count(level, x.V) < b.count(level, x.U) {
			v = x.V
		}
		b.treesUp(level, v)
		if by, ok := b.sought(level, v); ok {
			b.listed(by, false)
			b.planted(by)
			return deleted{true, by, true}
		}
	}
	return deleted{tree: true}
}

// insert inserts an edge, and looks at what is told and at what is there then.
func (b *bench) insert(t *testing.T, slot, u, v int) bool {
	t.Helper()
	want := b.comes(slot, u, v)
	if got := b.Insert(slot, u, v); got != want {
		t.Fatalf("Insert(%d, %d, %d): %t", slot, u, v, got)
	}
	b.holds(t)
	return want
}

// delete deletes a slot's edge, and looks at what is told and at what is there then; it tells what was told.
func (b *bench) delete(t *testing.T, slot int) deleted {
	t.Helper()
	before := maps.Clone(b.edge)
	want := b.goes(slot)
	tree, by, ok := b.Delete(slot)
	if got := (deleted{tree, by, ok}); got != want {
		t.Fatalf("Delete(%d): %v; want %v", slot, got, want)
	}
	b.holds(t)
	for s, x := range before {
		if got := b.E.Get(s).Level; s != slot && got < x.Level {
			t.Fatalf("Delete(%d): the slot %d is at the level %d; it was at %d", slot, s, got, x.Level)
		}
	}
	return want
}

// at fails the test, if slots aren't at the levels that are told, from the slot 0 on; -1 is of a slot without an edge.
func (b *bench) at(t *testing.T, levels ...int) {
	t.Helper()
	for slot, want := range levels {
		got := b.E.Get(slot)
		if there := got != (edge.Edge{}); there != (want >= 0) || there && got.Level != want {
			t.Errorf("the slot %d has %v; want the level %d", slot, got, want)
		}
	}
}

// holds fails the test, if anything isn't as it should be.
func (b *bench) holds(t *testing.T) {
	t.Helper()
	for _, row := range b.rows {
		root := b.T.Root(row[0])
		if got := b.T.List(root); !slices.Equal(got, row) {
			t.Fatalf("the row of %d: %v; want %v", row[0], got, row)
		}
		for _, x := range row {
			if b.T.Marked(x, 0) != b.hasFilled(x) || b.T.Marked(x, 1) != b.hasPlanted(x) {
				t.Fatalf("the node %d has the marks %t, %t", x, b.T.Marked(x, 0), b.T.Marked(x, 1))
			}
		}
	}
	for v := range b.l.Vertices {
		for level := range b.l.Levels() {
			if got, want := b.List(v, level), b.has[end{v, level}]; !slices.Equal(got, want) {
				t.Fatalf("List(%d, %d): %v; want %v", v, level, got, want)
			}
		}
	}
	for slot := range b.l.Slots {
		if got := b.E.Get(slot); got != b.edge[slot] {
			t.Fatalf("Get(%d): %v; want %v", slot, got, b.edge[slot])
		}
	}
	b.stays(t)
	b.joins(t)
}

// stays fails the test, if a cell that neither a list nor a tree has isn't as it should be.
func (b *bench) stays(t *testing.T) {
	t.Helper()
	free := map[int]bool{}
	for v := range b.l.Vertices {
		for level := range b.l.Levels() {
			free[b.l.Head(v, level)] = true
		}
	}
	for slot := range b.l.Slots {
		for side := range 2 {
			free[b.l.Next(slot, side)], free[b.l.Prev(slot, side)] = true, true
		}
	}
	for x := 1; x <= b.l.Nodes(); x++ {
		for _, field := range []int{lay.Parent, lay.Left, lay.Right, lay.Sum} {
			free[b.l.Field(x, field)] = true
		}
	}
	for i, v := range cells(b.a) {
		if v != b.want[i] && !free[i] {
			t.Fatalf("cell %d has %#x; want %#x", i, v, b.want[i])
		}
	}
}

// joins fails the test, if the memory's own edges don't join what they should: at each level those of the level and above, of
// which the tree edges are a forest that joins the same, and no more than there may be in one row.
func (b *bench) joins(t *testing.T) {
	t.Helper()
	for level := range b.l.Levels() {
		all, forest := b.parts(level, false), b.parts(level, true)
		trees := 0
		for _, slot := range b.E.All() {
			x := b.E.Get(slot)
			stands := x.Tree && x.Level >= level
			if stands {
				trees++
			}
			if got := b.T.Linked(level, slot); got != stands {
				t.Fatalf("Linked(%d, %d), of %v: %t", level, slot, x, got)
			}
		}
		if n := len(slices.Compact(slices.Sorted(slices.Values(forest)))); n+trees != b.l.Vertices {
			t.Fatalf("level %d: %d tree edges, %d parts of %d vertices", level, trees, n, b.l.Vertices)
		}
		for u := range all {
			for v := range all {
				if got := b.T.Same(level, u, v); got != (all[u] == all[v]) || got != (forest[u] == forest[v]) {
					t.Fatalf("Same(%d, %d, %d): %t", level, u, v, got)
				}
				if level == 0 && b.Joined(u, v) != (all[u] == all[v]) {
					t.Fatalf("Joined(%d, %d): %t", u, v, b.Joined(u, v))
				}
			}
			if n := b.T.Count(level, u); n<<level > b.l.Vertices {
				t.Fatalf("a row of the level %d has %d vertices", level, n)
			}
		}
	}
}

// parts tells of each vertex the least one that edges of a level and above join it with.
func (b *bench) parts(level int, treesAlone bool) []int {
	part := make([]int, b.l.Vertices)
	for v := range part {
		part[v] = v
	}
	for _, slot := range b.E.All() {
		x := b.E.Get(slot)
		if x.Level < level || treesAlone && !x.Tree {
			continue
		}
		from, to := max(part[x.U], part[x.V]), min(part[x.U], part[x.V])
		for v := range part {
			if part[v] == from {
				part[v] = to
			}
		}
	}
	return part
}

// shaped tells a bench of the middle lay whose edges are those of the shape.
func shaped(t *testing.T, priority func(x int) uint64) *bench {
	t.Helper()
	b := born(t, middle, priority)
	for slot, e := range shape {
		if got := b.insert(t, slot, e[0], e[1]); got != (slot != 2) {
			t.Fatalf("Insert(%d, ..): %t", slot, got)
		}
	}
	return b
}

// P14.1: the document's example.
func TestExample(t *testing.T) {
	b := born(t, small, kinds()[0])
	for slot, e := range [][2]int{{0, 1}, {1, 2}, {2, 0}} {
		if got := b.insert(t, slot, e[0], e[1]); got != (slot < 2) {
			t.Errorf("Insert(%d, %d, %d): %t", slot, e[0], e[1], got)
		}
	}
	if got := b.delete(t, 0); got != (deleted{true, 2, true}) || !b.Joined(0, 1) {
		t.Errorf("Delete(0): %v, %t", got, b.Joined(0, 1))
	}
}

// P14.1, P14.3: memory without edges is as the promises say already.
func TestEmpty(t *testing.T) {
	for _, l := range lays {
		b := born(t, l, kinds()[3])
		b.holds(t)
		for v := range l.Vertices {
			if !b.Joined(v, v) || b.Joined(v, 0) != (v == 0) {
				t.Errorf("%v: Joined(%d, ..)", l, v)
			}
		}
	}
}

// P14.1: an edge alone, of all slots and vertices, in either order, comes and goes, twice.
func TestOneEdge(t *testing.T) {
	for _, l := range lays {
		for i, priority := range kinds() {
			b := born(t, l, priority)
			for slot := range l.Slots {
				if l.Vertices < 2 || l == great && slot%16 != i {
					continue
				}
				u, v := slot%l.Vertices, (slot+1+i)%l.Vertices
				for range 2 {
					if u != v && (!b.insert(t, slot, u, v) || b.delete(t, slot) != deleted{tree: true} || b.Joined(u, v)) {
						t.Errorf("%v: an edge of the slot %d between %d and %d", l, slot, u, v)
					}
					u, v = v, u
				}
			}
		}
	}
}

// P14.1: an edge that lies beside goes, and neither rows nor levels change.
func TestDeleteBeside(t *testing.T) {
	b := shaped(t, kinds()[4])
	if got := b.delete(t, 2); got != (deleted{}) || !b.Joined(0, 2) {
		t.Errorf("Delete(2): %v", got)
	}
	b.at(t, 0, 0, -1, 0, 0, 0, 0)
	if b.insert(t, 9, 2, 0) || b.insert(t, 2, 6, 0) {
		t.Errorf("what lies beside is told as a tree edge")
	}
	if got := b.delete(t, 9); got != (deleted{}) {
		t.Errorf("Delete(9): %v", got)
	}
	b.at(t, 0, 0, 0, 0, 0, 0, 0)
}

// P14.1: the slot 0 can take another one's place, and an edge without another one in its place is told otherwise.
func TestBySlot0(t *testing.T) {
	b := born(t, small, kinds()[4])
	b.insert(t, 5, 0, 1)
	b.insert(t, 3, 1, 2)
	b.insert(t, 0, 0, 2)
	if got := b.delete(t, 5); got != (deleted{true, 0, true}) {
		t.Errorf("Delete(5): %v", got)
	}
	if got := b.delete(t, 0); got != (deleted{tree: true}) {
		t.Errorf("Delete(0): %v", got)
	}
}

// P14.1: of the smaller row the tree edges go up, and what lies beside within it; those of the other row stay.
func TestSmallerRow(t *testing.T) {
	for _, priority := range kinds() {
		b := shaped(t, priority)
		b.insert(t, 7, 3, 5)
		if got := b.delete(t, 3); got != (deleted{tree: true}) || b.Joined(2, 3) {
			t.Errorf("Delete(3): %v", got)
		}
		b.at(t, 1, 1, 1, -1, 0, 0, 0, 0)
		if got := b.delete(t, 0); got != (deleted{true, 2, true}) || !b.Joined(0, 1) {
			t.Errorf("Delete(0): %v", got)
		}
		b.at(t, -1, 1, 1, -1, 0, 0, 0, 0)
		if !b.T.Linked(0, 2) || !b.T.Linked(1, 2) || b.T.Linked(2, 2) {
			t.Errorf("the slot 2 isn't linked at the levels 0 and 1 alone")
		}
	}
}

// P14.1: the greater vertex's row is taken, if it is the smaller one.
func TestGreaterVertex(t *testing.T) {
	b := shaped(t, kinds()[4])
	if got := b.delete(t, 4); got != (deleted{tree: true}) {
		t.Errorf("Delete(4): %v", got)
	}
	b.at(t, 0, 0, 0, 0, -1, 1, 1)
}

// P14.1: of two rows with as many vertices that of the lesser vertex is taken, in whichever order both were told.
func TestAsMany(t *testing.T) {
	for i, ends := range [][2]int{{1, 2}, {2, 1}} {
		b := born(t, small, kinds()[i])
		b.insert(t, 0, 1, 0)
		b.insert(t, 1, ends[0], ends[1])
		b.insert(t, 2, 2, 3)
		b.insert(t, 3, 3, 0)
		if got := b.delete(t, 1); got != (deleted{true, 3, true}) {
			t.Errorf("Delete(1): %v", got)
		}
		b.at(t, 1, -1, 0, 0)
		if got := b.delete(t, 0); got != (deleted{tree: true}) {
			t.Errorf("Delete(0): %v", got)
		}
		b.at(t, -1, -1, 0, 0)
	}
}

// P14.1: whoever joins no others at the higher level is sought at the lower one, whose rows are other ones, and stays there.
func TestLowerLevel(t *testing.T) {
	b := shaped(t, kinds()[4])
	b.delete(t, 3)
	b.insert(t, 3, 3, 2)
	b.delete(t, 2)
	b.insert(t, 2, 0, 6)
	b.at(t, 1, 1, 0, 0, 0, 0, 0)
	if got := b.delete(t, 0); got != (deleted{true, 2, true}) || !b.Joined(0, 1) {
		t.Errorf("Delete(0): %v", got)
	}
	if b.T.Linked(1, 2) || b.T.Same(1, 0, 1) || !b.T.Same(1, 1, 2) {
		t.Errorf("what joins at the level 0 is linked at the level 1")
	}
}

// P14.1: of what could take the place the first slot of the first list is taken, which is that of the edge that came last.
func TestFirst(t *testing.T) {
	b := born(t, middle, kinds()[4])
	b.insert(t, 0, 0, 1)
	for slot, v := range []int{2, 3, 4} {
		b.insert(t, 1+slot, 1, v)
		b.insert(t, 5+slot, 0, v)
	}
	slot := 0
	for _, want := range []int{7, 6, 5} {
		if by := b.delete(t, slot); by != (deleted{true, want, true}) {
			t.Fatalf("Delete(%d): %v; want %d", slot, by, want)
		}
		slot = want
	}
	if by := b.delete(t, slot); by != (deleted{tree: true}) {
		t.Errorf("Delete(%d): %v", slot, by)
	}
}

// P14.1, P14.3: a slot that has no edge any more can have another one; what its cells have of old plays no part.
func TestSlotAgain(t *testing.T) {
	b := shaped(t, kinds()[3])
	b.delete(t, 3)
	b.delete(t, 0)
	b.delete(t, 2)
	b.insert(t, 0, 6, 3)
	b.insert(t, 2, 7, 0)
	b.insert(t, 3, 7, 1)
	b.at(t, 0, 1, 0, 0, 0, 0, 0)
	if got := b.delete(t, 5); got != (deleted{true, 0, true}) {
		t.Errorf("Delete(5): %v", got)
	}
	b.insert(t, 5, 7, 2)
	b.delete(t, 2)
}

// P14.2: a path is joined from end to end, and parts where an edge goes.
func TestPath(t *testing.T) {
	for _, priority := range kinds() {
		for gap := range 15 {
			b := born(t, great, priority)
			for v := range 15 {
				b.Insert(v*3, v+1, v)
			}
			if !b.Joined(0, 15) || !b.Joined(15, 0) {
				t.Errorf("Joined(0, 15), of a path")
			}
			b.Delete(gap * 3)
			for v := range 16 {
				if b.Joined(0, v) != (v <= gap) || b.Joined(v, 15) != (v > gap) {
					t.Errorf("a path without the edge from %d on: Joined of %d", gap, v)
				}
			}
			b.joins(t)
		}
	}
}

// toggled tells a bench that is the same, but for the edge of a slot of the small lay, which each have two vertices: if there
// is one, it is deleted, else it is inserted.
func (b *bench) toggled(t *testing.T, slot int) *bench {
	t.Helper()
	c := b.twin()
	if _, ok := c.edge[slot]; ok {
		c.delete(t, slot)
		return c
	}
	e := [][2]int{{0, 1}, {3, 2}, {1, 2}, {0, 3}, {2, 0}, {3, 1}}[slot]
	c.insert(t, slot, e[0], e[1])
	return c
}

// goesOn toggles all slots of the small lay, each of them so many times deep.
func (b *bench) goesOn(t *testing.T, deep int) {
	t.Helper()
	for slot := range small.Slots {
		if c := b.toggled(t, slot); deep > 1 {
			c.goesOn(t, deep-1)
		}
	}
}

// P14.1, P14.2, P14.3: from all graphs of 4 vertices on, all that can come and go next, and then, and then.
func TestAllGraphs(t *testing.T) {
	for i := range 64 {
		b := born(t, small, kinds()[i%5])
		for slot := range small.Slots {
			if i>>slot&1 == 1 {
				b = b.toggled(t, slot)
			}
		}
		b.goesOn(t, 3)
	}
}

// P14.1, P14.2, P14.3: all orders in which the edges of 4 vertices come, and orders in which they go.
func TestAllOrders(t *testing.T) {
	d := dice(3)
	var order func(b *bench, left []int)
	order = func(b *bench, left []int) {
		for i, slot := range left {
			order(b.toggled(t, slot), slices.Delete(slices.Clone(left), i, i+1))
		}
		for slots := []int{0, 1, 2, 3, 4, 5}; len(left) == 0 && len(slots) > 0; {
			i := d.upTo(len(slots))
			b = b.toggled(t, slots[i])
			slots = slices.Delete(slots, i, i+1)
		}
	}
	order(born(t, small, kinds()[4]), []int{0, 1, 2, 3, 4, 5})
}

// P14.1, P14.2, P14.3: as many edges as slots, or as vertices can have, all come, and all go.
func TestAllSlots(t *testing.T) {
	for _, l := range lays {
		for _, step := range []int{1, 5, 29} {
			b := born(t, l, kinds()[step%5])
			slot := 0
			for apart := 1; apart < l.Vertices; apart++ {
				for u := 0; u+apart < l.Vertices && slot < l.Slots; u++ {
					b.insert(t, slot, u+apart, u)
					slot++
				}
			}
			for i := range slot {
				if x, ok := b.edge[i*step%slot]; ok {
					if b.delete(t, i*step%slot).tree != x.Tree {
						t.Errorf("%v: Delete of %v", l, x)
					}
				}
			}
		}
	}
}

// P14.1, P14.3: what is deleted again and again at one place goes up to the highest level that an edge can have.
func TestLevels(t *testing.T) {
	for _, priority := range kinds() {
		b := born(t, great, priority)
		highest := 0
		for _, size := range []int{16, 8, 4, 2} {
			for u := range size - 1 {
				if _, _, found := b.E.Find(u, u+1); !found {
					b.insert(t, u, u, u+1)
				}
			}
			b.delete(t, size/2-1)
			for _, slot := range b.E.All() {
				highest = max(highest, b.E.Get(slot).Level)
			}
		}
		if highest != 3 {
			t.Errorf("the highest level that an edge had is %d", highest)
		}
	}
}

// deed inserts or deletes any edge; as many come as go, or more of either.
func (b *bench) deed(t *testing.T, d *dice, more int) {
	t.Helper()
	u, v := d.upTo(b.l.Vertices), d.upTo(b.l.Vertices)
	if b.l.Slots == 0 || u == v {
		return
	}
	slot := d.upTo(b.l.Slots)
	_, _, found := b.E.Find(u, v)
	switch _, ok := b.edge[slot]; {
	case ok && d.upTo(10) < more:
		b.delete(t, slot)
	case !ok && !found:
		b.insert(t, slot, u, v)
	}
}

// P14.1, P14.2, P14.3: whatever comes and goes.
func TestDays(t *testing.T) {
	for i, l := range lays {
		for j, priority := range kinds() {
			d := dice(10*i + j)
			b := born(t, l, priority)
			deeds := 400
			if l == great {
				deeds = 150
			}
			for k := range deeds {
				b.deed(t, &d, []int{2, 10, 5}[k/50%3])
			}
		}
	}
}

// parent tells the cell of the Parent of a node of the level 0.
func parent(l lay.Lay, x int) int { return l.Field(x, lay.Parent) }

// P14.1: all is written with the pen that was told: what it changes isn't seen ahead of its commit, and all of it from there on.
func TestPen(t *testing.T) {
	b := shaped(t, kinds()[4])
	m := mem.Of(b.a)
	var pointers, was []int
	for x := 1; x <= middle.Nodes(); x++ {
		if what, _ := middle.Node(x); what.Level == 0 {
			pen.Clean(m, parent(middle, x))
			pointers = append(pointers, x)
			was = append(was, ptr.New(m, parent(middle, x)))
		}
	}
	p := ptr.Pen{Thread: 2, Tag: 99}
	p.Begin(m, middle)
	g := Of(middle, m, p)
	g.Insert(10, 7, 6)
	g.Delete(3)
	g.Insert(11, 0, 7)
	other := 0
	for i, x := range pointers {
		if got := ptr.Means(m, middle, parent(middle, x)); got != was[i] {
			t.Errorf("the Parent of %d means %d; want %d, as it was", x, got, was[i])
		}
	}
	p.Commit(m, middle)
	for i, x := range pointers {
		got := ptr.Means(m, middle, parent(middle, x))
		if got != ptr.New(m, parent(middle, x)) {
			t.Errorf("the Parent of %d means %d, as it isn't any more", x, got)
		}
		if got != was[i] {
			other++
		}
	}
	if other == 0 || !g.Joined(0, 3) {
		t.Errorf("%d Parents are other ones", other)
	}
}

// own tells the cells that are those of the parts that have u and v, and of a slot: no other writer changes these meanwhile.
func (b *bench) own(slot, u, v int) map[int]bool {
	own := map[int]bool{}
	nodes := func(node func(level int) int) {
		for level := range b.l.Levels() {
			for field := lay.Lock; field <= lay.Sum; field++ {
				own[b.l.Field(node(level), field)] = true
			}
		}
	}
	for w := range b.l.Vertices {
		if !b.Joined(w, u) && !b.Joined(w, v) {
			continue
		}
		nodes(func(level int) int { return b.l.Vertex(level, w) })
		for level := range b.l.Levels() {
			own[b.l.Head(w, level)] = true
		}
		for x := range b.l.Vertices {
			if b.Joined(x, u) || b.Joined(x, v) {
				own[b.l.Edge(w, x)] = true
			}
		}
	}
	for s := range b.l.Slots {
		x, ok := b.edge[s]
		if s != slot && (!ok || !b.Joined(x.U, u) && !b.Joined(x.U, v)) {
			continue
		}
		own[b.l.Ends(s)], own[b.l.Level(s)] = true, true
		for side := range 2 {
			own[b.l.Next(s, side)], own[b.l.Prev(s, side)] = true, true
			nodes(func(level int) int { return b.l.Arc(s, level, side) })
		}
	}
	return own
}

// P14.1: who inserts or deletes asks and changes what belongs to the parts of both ends and to the slot, and nothing else: so
// writers of other parts may be at work meanwhile.
func TestOwnParts(t *testing.T) {
	for i, l := range lays {
		d := dice(70 + i)
		b := born(t, l, kinds()[i%5])
		for range 300 {
			u, v, slot := d.upTo(l.Vertices), d.upTo(l.Vertices), d.upTo(max(l.Slots, 1))
			_, _, found := b.E.Find(u, v)
			x, ok := b.edge[slot]
			if !ok && (found || u == v || l.Slots == 0) || ok && d.upTo(2) == 0 {
				continue
			}
			trace := mem.Over(b.a)
			g := Of(l, trace, pen)
			if ok {
				u, v = x.U, x.V
				g.Delete(slot)
			} else {
				g.Insert(slot, u, v)
			}
			own := b.own(slot, u, v)
			for _, y := range trace.Row() {
				if !own[y.Cell] {
					t.Fatalf("%v: the slot %d, of %d and %d, has the access %v", l, slot, u, v, y)
				}
			}
			mem.Replay(mem.Of(b.a), trace.Row())
			if ok {
				b.goes(slot)
			} else {
				b.comes(slot, u, v)
			}
		}
		b.holds(t)
	}
}

// P14.1, P14.2: in a trace, all is done likewise, and its arena stays.
func TestTrace(t *testing.T) {
	b := shaped(t, kinds()[4])
	x := mem.Over(b.a)
	g := Of(middle, x, pen)
	if !g.Insert(12, 7, 3) || g.Insert(13, 7, 0) {
		t.Errorf("Insert in a trace")
	}
	if tree, by, ok := g.Delete(3); !tree || by != 13 || !ok || !g.Joined(0, 3) {
		t.Errorf("Delete(3) in a trace: %t, %d, %t", tree, by, ok)
	}
	b.holds(t)
	n, ok := mem.Replay(mem.Of(b.a), x.Row())
	if b.comes(12, 7, 3); !ok || n != len(x.Row()) || b.comes(13, 7, 0) || b.goes(3) != (deleted{true, 13, true}) {
		t.Errorf("replayed: %d, %t", n, ok)
	}
	b.holds(t)
}

// P14.1, P14.2: what is kept is kept in memory alone: whoever has the same memory tells the same.
func TestSameMemory(t *testing.T) {
	b := shaped(t, kinds()[3])
	other := Of(middle, mem.Of(b.a), pen)
	b.delete(t, 3)
	if !other.Joined(0, 2) || other.Joined(0, 3) {
		t.Errorf("Joined, of another one")
	}
	if tree, by, ok := other.Delete(0); !tree || by != 2 || !ok || b.goes(0) != (deleted{true, 2, true}) {
		t.Errorf("Delete(0), of another one: %t, %d, %t", tree, by, ok)
	}
	b.holds(t)
}

// refuses fails the test, if an Insert or a Delete isn't refused, or changes memory.
func (b *bench) refuses(t *testing.T, slot, u, v int) {
	t.Helper()
	was := cells(b.a)
	if b.Insert(slot, u, v) {
		t.Errorf("Insert(%d, %d, %d): true", slot, u, v)
	}
	if _, ok := b.edge[slot]; !ok {
		if tree, by, ok := b.Delete(slot); tree || by != 0 || ok {
			t.Errorf("Delete(%d): %t, %d, %t", slot, tree, by, ok)
		}
	}
	if !slices.Equal(cells(b.a), was) {
		t.Fatalf("the slot %d, of %d and %d, that should be refused, has changed memory", slot, u, v)
	}
}

// P1, and nothing is promised: a vertex with itself, two vertices that have an edge, and slots without one change nothing.
func TestRefused(t *testing.T) {
	b := shaped(t, kinds()[4])
	b.delete(t, 3)
	for _, slot := range []int{3, 13} {
		for v := range middle.Vertices {
			b.refuses(t, slot, v, v)
		}
		for s, e := range shape {
			if s != 3 {
				b.refuses(t, slot, e[0], e[1])
				b.refuses(t, slot, e[1], e[0])
			}
		}
	}
	b.insert(t, 3, 2, 3)
	b.holds(t)
}

// P1: of vertices and slots that aren't there nothing is told, and nothing is changed.
func TestNotThere(t *testing.T) {
	b := shaped(t, kinds()[4])
	for _, n := range append([]int{14, 16, 17}, nowhere...) {
		for v := range middle.Vertices {
			b.refuses(t, n, v, 0)
			b.refuses(t, n, 7, v)
			b.refuses(t, 13, n, v)
			b.refuses(t, 13, v, n)
			b.refuses(t, n, v, n)
			if b.Joined(n, v) || b.Joined(v, n) || b.Joined(n, n) {
				t.Errorf("Joined of %d", n)
			}
		}
		b.refuses(t, n, n, n)
	}
	b.holds(t)
}

// P1: in a memory that has just the lay's cells no other cell is asked, whatever is told to the calls.
func TestNoOtherCells(t *testing.T) {
	for _, l := range lays {
		g := Of(l, make(strict, l.Cells()), pen)
		for x := 1; x <= l.Nodes(); x++ {
			g.T.Alone(x)
		}
		numbers := append([]int{0, 1, 2, l.Vertices - 1, l.Vertices, l.Slots - 1, l.Slots, l.Levels()}, nowhere...)
		for _, x := range numbers {
			for _, y := range numbers {
				g.Insert(x, y, x)
				g.Insert(x, 0, y)
				g.Joined(x, y)
				g.Delete(y)
				g.Insert(y, x, 1)
			}
			g.Delete(x)
		}
	}
}

// P1: of a lay that isn't right nothing is there, and no cell is asked.
func TestWrongLays(t *testing.T) {
	for _, l := range wrongLays {
		for _, n := range append([]int{0, 1, 2, 3, 4, 5}, nowhere...) {
			g := Of(l, strict{}, pen)
			tree, by, ok := g.Delete(n)
			if g.Insert(n, 0, 1) || g.Insert(0, n, 1) || g.Insert(0, 1, n) || tree || by != 0 || ok || g.Joined(n, 0) {
				t.Errorf("%v: %d", l, n)
			}
		}
	}
}

// P1: pens that may not be write nothing into pointer cells, and all calls end.
func TestWrongPens(t *testing.T) {
	for _, p := range []ptr.Pen{
		{}, {Thread: 1, Tag: -1}, {Thread: -1, Tag: 7}, {Thread: 9, Tag: 7}, {Thread: 1, Tag: api.MaxTag + 1},
		{Thread: math.MinInt, Tag: math.MinInt}, {Thread: math.MaxInt, Tag: math.MaxInt},
	} {
		b := shaped(t, kinds()[4])
		g := Of(middle, mem.Of(b.a), p)
		for slot := range middle.Slots {
			g.Insert(slot, slot%7, 7)
			g.Delete(slot)
			g.Joined(slot, 7)
		}
	}
}

// P1: in memory that isn't right, or is no longer, as slots that had an edge were inserted again, all calls end, and none panics;
// slots that aren't there are not told.
func TestWrongMemory(t *testing.T) {
	d := dice(23)
	numbers := []uint64{
		0, 1, 2, 3, 4, 5, 12, 13, 14, 97, 257, 258, 516, 1026, 65536, 1 << 32, 1<<62 - 1, 1 << 63, 1<<63 | 3, math.MaxUint64 - 1,
		math.MaxUint64, math.MaxInt64, math.MaxInt64 - 1, 1<<32 | 1<<34, 1<<33 | 1<<35, 15<<32 | 5,
	}
	for i := range 400 {
		m := make(strict, middle.Cells())
		g := Of(middle, m, pen)
		for c := range m {
			switch {
			case i%3 == 0:
				m[c] = numbers[d.upTo(len(numbers))]
			case i%3 == 1 && d.upTo(4) > 0:
				m[c] = uint64(d.upTo(middle.Nodes() + 1))
			}
		}
		for range 60 {
			if slot := d.upTo(15); d.upTo(3) > 0 {
				g.Insert(slot, d.upTo(9), d.upTo(9))
			} else if _, by, ok := g.Delete(slot); by < 0 || by >= middle.Slots || !ok && by != 0 {
				t.Fatalf("Delete(%d): %d, %t", slot, by, ok)
			}
			if slot := d.upTo(14); d.upTo(9) == 0 {
				m[middle.Level(slot)] = numbers[d.upTo(len(numbers))]
			}
			g.Joined(d.upTo(9), d.upTo(9))
		}
	}
}
