package tour

import (
	"math"
	"slices"
	"testing"

	"tombolo/api"
	"tombolo/cell"
	"tombolo/lay"
	"tombolo/mem"
	"tombolo/ptr"
	"tombolo/treap"
)

// The pen of all tests.
var pen = ptr.Pen{Thread: 2, Tag: 7}

// A lay of few nodes, of 3 levels.
var small = lay.Lay{Vertices: 5, Slots: 4, Threads: 2}

// The greatest lay.
var great = lay.Lay{Vertices: api.MaxVertices, Slots: api.MaxSlots, Threads: api.MaxThreads}

// Numbers of levels, vertices and slots that no lay has.
var none = []int{math.MinInt, -1 << 32, -2, -1, 48, 49, 255, 65536, 1 << 32, 1 << 62, math.MaxInt}

// Lays that may not be.
var wrongLays = []lay.Lay{
	{}, {Vertices: 5, Slots: 4}, {Vertices: 5, Slots: 4, Threads: 9}, {Vertices: 17, Slots: 4, Threads: 2},
	{Slots: 4, Threads: 2}, {Vertices: 5, Slots: -1, Threads: 2}, {Vertices: 5, Slots: 49, Threads: 2},
}

// dice tell numbers that look like any.
type dice uint64

// upTo tells a number from 0 on and below n.
func (d *dice) upTo(n int) int {
	*d = *d*6364136223846793005 + 1442695040888963407
	return int(uint64(*d) >> 33 % uint64(n))
}

// strict is a memory that panics where there is no cell.
type strict []uint64

func (m strict) Load(i int) uint64     { return m[i] }
func (m strict) Store(i int, v uint64) { m[i] = v }

// tie is what a slot links at a level.
type tie struct{ level, u, v int }

// bench is a memory of tours, and what it should have: rows, and the ties that weren't cut, by level and slot.
type bench struct {
	l    lay.Lay
	a    *cell.Arena
	rows [][]int
	ties map[[2]int]tie
	Tours
}

// born makes memory of a lay whose nodes are alone.
func born(t *testing.T, l lay.Lay, priority func(x int) uint64) *bench {
	t.Helper()
	a, e := cell.New(l.Cells())
	if e != api.OK {
		t.Fatalf("New(%d): %d", l.Cells(), e)
	}
	b := &bench{l: l, a: a, ties: map[[2]int]tie{}}
	b.Tours = Tours{Trees: treap.Trees{L: l, M: mem.Of(a), Pen: pen}}
	for i := range a.Len() {
		a.Store(i, uint64(i)<<33|9)
	}
	for x := 1; x <= l.Nodes(); x++ {
		what, _ := l.Node(x)
		if what.Level == 0 {
			a.Store(l.Field(x, lay.Parent), 0)
		}
		a.Store(l.Field(x, lay.Priority), priority(x))
		b.Alone(x)
		b.rows = append(b.rows, []int{x})
	}
	return b
}

// kinds tells kinds of priorities: all the same, rising, falling, few, many.
func kinds() []func(x int) uint64 {
	d := dice(5)
	return []func(x int) uint64{
		func(int) uint64 { return 0 },
		func(x int) uint64 { return uint64(x) },
		func(x int) uint64 { return math.MaxUint64 - uint64(x) },
		func(x int) uint64 { return uint64(x * 7 % 5) },
		func(int) uint64 { return uint64(d.upTo(1 << 30)) },
	}
}

// find tells which row has a node, and where.
func (b *bench) find(x int) (row, at int) {
	for i, r := range b.rows {
		if at := slices.Index(r, x); at >= 0 {
			return i, at
		}
	}
	panic("a node is in no row")
}

// begun lets the row that has x begin at x, and takes it away from the others.
func (b *bench) begun(x int) []int {
	i, at := b.find(x)
	row := slices.Concat(b.rows[i][at:], b.rows[i][:at])
	b.rows = slices.Delete(b.rows, i, i+1)
	return row
}

// reached tells whether a level's ties join u and v.
func (b *bench) reached(level, u, v int) bool {
	seen := []int{u}
	for i := 0; i < len(seen); i++ {
		for _, e := range b.ties {
			for _, way := range [][2]int{{e.u, e.v}, {e.v, e.u}} {
				if e.level == level && way[0] == seen[i] && !slices.Contains(seen, way[1]) {
					seen = append(seen, way[1])
				}
			}
		}
	}
	return slices.Contains(seen, v)
}

// begins lets u's row begin at u, and looks at what is told.
func (b *bench) begins(t *testing.T, level, u int) {
	t.Helper()
	x := b.l.Vertex(level, u)
	row := b.begun(x)
	b.rows = append(b.rows, row)
	if root := b.Begin(level, u); root != b.Root(x) || !slices.Equal(b.List(root), row) {
		t.Fatalf("Begin(%d, %d): %d, of the row %v; want %v", level, u, root, b.List(root), row)
	}
}

// links links u and v, and looks at what is told.
func (b *bench) links(t *testing.T, level, slot, u, v int) {
	t.Helper()
	row := slices.Concat(b.begun(b.l.Vertex(level, u)), b.begun(b.l.Arc(slot, level, 0)),
		b.begun(b.l.Vertex(level, v)), b.begun(b.l.Arc(slot, level, 1)))
	b.rows = append(b.rows, row)
	b.ties[[2]int{level, slot}] = tie{level, u, v}
	root := b.Link(level, slot, u, v)
	if root == 0 || root != b.Root(row[0]) || !slices.Equal(b.List(root), row) {
		t.Fatalf("Link(%d, %d, %d, %d): %d, of the row %v; want %v", level, slot, u, v, root, b.List(root), row)
	}
}

// cuts cuts a slot, and looks at what is told.
func (b *bench) cuts(t *testing.T, level, slot int) {
	t.Helper()
	arcs := []int{b.l.Arc(slot, level, 0), b.l.Arc(slot, level, 1)}
	k, i := b.find(arcs[0])
	_, j := b.find(arcs[1])
	i, j = min(i, j), max(i, j)
	row := b.rows[k]
	within, around := slices.Clone(row[i+1:j]), slices.Concat(row[:i], row[j+1:])
	b.rows = slices.Delete(b.rows, k, k+1)
	b.rows = append(b.rows, within, around, arcs[:1], arcs[1:])
	delete(b.ties, [2]int{level, slot})
	inner, outer := b.Cut(level, slot)
	if !slices.Equal(b.List(inner), within) || !slices.Equal(b.List(outer), around) {
		t.Fatalf("Cut(%d, %d): %v, %v; want %v, %v", level, slot, b.List(inner), b.List(outer), within, around)
	}
	if inner != b.Root(within[0]) || outer != b.Root(around[0]) {
		t.Fatalf("Cut(%d, %d): %d, %d are no roots", level, slot, inner, outer)
	}
}

// goesRound tells whether a row goes around a tree of a level's ties: whoever walks along it goes each tie there and back.
func (b *bench) goesRound(row []int) bool {
	first := 0
	for i, x := range row {
		if what, _ := b.l.Node(x); !what.Arc {
			first = i
			break
		}
	}
	row = slices.Concat(row[first:], row[:first])
	start, _ := b.l.Node(row[0])
	at := start.Vertex
	for _, x := range row {
		what, _ := b.l.Node(x)
		e, linked := b.ties[[2]int{what.Level, what.Slot}]
		switch {
		case what.Level != start.Level || what.Arc && !linked || !what.Arc && what.Vertex != at:
			return false
		case !what.Arc:
		case what.Side == 0 && at == e.u:
			at = e.v
		case what.Side == 1 && at == e.v:
			at = e.u
		default:
			return false
		}
	}
	return at == start.Vertex
}

// holds fails the test, if anything isn't as it should be.
func (b *bench) holds(t *testing.T) {
	t.Helper()
	was := cells(b.a)
	for _, row := range b.rows {
		root := b.Root(row[0])
		if got := b.List(root); !slices.Equal(got, row) {
			t.Fatalf("the row of %d: %v; want %v", row[0], got, row)
		}
		what, _ := b.l.Node(row[0])
		if _, linked := b.ties[[2]int{what.Level, what.Slot}]; what.Arc && !linked {
			if len(row) != 1 || b.Marked(row[0], 0) || b.Marked(row[0], 1) {
				t.Fatalf("the arc %d isn't alone: %v", row[0], row)
			}
			continue
		}
		if !b.goesRound(row) {
			t.Fatalf("the row %v doesn't go around a tree", row)
		}
	}
	for level := range b.l.Levels() {
		b.tells(t, level)
	}
	if !slices.Equal(cells(b.a), was) {
		t.Fatalf("what only tells has changed memory")
	}
}

// tells fails the test, if Same, Count or Linked tells anything wrong of a level.
func (b *bench) tells(t *testing.T, level int) {
	t.Helper()
	for u := range b.l.Vertices {
		count := 0
		for v := range b.l.Vertices {
			want := b.reached(level, u, v)
			if want {
				count++
			}
			if got := b.Same(level, u, v); got != want {
				t.Fatalf("Same(%d, %d, %d): %t", level, u, v, got)
			}
		}
		if got := b.Count(level, u); got != count {
			t.Fatalf("Count(%d, %d): %d; want %d", level, u, got, count)
		}
	}
	for slot := range b.l.Slots {
		_, want := b.ties[[2]int{level, slot}]
		if got := b.Linked(level, slot); got != want {
			t.Fatalf("Linked(%d, %d): %t", level, slot, got)
		}
	}
}

// cells tells what an arena has.
func cells(a *cell.Arena) []uint64 {
	all := make([]uint64, a.Len())
	for i := range all {
		all[i], _ = a.Load(i)
	}
	return all
}

// deed does anything that may be done.
func (b *bench) deed(t *testing.T, d *dice) {
	t.Helper()
	level, slot := d.upTo(b.l.Levels()), d.upTo(b.l.Slots)
	u, v := d.upTo(b.l.Vertices), d.upTo(b.l.Vertices)
	_, linked := b.ties[[2]int{level, slot}]
	switch {
	case d.upTo(4) == 0:
		b.begins(t, level, u)
	case linked && d.upTo(3) > 0:
		b.cuts(t, level, slot)
	case !linked && !b.reached(level, u, v):
		b.links(t, level, slot, u, v)
	default:
		b.refuses(t, level, slot, u, v)
	}
}

// refuses fails the test, if what can't be linked or cut changes memory, or tells a root; the pen is another one, so that
// whatever it writes is seen.
func (b *bench) refuses(t *testing.T, level, slot, u, v int) {
	t.Helper()
	was := cells(b.a)
	b.Pen = ptr.Pen{Thread: 1, Tag: 3}
	defer func() { b.Pen = pen }()
	_, linked := b.ties[[2]int{level, slot}]
	if linked || b.reached(level, u, v) {
		if root := b.Link(level, slot, u, v); root != 0 {
			t.Fatalf("Link(%d, %d, %d, %d): %d", level, slot, u, v, root)
		}
	}
	if !linked {
		if inner, outer := b.Cut(level, slot); inner != 0 || outer != 0 {
			t.Fatalf("Cut(%d, %d): %d, %d", level, slot, inner, outer)
		}
	}
	if !slices.Equal(cells(b.a), was) {
		t.Fatalf("Link or Cut of %d, %d, %d, %d has changed memory", level, slot, u, v)
	}
}

// P10.1, P10.2: the examples of the chapter.
func TestExamples(t *testing.T) {
	for _, priority := range kinds() {
		b := born(t, small, priority)
		x, y := b.l.Vertex(0, 0), b.l.Vertex(0, 1)
		root := b.Link(0, 0, 0, 1)
		if got := b.List(root); !slices.Equal(got, []int{x, b.l.Arc(0, 0, 0), y, b.l.Arc(0, 0, 1)}) {
			t.Errorf("Link(0, 0, 0, 1): %v", got)
		}
		if inner, outer := b.Cut(0, 0); inner != y || outer != x {
			t.Errorf("Cut(0, 0): %d, %d; want %d, %d", inner, outer, y, x)
		}
	}
}

// P10.1, P10.2: a path, a star and a tree with both, begun everywhere, cut at each slot, from every beginning.
func TestTrees(t *testing.T) {
	trees := [][][2]int{
		{{0, 1}, {1, 2}, {2, 3}, {3, 4}}, {{0, 1}, {0, 2}, {0, 3}, {0, 4}}, {{4, 0}, {3, 0}, {2, 0}, {1, 0}},
		{{1, 0}, {2, 1}, {2, 3}, {1, 4}}, {{3, 2}, {1, 0}, {0, 3}, {4, 3}},
	}
	for _, priority := range kinds() {
		for _, edges := range trees {
			for first := range small.Vertices {
				for cut := range edges {
					b := born(t, small, priority)
					for level := range b.l.Levels() {
						for slot, e := range edges {
							b.links(t, level, slot, e[0], e[1])
							b.holds(t)
						}
						b.begins(t, level, first)
						b.cuts(t, level, cut)
						b.holds(t)
					}
				}
			}
		}
	}
}

// P10.2: a slot's arcs are without marks once it is cut, whatever marks they had.
func TestMarksGo(t *testing.T) {
	b := born(t, small, kinds()[3])
	b.links(t, 1, 2, 3, 4)
	b.links(t, 1, 1, 4, 0)
	for side := range 2 {
		for mark := range treap.Marks {
			b.Mark(b.l.Arc(2, 1, side), mark, true)
		}
	}
	b.Mark(b.l.Vertex(1, 3), 0, true)
	b.cuts(t, 1, 2)
	b.holds(t)
	if !b.Marked(b.l.Vertex(1, 3), 0) {
		t.Errorf("a vertex has lost its mark by a Cut")
	}
	b.links(t, 1, 2, 0, 3)
	b.holds(t)
	root := b.Root(b.l.Vertex(1, 0))
	if first := b.First(root, 1); first != 0 {
		t.Errorf("%d has the mark 1 still", first)
	}
	if first := b.First(root, 0); first != b.l.Vertex(1, 3) {
		t.Errorf("%d is told as the first one that has the mark 0", first)
	}
}

// P10.1, P10.2, P10.3: whatever is linked, cut and begun.
func TestDays(t *testing.T) {
	for i, priority := range kinds() {
		d := dice(i)
		b := born(t, small, priority)
		for range 300 {
			b.deed(t, &d)
			b.holds(t)
		}
	}
}

// P10.1, P10.2, P10.3: likewise in the greatest lay, and in the least ones.
func TestOtherLays(t *testing.T) {
	lays := []lay.Lay{
		great, {Vertices: 2, Slots: 1, Threads: 2}, {Vertices: 1, Slots: 1, Threads: 2}, {Vertices: 3, Slots: 48, Threads: 2},
		{Vertices: 16, Slots: 1, Threads: 2},
	}
	for i, l := range lays {
		for j, priority := range kinds() {
			d := dice(10*i + j)
			b := born(t, l, priority)
			for k := range 200 {
				b.deed(t, &d)
				if k%20 == 19 {
					b.holds(t)
				}
			}
		}
	}
}

// P10.2: the greatest tree, a path whose middle is cut, and that is linked again.
func TestGreatestTree(t *testing.T) {
	for _, priority := range kinds() {
		b := born(t, great, priority)
		for u := range 15 {
			b.links(t, 4, 47-u, u+1, u)
		}
		b.holds(t)
		for slot := 33; slot < 48; slot++ {
			b.cuts(t, 4, slot)
			b.links(t, 4, slot-33, 0, 15)
			b.holds(t)
			b.cuts(t, 4, slot-33)
			b.links(t, 4, slot, 47-slot, 48-slot)
		}
		b.holds(t)
	}
}

// P10.1, P10.2, P10.3: Begin, Link and Cut change the cells of their own level's nodes alone, and of these neither lock,
// version nor priority.
func TestOtherCells(t *testing.T) {
	for level := range small.Levels() {
		b := born(t, small, kinds()[4])
		was := cells(b.a)
		b.links(t, level, 0, 0, 1)
		b.links(t, level, 3, 2, 1)
		b.begins(t, level, 1)
		b.cuts(t, level, 0)
		own := map[int]bool{}
		for x := 1; x <= b.l.Nodes(); x++ {
			if what, _ := b.l.Node(x); what.Level == level {
				for _, field := range []int{lay.Parent, lay.Left, lay.Right, lay.Sum} {
					own[b.l.Field(x, field)] = true
				}
			}
		}
		for i, v := range cells(b.a) {
			if v != was[i] && !own[i] {
				t.Errorf("level %d: cell %d has %#x; want %#x", level, i, v, was[i])
			}
		}
	}
}

// P10.1, P10.2, with layer 8: what is linked and cut is seen from the pen's commit on; it is reckoned with at once.
func TestPen(t *testing.T) {
	b := born(t, small, kinds()[0])
	m := mem.Of(b.a)
	x, y := b.l.Field(b.l.Vertex(0, 0), lay.Parent), b.l.Field(b.l.Vertex(0, 1), lay.Parent)
	seen := func() [2]int { return [2]int{ptr.Means(m, b.l, x), ptr.Means(m, b.l, y)} }
	for n := 1; n <= b.l.Nodes(); n++ {
		if what, _ := b.l.Node(n); what.Level == 0 {
			b.Pen.Clean(m, b.l.Field(n, lay.Parent))
		}
	}
	b.Pen.Begin(m, b.l)
	b.Link(0, 0, 0, 1)
	if got := seen(); got != [2]int{} || !b.Same(0, 0, 1) {
		t.Errorf("ahead of the commit the parents %v are seen", got)
	}
	b.Pen.Commit(m, b.l)
	if got := seen(); got == [2]int{} || !b.Same(0, 0, 1) {
		t.Errorf("behind the commit the parents %v are seen", got)
	}
}

// P10.1 to P10.3: in a trace, all is done likewise, and its arena stays.
func TestTrace(t *testing.T) {
	b := born(t, small, kinds()[4])
	b.links(t, 0, 2, 4, 3)
	was := cells(b.a)
	x := mem.Over(b.a)
	y := Tours{Trees: treap.Trees{L: b.l, M: x, Pen: pen}}
	root := y.Link(0, 0, 0, 3)
	y.Link(0, 1, 4, 1)
	inner, outer := y.Cut(0, 0)
	if root == 0 || inner == 0 || outer == 0 || !y.Same(0, 1, 3) || y.Same(0, 0, 3) || y.Count(0, 4) != 3 {
		t.Errorf("in a trace: %d, %d, %d", root, inner, outer)
	}
	if !slices.Equal(cells(b.a), was) {
		t.Errorf("the arena below a trace is changed")
	}
}

// nothing fails the test, if a call of a level, a slot or vertices of which one isn't there tells anything.
func nothing(t *testing.T, x Tours, level, slot, u, v int) {
	t.Helper()
	if root := x.Link(level, slot, u, v); root != 0 {
		t.Errorf("Link(%d, %d, %d, %d): %d", level, slot, u, v, root)
	}
	if x.L.Vertex(level, u) == 0 {
		if root, n := x.Begin(level, u), x.Count(level, u); root != 0 || n != 0 {
			t.Errorf("Begin, Count of %d, %d: %d, %d", level, u, root, n)
		}
		if x.Same(level, u, u) || x.Same(level, u, v) || x.Same(level, v, u) {
			t.Errorf("Same of %d, %d, %d tells true", level, u, v)
		}
	}
	if x.L.Arc(slot, level, 0) == 0 {
		if inner, outer := x.Cut(level, slot); inner != 0 || outer != 0 || x.Linked(level, slot) {
			t.Errorf("Cut, Linked of %d, %d: %d, %d", level, slot, inner, outer)
		}
	}
}

// P1: of levels, slots and vertices that aren't there nothing is told, and nothing is changed.
func TestNotThere(t *testing.T) {
	b := born(t, small, kinds()[4])
	b.links(t, 1, 0, 0, 1)
	b.links(t, 1, 1, 2, 1)
	was := cells(b.a)
	for _, n := range append(none, 5, 16) {
		nothing(t, b.Tours, n, 2, 3, 4)
		nothing(t, b.Tours, 1, n, 3, 4)
		nothing(t, b.Tours, 1, 2, n, 4)
		nothing(t, b.Tours, 1, 2, 3, n)
		nothing(t, b.Tours, n, n, n, n)
	}
	nothing(t, b.Tours, 3, 2, 3, 4)
	nothing(t, b.Tours, 1, 4, 3, 4)
	if !slices.Equal(cells(b.a), was) {
		t.Errorf("memory is changed")
	}
	b.holds(t)
}

// P1: of a lay that isn't right nothing is there, and no cell is asked.
func TestWrongLays(t *testing.T) {
	for _, l := range wrongLays {
		x := Tours{Trees: treap.Trees{L: l, M: strict{}, Pen: pen}}
		for n := -1; n < 5; n++ {
			nothing(t, x, n, n, n, n+1)
			nothing(t, x, 0, n, 0, 1)
		}
	}
}

// P1: in memory that isn't right all calls end, and none panics.
func TestWrongMemory(t *testing.T) {
	d := dice(23)
	numbers := []uint64{0, 1, 2, 3, 15, 75, 76, 65536, 1 << 32, 1 << 63, math.MaxUint64, 3<<32 | 5}
	for i := range 300 {
		m := make(strict, small.Cells())
		for c := range m {
			m[c] = numbers[d.upTo(len(numbers))]
			if d.upTo(3) > 0 {
				m[c] = uint64(d.upTo(small.Nodes()+1)) * [...]uint64{1, 65537}[i%2]
			}
		}
		x := Tours{Trees: treap.Trees{L: small, M: m, Pen: pen}}
		for range 10 {
			level, slot, u, v := d.upTo(4), d.upTo(5), d.upTo(6), d.upTo(6)
			x.Begin(level, u)
			x.Same(level, u, v)
			x.Count(level, u)
			x.Linked(level, slot)
			x.Link(level, slot, u, v)
			x.Cut(level, d.upTo(5))
		}
	}
}
