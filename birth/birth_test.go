package birth

import (
	"math"
	"slices"
	"testing"

	"tombolo/adj"
	"tombolo/api"
	"tombolo/cell"
	"tombolo/edge"
	"tombolo/hdt"
	"tombolo/lay"
	"tombolo/mem"
	"tombolo/ptr"
	"tombolo/slot"
	"tombolo/tour"
	"tombolo/treap"
	"tombolo/word"
)

// The greatest lay.
var great = lay.Lay{Vertices: api.MaxVertices, Slots: api.MaxSlots, Threads: api.MaxThreads}

// Lays at the edges of what may be, and some between.
var lays = []lay.Lay{
	{Vertices: 3, Slots: 2, Threads: 2}, {Vertices: 4, Slots: 6, Threads: 3}, great, {Vertices: 2, Slots: 1, Threads: 1},
	{Vertices: 16, Slots: 0, Threads: 8}, {Vertices: 1, Slots: 48, Threads: 2}, {Vertices: 1, Slots: 0, Threads: 1},
	{Vertices: 7, Slots: 21, Threads: 8}, {Vertices: 8, Slots: 1, Threads: 1},
}

// dice tell numbers that look like any.
type dice uint64

// next tells a number of 64 bits.
func (d *dice) next() uint64 {
	*d = *d*6364136223846793005 + 1442695040888963407
	return uint64(*d>>32 | *d<<32)
}

// someDraws tells n draws, of which the first ones are at the edges of what a draw can be.
func someDraws(n int) []uint64 {
	draws := []uint64{math.MaxUint64, 0, 1 << 63, 1, 1<<63 - 1, 1 << 16, math.MaxUint32}
	d := dice(n)
	for len(draws) < n {
		draws = append(draws, d.next())
	}
	return draws[:n]
}

// made tells what New makes of a lay and draws that are right.
func made(t *testing.T, l lay.Lay, draws []uint64) *cell.Arena {
	t.Helper()
	a, e := New(l, draws)
	if e != api.OK || a == nil {
		t.Fatalf("New(%v, %d draws): %v, %d; want an arena", l, len(draws), a, e)
	}
	return a
}

// refused fails the test, if New doesn't refuse a lay and draws so.
func refused(t *testing.T, l lay.Lay, draws []uint64, want api.Errno) {
	t.Helper()
	if a, e := New(l, draws); a != nil || e != want {
		t.Errorf("New(%v, %d draws): %v, %d; want no arena, %d", l, len(draws), a, e, want)
	}
}

// cells tells what an arena has.
func cells(a *cell.Arena) []uint64 {
	all := make([]uint64, a.Len())
	for i := range all {
		all[i], _ = a.Load(i)
	}
	return all
}

// atFirst tells what the document says that memory has at first: part by part, in its order of cells.
func atFirst(l lay.Lay, draws []uint64) []uint64 {
	levels := 0
	for p := 1; p <= l.Vertices; p *= 2 {
		levels++
	}
	link := func(s int) uint64 {
		if s == l.Slots {
			return 0
		}
		return uint64(s + 1)
	}
	all := append(make([]uint64, l.Threads), link(0))
	for s := range l.Slots {
		all = append(all, link(s+1), 0, 0, 0, 0, 0, 0)
	}
	all = append(all, make([]uint64, l.Vertices*levels+l.Vertices*(l.Vertices-1)/2)...)
	for x := 1; x <= (l.Vertices+2*l.Slots)*levels; x++ {
		lock, priority, sum := uint64(api.Closed), uint64(0), uint64(1)
		if x <= l.Vertices {
			lock = 0
		}
		if len(draws) > 0 {
			priority = draws[x%len(draws)]
		}
		if x <= l.Vertices*levels {
			sum |= 1 << 16
		}
		all = append(all, lock, 0, 0, 0, 0, priority, sum)
	}
	return all
}

// born fails the test, if what New makes of a lay and draws hasn't just what memory has at first.
func born(t *testing.T, l lay.Lay, draws []uint64) {
	t.Helper()
	got, want := cells(made(t, l, draws)), atFirst(l, draws)
	if len(got) != len(want) {
		t.Fatalf("New(%v, %d draws): %d cells; want %d", l, len(draws), len(got), len(want))
	}
	for i, v := range got {
		if v != want[i] {
			t.Fatalf("New(%v, %d draws): the cell %d has %#x; want %#x", l, len(draws), i, v, want[i])
		}
	}
}

// The chapter's example.
func TestExample(t *testing.T) {
	l := lay.Lay{Vertices: 2, Slots: 1, Threads: 1}
	a := made(t, l, nil)
	for x, want := range map[int]uint64{1: 0, 2: 0, 3: api.Closed, 4: api.Closed} {
		if lock, _ := a.Load(l.Field(x, lay.Lock)); lock != want {
			t.Errorf("the node %d has the lock %d; want %d", x, lock, want)
		}
	}
}

// Each cell of each lay.
func TestAllLays(t *testing.T) {
	n := 0
	for v := 1; v <= api.MaxVertices; v++ {
		for s := range api.MaxSlots + 1 {
			for th := 1; th <= api.MaxThreads; th++ {
				born(t, lay.Lay{Vertices: v, Slots: s, Threads: th}, someDraws(n%(api.MaxDraws+1)))
				n++
			}
		}
	}
}

// Any number of draws that may be: more and fewer than there are nodes, too.
func TestAllDraws(t *testing.T) {
	for _, l := range lays {
		for n := range api.MaxDraws + 1 {
			born(t, l, someDraws(n))
		}
	}
}

// Draws are taken by nodes' numbers, which begin at 1: the first draw is that of the last node that goes around.
func TestDrawsByNumber(t *testing.T) {
	l := lay.Lay{Vertices: 3, Slots: 1, Threads: 1}
	for _, c := range []struct{ draws, want []uint64 }{
		{nil, []uint64{0, 0, 0, 0, 0, 0, 0, 0, 0, 0}},
		{[]uint64{9}, []uint64{9, 9, 9, 9, 9, 9, 9, 9, 9, 9}},
		{[]uint64{7, 8}, []uint64{8, 7, 8, 7, 8, 7, 8, 7, 8, 7}},
		{[]uint64{4, 5, 6}, []uint64{5, 6, 4, 5, 6, 4, 5, 6, 4, 5}},
		{[]uint64{0, 1, 2, 3, 4, 5, 6, 7, 8, 9}, []uint64{1, 2, 3, 4, 5, 6, 7, 8, 9, 0}},
		{[]uint64{0, 1, 2, 3, 4, 5, 6, 7, 8, 9, 10, 11}, []uint64{1, 2, 3, 4, 5, 6, 7, 8, 9, 10}},
	} {
		a := made(t, l, c.draws)
		var got []uint64
		for x := 1; x <= l.Nodes(); x++ {
			p, _ := a.Load(l.Field(x, lay.Priority))
			got = append(got, p)
		}
		if !slices.Equal(got, c.want) {
			t.Errorf("draws %v: priorities %v; want %v", c.draws, got, c.want)
		}
	}
}

// What the layers of threads, slots, lists and edges tell of memory at first.
func TestNothingThere(t *testing.T) {
	for _, l := range lays {
		a := made(t, l, someDraws(5))
		m := mem.Of(a)
		for th := 1; th <= l.Threads; th++ {
			if tag, done, e := word.Tag(m.Load(l.State(th))); tag != 0 || done || e != api.OK {
				t.Errorf("%v: the thread %d has the state %d, %v, %d; want 0, not done", l, th, tag, done, e)
			}
		}
		var slots []int
		for s := range l.Slots {
			slots = append(slots, s)
		}
		if got := slot.List(m, l); !slices.Equal(got, slots) || m.Load(l.Free())>>16 != 0 {
			t.Errorf("%v: free slots %v, tag %d; want %v, 0", l, got, m.Load(l.Free())>>16, slots)
		}
		x := adj.Adj{T: tour.Tours{Trees: treap.Trees{L: l, M: m}}, E: edge.Edges{L: l, M: m}}
		if got := x.E.All(); len(got) != 0 {
			t.Errorf("%v: edges %v; want none", l, got)
		}
		for v := range l.Vertices {
			for level := range l.Levels() {
				if got := x.List(v, level); len(got) != 0 {
					t.Errorf("%v: the vertex %d has the list %v at the level %d; want none", l, v, got, level)
				}
			}
		}
	}
}

// What the layer of trees tells of memory at first: all nodes are alone.
func TestAlone(t *testing.T) {
	for _, l := range lays {
		x := treap.Trees{L: l, M: mem.Of(made(t, l, someDraws(5)))}
		for n := 1; n <= l.Nodes(); n++ {
			vertices := 1
			if n > l.Vertices*l.Levels() {
				vertices = 0
			}
			if !slices.Equal(x.List(n), []int{n}) || x.Root(n) != n || x.Size(n) != 1 || x.Vertices(n) != vertices {
				t.Errorf("%v: the node %d: row %v, root %d, %d nodes, %d vertices; want it alone",
					l, n, x.List(n), x.Root(n), x.Size(n), x.Vertices(n))
			}
			for mark := range treap.Marks {
				if x.Marked(n, mark) || x.First(n, mark) != 0 {
					t.Errorf("%v: the node %d has the mark %d", l, n, mark)
				}
			}
		}
	}
}

// All that who asks looks at is a plain word of 0, and one load tells what it means.
func TestPlainWords(t *testing.T) {
	for _, l := range lays {
		a := made(t, l, someDraws(5))
		for x := 1; x <= l.Nodes(); x++ {
			for _, f := range []int{lay.Parent, lay.Version} {
				v, _ := a.Load(l.Field(x, f))
				if w, e := word.Unpack(v); e != api.OK || !w.Plain() || w.New != 0 {
					t.Errorf("%v: the field %d of the node %d has %v, %d; want the plain word of 0", l, f, x, w, e)
				}
				if k := ptr.NewLook(l, l.Field(x, f)); !k.Step(a) || k.Value() != 0 {
					t.Errorf("%v: a look at the field %d of the node %d isn't done by one step, or tells %d", l, f, x, k.Value())
				}
			}
		}
	}
}

// Locks are those of the level 0's vertices; no arc and no higher level has one.
func TestLocks(t *testing.T) {
	for _, l := range lays {
		a := made(t, l, nil)
		free := map[int]bool{}
		for v := range l.Vertices {
			free[l.Vertex(0, v)] = true
		}
		for x := 1; x <= l.Nodes(); x++ {
			lock, _ := a.Load(l.Field(x, lay.Lock))
			if free[x] && lock != 0 || !free[x] && lock != api.Closed {
				t.Errorf("%v: the node %d has the lock %d", l, x, lock)
			}
		}
	}
}

// Wrong lays, whatever the draws are: that the lay is wrong comes ahead of that they are too many.
func TestWrongLays(t *testing.T) {
	edges := []int{math.MinInt, -1 << 32, -256, -1, 0, 1, 8, 9, 16, 17, 48, 49, 256, 1<<32 + 1, math.MaxInt}
	for _, v := range edges {
		for _, s := range edges {
			for _, th := range edges {
				right := 1 <= v && v <= 16 && 0 <= s && s <= 48 && 1 <= th && th <= 8
				l := lay.Lay{Vertices: v, Slots: s, Threads: th}
				for _, n := range []int{0, 1, 256} {
					if right {
						made(t, l, someDraws(n))
					} else {
						refused(t, l, someDraws(n), api.ErrRange)
					}
				}
				for _, n := range []int{257, 300} {
					if right {
						refused(t, l, someDraws(n), api.ErrMany)
					} else {
						refused(t, l, someDraws(n), api.ErrRange)
					}
				}
			}
		}
	}
}

// As many draws as may be, and more; their spare room plays no part.
func TestTooManyDraws(t *testing.T) {
	for _, l := range lays {
		born(t, l, someDraws(api.MaxDraws))
		for _, n := range []int{api.MaxDraws + 1, 2 * api.MaxDraws, 1 << 16, 1 << 20} {
			refused(t, l, make([]uint64, n), api.ErrMany)
			born(t, l, make([]uint64, n)[:api.MaxDraws])
			born(t, l, make([]uint64, n)[:0])
		}
	}
}

// Nil and empty draws are one.
func TestNoDraws(t *testing.T) {
	for _, l := range lays {
		born(t, l, nil)
		born(t, l, []uint64{})
		if !made(t, l, nil).Equal(made(t, l, []uint64{})) {
			t.Errorf("%v: nil and empty draws make unlike arenas", l)
		}
	}
}

// Draws are neither changed nor kept, their spare room neither.
func TestDrawsStay(t *testing.T) {
	for _, l := range lays {
		room := someDraws(40)
		a := made(t, l, room[:30])
		if !slices.Equal(room, someDraws(40)) {
			t.Errorf("%v: the draws were changed: %v", l, room)
		}
		clear(room)
		if !slices.Equal(cells(a), atFirst(l, someDraws(40)[:30])) {
			t.Errorf("%v: the arena goes with the draws", l)
		}
		for i := range a.Len() {
			a.Store(i, 5)
		}
		if !slices.Equal(room, make([]uint64, 40)) {
			t.Errorf("%v: the draws go with the arena: %v", l, room)
		}
	}
}

// Each arena is another one, which what was done to one ahead of it doesn't change.
func TestArenasAreNew(t *testing.T) {
	for _, l := range lays {
		draws := someDraws(30)
		a, b := made(t, l, draws), made(t, l, draws)
		for i := range a.Len() {
			a.Store(i, 5)
		}
		if !slices.Equal(cells(b), atFirst(l, draws)) {
			t.Errorf("%v: both arenas are one", l)
		}
		born(t, l, draws)
	}
}

// Any thread can work in memory at first: what its pen writes isn't seen up to its commit.
func TestPens(t *testing.T) {
	l := lay.Lay{Vertices: 4, Slots: 6, Threads: 3}
	for th := 1; th <= l.Threads; th++ {
		m, p := mem.Of(made(t, l, someDraws(7))), ptr.Pen{Thread: th}
		meant := func() (all []int) {
			for x := 1; x <= l.Nodes(); x++ {
				if what, _ := l.Node(x); what.Level == 0 {
					all = append(all, ptr.Means(m, l, l.Field(x, lay.Parent)))
				}
			}
			return all
		}
		none := make([]int, l.Vertices+2*l.Slots)
		if got := meant(); !slices.Equal(got, none) {
			t.Errorf("the thread %d: parents %v at first; want none", th, got)
		}
		hdt.Of(l, m, p).Insert(0, 2, 3)
		if got := meant(); !slices.Equal(got, none) {
			t.Errorf("the thread %d: parents %v ahead of the commit; want none", th, got)
		}
		p.Commit(m, l)
		if got := meant(); slices.Equal(got, none) {
			t.Errorf("the thread %d: no parents from the commit on", th)
		}
	}
}

// Edges come and go in memory at first, by the slots that are taken from it.
func TestGraph(t *testing.T) {
	for n := range 20 {
		l := lay.Lay{Vertices: 5, Slots: 10, Threads: 2}
		a := made(t, l, someDraws(n))
		g := hdt.Of(l, mem.Of(a), ptr.Pen{Thread: 2})
		for u := range l.Vertices {
			for v := range u {
				take := slot.NewTake(l)
				for !take.Step(a) {
				}
				s, ok := take.Slot()
				if tree := g.Insert(s, u, v); !ok || tree != (v == 0) {
					t.Fatalf("%d draws: Insert(%d, %d, %d): %v, %v", n, s, u, v, ok, tree)
				}
			}
		}
		if got := slot.List(mem.Of(a), l); len(got) != 0 {
			t.Errorf("%d draws: free slots %v; want none", n, got)
		}
		for _, s := range g.E.All() {
			g.Delete(s)
		}
		for u := range l.Vertices {
			for v := range u {
				if g.Joined(u, v) {
					t.Errorf("%d draws: %d and %d are joined without edges", n, u, v)
				}
			}
		}
	}
}

// The priorities that the draws tell are those by which trees are made.
func TestRoots(t *testing.T) {
	l := lay.Lay{Vertices: 4, Slots: 2, Threads: 1}
	for top := range l.Vertices {
		draws := make([]uint64, l.Nodes()+1)
		draws[l.Vertex(0, top)] = 1
		x := treap.Trees{L: l, M: mem.Of(made(t, l, draws)), Pen: ptr.Pen{Thread: 1}}
		root := 0
		for v := range l.Vertices {
			root = x.Merge(root, l.Vertex(0, v))
		}
		if root != l.Vertex(0, top) {
			t.Errorf("the root is the node %d; want %d", root, l.Vertex(0, top))
		}
	}
}
