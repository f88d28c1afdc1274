package treap

import (
	"math"
	"slices"
	"testing"

	"tombolo/api"
	"tombolo/cell"
	"tombolo/lay"
	"tombolo/mem"
	"tombolo/ptr"
)

// The pen of most tests, and one that wrote ahead of it.
var (
	pen   = ptr.Pen{Thread: 2, Tag: 7}
	other = ptr.Pen{Thread: 1, Tag: 3}
)

// A lay of few nodes: 4 vertices' ones of each of 3 levels, 6 arcs' ones of each of 3 slots; of the level 0 are the nodes
// 1 to 4, and 13, 14, 19, 20, 25, 26.
var small = lay.Lay{Vertices: 4, Slots: 3, Threads: 2}

// Numbers of no nodes of the lay small.
var noNodes = []int{math.MinInt, -1 << 32, -65536, -2, -1, 0, 31, 32, 65535, 1<<32 + 1, 1 << 62, math.MaxInt}

// Marks that there aren't.
var noMarks = []int{math.MinInt, -64, -2, -1, 2, 3, 4, 31, 32, 63, 64, math.MaxInt}

// Lays that may not be.
var wrongLays = []lay.Lay{
	{}, {Vertices: 4, Slots: 3}, {Vertices: 4, Slots: 3, Threads: 9}, {Vertices: 17, Slots: 3, Threads: 2},
	{Slots: 3, Threads: 2}, {Vertices: 4, Slots: -1, Threads: 2}, {Vertices: 4, Slots: 49, Threads: 2},
	{Vertices: math.MaxInt, Slots: math.MinInt, Threads: math.MaxInt},
}

// odd is a memory that isn't of this project's packages: cells in a map.
type odd map[int]uint64

func (o odd) Load(i int) uint64     { return o[i] }
func (o odd) Store(i int, v uint64) { o[i] = v }

// strict is a memory that panics where there is no cell.
type strict []uint64

func (m strict) Load(i int) uint64     { return m[i] }
func (m strict) Store(i int, v uint64) { m[i] = v }

// dice tell numbers that look like any.
type dice uint64

// upTo tells a number from 0 on and below n.
func (d *dice) upTo(n int) int {
	*d = *d*6364136223846793005 + 1442695040888963407
	return int(uint64(*d) >> 33 % uint64(n))
}

// rowOf tells n of the nodes, in any order.
func (d *dice) rowOf(n int, nodes []int) []int {
	row := slices.Clone(nodes)
	for i := range row {
		j := i + d.upTo(len(row)-i)
		row[i], row[j] = row[j], row[i]
	}
	return row[:n]
}

// tree is what a node's cells should tell.
type tree struct {
	parent, left, right int
	sum                 uint64
}

// bench is a memory of trees, and what it should have: the cells that trees have by rows, marks and priorities, all
// other ones as they are at first.
type bench struct {
	lay   lay.Lay
	arena *cell.Arena
	Trees
	priority map[int]uint64
	marks    map[int]uint64
	rows     [][]int
	first    []uint64
}

// levelZero tells whether a node is of the level 0, by the document.
func levelZero(l lay.Lay, x int) bool {
	what, _ := l.Node(x)
	return what.Level == 0
}

// all tells the nodes of a lay.
func all(l lay.Lay) []int {
	var row []int
	for x := 1; x <= l.Nodes(); x++ {
		row = append(row, x)
	}
	return row
}

// cells tells what an arena has; it looks at a copy, so that the counts stay.
func cells(a *cell.Arena) []uint64 {
	b := a.Copy()
	all := make([]uint64, b.Len())
	for i := range all {
		all[i], _ = b.Load(i)
	}
	return all
}

// strewn makes memory of a lay whose cells have all kinds of numbers; the pointer cells of the level 0 have words.
func strewn(t *testing.T, l lay.Lay, priority func(x int) uint64) *bench {
	t.Helper()
	a, e := cell.New(l.Cells())
	if e != api.OK {
		t.Fatalf("New(%d): %d", l.Cells(), e)
	}
	for i := range a.Len() {
		a.Store(i, uint64(i)<<40|uint64(3*i+1))
	}
	for th := range l.Threads {
		a.Store(l.State(th+1), 4)
	}
	b := &bench{lay: l, arena: a, priority: map[int]uint64{}, marks: map[int]uint64{}}
	b.Trees = Trees{L: l, M: mem.Of(a), Pen: pen}
	for _, x := range all(l) {
		if levelZero(l, x) {
			a.Store(l.Field(x, lay.Version), uint64(x)*65537)
			a.Store(l.Field(x, lay.Parent), uint64(x)*65537)
		}
		b.priority[x] = priority(x)
		a.Store(l.Field(x, lay.Priority), priority(x))
	}
	b.first = cells(a)
	return b
}

// isTop tells whether x is above y, by the document.
func (b *bench) isTop(x, y int) bool {
	if b.priority[x] == b.priority[y] {
		return x < y
	}
	return b.priority[x] > b.priority[y]
}

// grow tells a row's right tree: what its nodes' cells have is put into into.
func (b *bench) grow(row []int, parent int, into map[int]tree) (root int) {
	if len(row) == 0 {
		return 0
	}
	top, nodes, vertices, any := 0, uint64(0), uint64(0), uint64(0)
	for i, x := range row {
		if b.isTop(x, row[top]) {
			top = i
		}
		nodes++
		if what, _ := b.lay.Node(x); !what.Arc {
			vertices++
		}
		any |= b.marks[x]
	}
	root = row[top]
	into[root] = tree{
		parent: parent,
		left:   b.grow(row[:top], root, into),
		right:  b.grow(row[top+1:], root, into),
		sum:    nodes + vertices*(1<<16) + b.marks[root]*(1<<32) + any*(1<<34),
	}
	return root
}

// forest tells what all nodes' cells should tell, and the roots of the rows.
func (b *bench) forest() (map[int]tree, []int) {
	into := map[int]tree{}
	var roots []int
	for _, row := range b.rows {
		roots = append(roots, b.grow(row, 0, into))
	}
	return into, roots
}

// plant stores the right trees of rows, by no call of this package, and tells their roots. The Parent cells of the level
// 0 have words of a pen that wrote ahead.
func (b *bench) plant(rows ...[]int) []int {
	b.rows = rows
	into, roots := b.forest()
	for x, n := range into {
		b.arena.Store(b.lay.Field(x, lay.Left), uint64(n.left))
		b.arena.Store(b.lay.Field(x, lay.Right), uint64(n.right))
		b.arena.Store(b.lay.Field(x, lay.Sum), n.sum)
		c := b.lay.Field(x, lay.Parent)
		if levelZero(b.lay, x) {
			other.Write(mem.Of(b.arena), c, n.parent)
			continue
		}
		b.arena.Store(c, uint64(n.parent))
	}
	return roots
}

// holds fails the test, if memory hasn't just what it should: of the nodes of the rows their right trees, of all other
// cells what they had at first.
func (b *bench) holds(t *testing.T) {
	t.Helper()
	want := slices.Clone(b.first)
	got := cells(b.arena)
	into, _ := b.forest()
	for x, n := range into {
		want[b.lay.Field(x, lay.Left)] = uint64(n.left)
		want[b.lay.Field(x, lay.Right)] = uint64(n.right)
		want[b.lay.Field(x, lay.Sum)] = n.sum
		c := b.lay.Field(x, lay.Parent)
		want[c] = uint64(n.parent)
		if levelZero(b.lay, x) {
			if is := ptr.New(mem.Of(b.arena.Copy()), c); is != n.parent {
				t.Errorf("the parent of %d is %d; want %d", x, is, n.parent)
			}
			want[c] = got[c]
		}
	}
	for i := range want {
		if got[i] != want[i] {
			t.Errorf("the cell %d (%s) has %#x; want %#x", i, b.called(i), got[i], want[i])
		}
	}
	if t.Failed() {
		t.Fatalf("the rows are %v", b.rows)
	}
}

// called tells what a cell is, if it is a node's.
func (b *bench) called(i int) string {
	names := []string{"Lock", "Version", "Parent", "Left", "Right", "Priority", "Sum"}
	for x := 1; x <= b.lay.Nodes(); x++ {
		for f, name := range names {
			if b.lay.Field(x, f) == i {
				return name
			}
		}
	}
	return "no node's"
}

// stays fails the test, if what is done changes memory.
func (b *bench) stays(t *testing.T, do func()) {
	t.Helper()
	was := cells(b.arena)
	do()
	if !slices.Equal(cells(b.arena), was) {
		t.Fatalf("memory is changed; the rows are %v", b.rows)
	}
}

// answers fails the test, if what is told of the rows' nodes isn't as the rows tell.
func (b *bench) answers(t *testing.T) {
	t.Helper()
	into, roots := b.forest()
	for r, row := range b.rows {
		if got := b.List(roots[r]); !slices.Equal(got, row) {
			t.Fatalf("List(%d): %v; want %v", roots[r], got, row)
		}
		for i, x := range row {
			n := into[x]
			if b.Root(x) != roots[r] || b.Index(x) != i {
				t.Fatalf("%v: of %d the root %d, the index %d", row, x, b.Root(x), b.Index(x))
			}
			if b.Size(x) != int(n.sum%65536) || b.Vertices(x) != int(n.sum>>16%65536) {
				t.Fatalf("%v: of %d the size %d, the vertices %d", row, x, b.Size(x), b.Vertices(x))
			}
			for mark := range 2 {
				if b.Marked(x, mark) != (b.marks[x]>>mark&1 == 1) {
					t.Fatalf("%v: Marked(%d, %d): %t", row, x, mark, b.Marked(x, mark))
				}
			}
		}
		for mark := range 2 {
			if got, want := b.First(roots[r], mark), b.firstMarked(row, mark); got != want {
				t.Fatalf("%v: First(%d, %d): %d; want %d", row, roots[r], mark, got, want)
			}
		}
	}
}

// firstMarked tells the first node of a row that has a mark.
func (b *bench) firstMarked(row []int, mark int) int {
	for _, x := range row {
		if b.marks[x]>>mark&1 == 1 {
			return x
		}
	}
	return 0
}

// Kinds of priorities: all the same; rising, and falling; few, so that many are the same; such that are unlike as numbers
// with a sign, or in few of their bits.
func kinds() []func(x int) uint64 {
	ends := []uint64{0, 1, 1<<31 - 1, 1 << 31, 1 << 32, 1<<32 | 1, 1<<63 - 1, 1 << 63, math.MaxUint64 - 1, math.MaxUint64}
	return []func(int) uint64{
		func(int) uint64 { return 0 },
		func(int) uint64 { return math.MaxUint64 },
		func(x int) uint64 { return uint64(x) },
		func(x int) uint64 { return uint64(1000 - x) },
		func(x int) uint64 { return uint64(x*7%3) << 33 },
		func(x int) uint64 { return ends[x*7%len(ends)] },
		func(x int) uint64 { return uint64(x) * 0x9e3779b97f4a7c15 },
	}
}

// Rows of the lay small: of one level, of vertices alone, of arcs alone, and of all, up and down, and in some order.
func smallRows() [][]int {
	d := dice(5)
	down := all(small)
	slices.Reverse(down)
	return [][]int{
		{1}, {30}, {13}, {5}, {2, 1}, {1, 2}, {26, 4}, {4, 13, 1, 14}, {1, 2, 3, 4}, {4, 3, 2, 1}, {26, 13, 20, 25, 14, 19},
		{5, 15, 8, 21, 7, 16, 22}, {17, 18, 23, 24, 29, 30}, {13, 4, 26, 1, 20, 3, 19, 2, 14, 25}, all(small), down,
		d.rowOf(30, all(small)), d.rowOf(30, all(small)), d.rowOf(17, all(small)),
	}
}

// P9.1: a node alone has no children, no parent, no marks, and counts itself; its other fields, and other nodes, stay.
func TestAlone(t *testing.T) {
	for _, l := range []lay.Lay{small, {Vertices: 1, Threads: 2}, {Vertices: 2, Slots: 1, Threads: 8}, {Vertices: 16, Slots: 48, Threads: 2}} {
		b := strewn(t, l, func(x int) uint64 { return uint64(x) << 50 })
		for _, x := range all(l) {
			c := l.Field(x, lay.Parent)
			b.Alone(x)
			b.rows = append(b.rows, []int{x})
			got, _ := b.arena.Load(c)
			// The New of the word that there was is x; the pen's thread is 2, its tag 7.
			if want := uint64(7)<<40 | 2<<32 | uint64(x)<<16; levelZero(l, x) && got != want {
				t.Errorf("the parent of %d has %#x; want %#x", x, got, want)
			}
			if x <= 3 || x > l.Nodes()-3 {
				b.holds(t)
			}
		}
		b.holds(t)
		b.answers(t)
	}
}

// P9.1: a node that has marks, and all that a tree has, is alone without them.
func TestAloneOfTree(t *testing.T) {
	for _, row := range smallRows() {
		b := strewn(t, small, kinds()[6])
		for _, x := range row {
			b.marks[x] = 3
		}
		b.plant(row)
		b.rows = nil
		for _, x := range row {
			b.Alone(x)
			b.marks[x] = 0
			b.rows = append(b.rows, []int{x})
		}
		b.holds(t)
		b.answers(t)
	}
}

// P9.1: what is told of right trees, whoever made them; memory stays.
func TestAnswers(t *testing.T) {
	for _, priority := range kinds() {
		b := strewn(t, small, priority)
		for i, row := range smallRows() {
			for j, x := range row {
				b.marks[x] = uint64((i + j*j) % 4)
			}
			b.plant(row)
			b.stays(t, func() { b.answers(t) })
			b.plant(row[:len(row)/2], row[len(row)/2:])
			b.stays(t, func() { b.answers(t) })
		}
	}
}

// P9.1: of no node, as of an empty tree, 0 is told.
func TestAnswersOfNone(t *testing.T) {
	for _, l := range append([]lay.Lay{small}, wrongLays...) {
		b := strewn(t, small, kinds()[2])
		b.plant(all(small))
		b.L = l
		none := noNodes
		if l != small {
			none = append(all(small), none...)
		}
		for _, x := range none {
			b.stays(t, func() {
				if b.Root(x) != 0 || b.Size(x) != 0 || b.Vertices(x) != 0 || b.Index(x) != 0 || len(b.List(x)) != 0 {
					t.Errorf("%d: %d, %d, %d, %d, %v", x, b.Root(x), b.Size(x), b.Vertices(x), b.Index(x), b.List(x))
				}
				if b.Marked(x, 0) || b.Marked(x, 1) || b.First(x, 0) != 0 || b.First(x, 1) != 0 {
					t.Errorf("%d has a mark", x)
				}
				b.Alone(x)
				b.Mark(x, 0, true)
				b.Mark(x, 1, false)
			})
		}
	}
}

// P9.1: what is told is new memory.
func TestListIsNew(t *testing.T) {
	b := strewn(t, small, kinds()[6])
	row := []int{3, 1, 20, 7, 30}
	root := b.plant(row)[0]
	x, y := b.List(root), b.List(root)
	for i := range x {
		x[i] = 99
	}
	x = append(x, 99)
	if !slices.Equal(y, row) || !slices.Equal(b.List(root), row) || len(x) != 6 {
		t.Errorf("List: %v; want %v", y, row)
	}
}

// orders tells all orders of some nodes.
func orders(nodes []int) [][]int {
	if len(nodes) == 0 {
		return [][]int{nil}
	}
	var rows [][]int
	for i, x := range nodes {
		for _, row := range orders(slices.Concat(nodes[:i], nodes[i+1:])) {
			rows = append(rows, append([]int{x}, row...))
		}
	}
	return rows
}

// does lets trees over a trace do what is told, and then does the trace's row in memory: so the cells that it tells are
// all that were stored.
func (b *bench) does(t *testing.T, do func(Trees)) (stored []int) {
	t.Helper()
	x := mem.Over(b.arena)
	b.stays(t, func() { do(Trees{L: b.L, M: x, Pen: b.Pen}) })
	if _, ok := mem.Replay(mem.Of(b.arena), x.Row()); !ok {
		t.Errorf("a load told what it shouldn't")
	}
	return x.Changed()
}

// merges fails the test, if Merge of two rows' trees isn't the right tree of both, or doesn't store its root's Parent.
func (b *bench) merges(t *testing.T, first, second []int) {
	t.Helper()
	roots := b.plant(first, second)
	root := 0
	stored := b.does(t, func(x Trees) { root = x.Merge(roots[0], roots[1]) })
	b.rows = [][]int{slices.Concat(first, second)}
	b.cameTo(t, stored, root)
}

// splits fails the test, if Split of a row's tree isn't the right trees of the first so many of its nodes, and of the
// others, or doesn't store their roots' Parents.
func (b *bench) splits(t *testing.T, row []int, k, first int) {
	t.Helper()
	root := b.plant(row)[0]
	var roots [2]int
	stored := b.does(t, func(x Trees) { roots[0], roots[1] = x.Split(root, k) })
	b.rows = [][]int{row[:first], row[first:]}
	b.cameTo(t, stored, roots[:]...)
}

// cameTo fails the test, if the roots aren't those of the rows, memory isn't as it should be, or a root's Parent wasn't
// stored.
func (b *bench) cameTo(t *testing.T, stored []int, roots ...int) {
	t.Helper()
	if _, want := b.forest(); !slices.Equal(roots, want) {
		t.Fatalf("%v: the roots %v; want %v", b.rows, roots, want)
	}
	b.holds(t)
	for _, x := range roots {
		if x != 0 && !slices.Contains(stored, b.lay.Field(x, lay.Parent)) {
			t.Fatalf("%v: the parent of the root %d wasn't stored", b.rows, x)
		}
	}
}

// P9.2: rows of up to four nodes, in all orders, of all priorities of three, are merged and split at all places.
func TestAllSmallRows(t *testing.T) {
	l := lay.Lay{Vertices: 2, Slots: 1, Threads: 2}
	nodes := []int{1, 4, 5, 8} // a vertex and an arc of the level 0, and of the level 1
	for n, codes := range []int{1, 3, 9, 27, 81} {
		for code := range codes {
			b := strewn(t, l, func(x int) uint64 {
				powers := [...]int{1, 3, 9, 27, 81}
				return [...]uint64{0, 1 << 40, 1 << 63}[code/powers[slices.Index(nodes, x)+1]%3]
			})
			for i, row := range orders(nodes[:n]) {
				for k := range n + 1 {
					b.marks[nodes[k%4]] = uint64(i+k) % 4
					b.merges(t, row[:k], row[k:])
					b.splits(t, row, k, k)
				}
			}
		}
	}
}

// P9.2: rows of all kinds are merged and split at all places.
func TestRows(t *testing.T) {
	for _, priority := range kinds() {
		for i, row := range smallRows() {
			b := strewn(t, small, priority)
			for j, x := range row {
				b.marks[x] = uint64((i + j*j) % 4)
			}
			for k := range len(row) + 1 {
				b.merges(t, row[:k], row[k:])
				b.splits(t, row, k, k)
			}
		}
	}
}

// P9.2: a split at a place that isn't there is one at the nearest that is.
func TestSplitOutside(t *testing.T) {
	for _, priority := range kinds() {
		for _, row := range smallRows() {
			b := strewn(t, small, priority)
			for _, k := range []int{math.MinInt, math.MinInt + 1, -1 << 32, -65536, -2, -1} {
				b.splits(t, row, k, 0)
			}
			for _, k := range []int{1, 2, 65535, 65536, 1 << 32, math.MaxInt - 100} {
				b.splits(t, row, len(row)+k, len(row))
			}
			b.splits(t, row, math.MaxInt, len(row))
		}
	}
}

// P9.2: of trees of one node each, and empty ones, too, the roots' Parents are stored, those of the level 0 by the pen.
func TestRootsAreStored(t *testing.T) {
	for _, x := range all(small) {
		b := strewn(t, small, kinds()[0])
		c := small.Field(x, lay.Parent)
		b.plant([]int{x})
		for i, do := range []func(Trees){
			func(y Trees) { y.Merge(x, 0) }, func(y Trees) { y.Merge(0, x) }, func(y Trees) { y.Split(x, 0) },
			func(y Trees) { y.Split(x, 1) }, func(y Trees) { y.Split(x, -1) }, func(y Trees) { y.Split(x, 2) },
		} {
			b.Pen = ptr.Pen{Thread: 2, Tag: i}
			if !slices.Contains(b.does(t, do), c) {
				t.Errorf("%d, call %d: the parent wasn't stored", x, i)
			}
			want := uint64(0)
			if levelZero(small, x) {
				want = uint64(i)<<40 | 2<<32
			}
			if v, _ := b.arena.Load(c); v != want {
				t.Errorf("%d, call %d: the parent has %#x; want %#x", x, i, v, want)
			}
			b.holds(t)
		}
	}
}

// P9.2: empty trees are merged, and split, to empty ones.
func TestEmpty(t *testing.T) {
	b := strewn(t, small, kinds()[2])
	b.plant([]int{3, 2}, []int{13})
	b.stays(t, func() {
		if root := b.Merge(0, 0); root != 0 {
			t.Errorf("Merge: %d", root)
		}
		for _, k := range []int{math.MinInt, -1, 0, 1, math.MaxInt} {
			if x, y := b.Split(0, k); x != 0 || y != 0 {
				t.Errorf("Split(0, %d): %d, %d", k, x, y)
			}
		}
	})
}

// P9.2: what isn't a node is as an empty tree; in lays that may not be nothing is a node.
func TestTreesOfNone(t *testing.T) {
	b := strewn(t, small, kinds()[2])
	root := b.plant([]int{3, 2, 26})[0]
	for _, x := range noNodes {
		if b.Merge(x, root) != root || b.Merge(root, x) != root {
			t.Errorf("Merge of %d", x)
		}
		b.stays(t, func() {
			for _, y := range noNodes {
				if got := b.Merge(x, y); got != 0 {
					t.Errorf("Merge(%d, %d): %d", x, y, got)
				}
			}
			if p, q := b.Split(x, 1); p != 0 || q != 0 {
				t.Errorf("Split(%d, 1): %d, %d", x, p, q)
			}
		})
	}
	b.holds(t)
	for _, l := range wrongLays {
		b.L = l
		b.stays(t, func() {
			p, q := b.Split(root, 1)
			if p != 0 || q != 0 || b.Merge(root, root) != 0 || b.Merge(0, root) != 0 {
				t.Errorf("%v: Split: %d, %d", l, p, q)
			}
		})
	}
}

// P9.3: each node of a row has each mark, and has it no more, the other ones keep theirs, and so does the node the other
// mark; who has one, or hasn't one, can be told so again.
func TestMark(t *testing.T) {
	for _, priority := range kinds() {
		for i, row := range smallRows() {
			b := strewn(t, small, priority)
			for j, x := range row {
				b.marks[x] = uint64((i + j*j) % 4)
			}
			b.plant(row)
			for j, x := range row {
				for k, on := range []bool{true, true, false, false, true, false} {
					b.marksOne(t, x, (k/4+j)%2, on)
				}
				b.marksOne(t, x, i%2, j%3 != 0)
			}
			b.answers(t)
		}
	}
}

// marksOne fails the test, if Mark, as told, doesn't do just what it should.
func (b *bench) marksOne(t *testing.T, x, mark int, on bool) {
	t.Helper()
	b.marks[x] &^= 1 << mark
	if on {
		b.marks[x] |= 1 << mark
	}
	b.does(t, func(y Trees) { y.Mark(x, mark, on) })
	b.holds(t)
	_, roots := b.forest()
	if b.Marked(x, mark) != on || b.First(roots[0], mark) != b.firstMarked(b.rows[0], mark) {
		t.Fatalf("%v: Marked(%d, %d): %t; First: %d", b.rows, x, mark, b.Marked(x, mark), b.First(roots[0], mark))
	}
}

// P9.3: of all marks that four nodes can have, the first node that has one is told, whatever the tree.
func TestFirst(t *testing.T) {
	for _, row := range orders([]int{2, 4, 13, 30}) {
		for _, priority := range kinds() {
			b := strewn(t, small, priority)
			for code := range 256 {
				for i, x := range row {
					b.marks[x] = uint64(code >> (2 * i) % 4)
				}
				root := b.plant(row)[0]
				for mark := range 2 {
					if got, want := b.First(root, mark), b.firstMarked(row, mark); got != want {
						t.Fatalf("%v, %v: First(%d, %d): %d; want %d", row, b.marks, root, mark, got, want)
					}
				}
			}
		}
	}
}

// P9.3: there are two marks; what isn't one of them nobody has, and nobody gets or loses.
func TestNoMarks(t *testing.T) {
	if Marks != 2 {
		t.Errorf("Marks: %d", Marks)
	}
	b := strewn(t, small, kinds()[6])
	row := []int{3, 1, 20, 7, 30}
	for i, x := range row {
		b.marks[x] = uint64(i % 4)
	}
	root := b.plant(row)[0]
	for _, mark := range noMarks {
		for _, x := range row {
			for _, on := range []bool{true, false} {
				if stored := b.does(t, func(y Trees) { y.Mark(x, mark, on) }); len(stored) > 0 {
					t.Errorf("Mark(%d, %d, %t) stored %v", x, mark, on, stored)
				}
			}
			if b.Marked(x, mark) {
				t.Errorf("Marked(%d, %d)", x, mark)
			}
		}
		if got := b.First(root, mark); got != 0 {
			t.Errorf("First(%d, %d): %d", root, mark, got)
		}
	}
}

// P9.1: the document's example.
func TestExample(t *testing.T) {
	b := strewn(t, small, kinds()[0])
	for x := 1; x <= 3; x++ {
		b.Alone(x)
	}
	if root := b.Merge(b.Merge(1, 2), 3); root != 1 {
		t.Errorf("the root is %d", root)
	}
	b.rows = [][]int{{1, 2, 3}}
	b.holds(t)
	for x, want := range []uint64{1: 2, 2: 3, 3: 0} {
		if right, _ := b.arena.Load(small.Field(x, lay.Right)); x != 0 && right != want {
			t.Errorf("the right one of %d is %d; want %d", x, right, want)
		}
	}
}
