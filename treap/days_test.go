package treap

import (
	"math"
	"slices"
	"testing"

	"tombolo/api"
	"tombolo/lay"
	"tombolo/mem"
	"tombolo/ptr"
)

// day lets trees be merged, split and marked, and looks at memory behind each deed, or each so many of them.
func (b *bench) day(t *testing.T, d *dice, deeds, look int) {
	t.Helper()
	for i := range deeds {
		switch d.upTo(4) {
		case 0:
			b.splitsOne(d)
		case 1, 2:
			b.mergesTwo(d)
		case 3:
			x := b.rows[0][d.upTo(len(b.rows[0]))]
			mark, on := d.upTo(2), d.upTo(3) > 0
			b.Mark(x, mark, on)
			b.marks[x] &^= 1 << mark
			if on {
				b.marks[x] |= 1 << mark
			}
		}
		if i%look == 0 {
			b.holds(t)
		}
	}
	b.holds(t)
}

// turnTo lets any one of the rows be the last one, and tells the root of its tree.
func (b *bench) turnTo(d *dice) int {
	i, last := d.upTo(len(b.rows)), len(b.rows)-1
	b.rows[i], b.rows[last] = b.rows[last], b.rows[i]
	return b.Root(b.rows[last][d.upTo(len(b.rows[last]))])
}

// splitsOne splits a row's tree.
func (b *bench) splitsOne(d *dice) {
	root, last := b.turnTo(d), len(b.rows)-1
	row := b.rows[last]
	k := d.upTo(len(row) + 1)
	b.rows = b.rows[:last]
	for _, part := range [][]int{row[:k], row[k:]} {
		if len(part) > 0 {
			b.rows = append(b.rows, slices.Clone(part))
		}
	}
	b.Split(root, k)
}

// mergesTwo merges two rows' trees, if there are two.
func (b *bench) mergesTwo(d *dice) {
	if len(b.rows) < 2 {
		return
	}
	root, last := b.turnTo(d), len(b.rows)-1
	row := b.rows[last]
	b.rows = b.rows[:last]
	before := b.turnTo(d)
	b.Merge(before, root)
	b.rows[last-1] = slices.Concat(b.rows[last-1], row)
}

// born makes memory of a lay whose nodes are alone.
func born(t *testing.T, l lay.Lay, priority func(x int) uint64) *bench {
	t.Helper()
	b := strewn(t, l, priority)
	for _, x := range all(l) {
		b.Alone(x)
		b.rows = append(b.rows, []int{x})
	}
	return b
}

// P9.1, P9.2, P9.3: whatever is done, all trees are right behind each deed.
func TestDays(t *testing.T) {
	for i, priority := range kinds() {
		d := dice(i)
		b := born(t, small, priority)
		for range 5 {
			b.day(t, &d, 80, 1)
			b.answers(t)
		}
	}
}

// P9.1, P9.2, P9.3: likewise in the greatest lay, of 560 nodes.
func TestGreatDays(t *testing.T) {
	for i, priority := range kinds() {
		d := dice(100 + i)
		b := born(t, lay.Lay{Vertices: api.MaxVertices, Slots: api.MaxSlots, Threads: 2}, priority)
		b.day(t, &d, 500, 20)
		b.answers(t)
	}
}

// P9.1, P9.2, P9.3: one tree has all nodes of the greatest lay, one below the other.
func TestGreatestTree(t *testing.T) {
	l := lay.Lay{Vertices: api.MaxVertices, Slots: api.MaxSlots, Threads: 8}
	for _, down := range []bool{false, true} {
		b := strewn(t, l, func(int) uint64 { return 7 })
		row := all(l)
		if down {
			slices.Reverse(row)
		}
		for _, x := range []int{1, 2, 559, 560} {
			b.marks[x] = uint64(x%3 + 1)
		}
		for _, k := range []int{0, 1, 280, 559, 560} {
			b.merges(t, row[:k], row[k:])
			b.splits(t, row, k, k)
		}
		b.plant(row)
		for _, x := range []int{1, 280, 560} {
			b.marksOne(t, x, 0, true)
			b.marksOne(t, x, 1, false)
		}
		b.answers(t)
	}
}

// meant tells what the Parent cells of the level 0 mean.
func (b *bench) meant() map[int]int {
	m := mem.Of(b.arena.Copy())
	parents := map[int]int{}
	for _, x := range all(b.lay) {
		if levelZero(b.lay, x) {
			parents[x] = ptr.Means(m, b.lay, b.lay.Field(x, lay.Parent))
		}
	}
	return parents
}

// sees fails the test, if the Parent cells of the level 0 don't mean just this.
func (b *bench) sees(t *testing.T, want map[int]int) {
	t.Helper()
	got := b.meant()
	for x, parent := range want {
		if got[x] != parent {
			t.Fatalf("the parent of %d is seen as %d; want %d", x, got[x], parent)
		}
	}
}

// P9.1, P9.2, with layer 8: what is done at the level 0 is seen from the pen's commit on, and all at once; the trees
// themselves are reckoned with as they are.
func TestPens(t *testing.T) {
	d := dice(17)
	b := born(t, small, kinds()[4])
	m := mem.Of(b.arena)
	b.commit(m)
	for i := range 60 {
		if i%3 > 0 {
			b.clean(m)
		}
		b.Pen = ptr.Pen{Thread: 1 + i%2, Tag: 10 + i}
		b.Pen.Begin(m, b.lay)
		b.first[b.lay.State(b.Pen.Thread)] = uint64(20 + 2*i)
		was := b.meant()
		for range 6 {
			b.day(t, &d, 1, 1)
			b.sees(t, was)
		}
		b.commit(m)
		into, _ := b.forest()
		for x := range was {
			was[x] = into[x].parent
		}
		b.sees(t, was)
		b.answers(t)
	}
}

// commit lets what the pen wrote be seen.
func (b *bench) commit(m mem.Mem) {
	b.Pen.Commit(m, b.lay)
	b.first[b.lay.State(b.Pen.Thread)] = uint64(2*b.Pen.Tag + 1)
}

// clean cleans all Parent cells of the level 0.
func (b *bench) clean(m mem.Mem) {
	for x := range b.meant() {
		b.Pen.Clean(m, b.lay.Field(x, lay.Parent))
	}
}

// deeds does some of all in trees, of nodes that are alone, and tells all answers.
func deeds(x Trees) []int {
	var told []int
	a := x.Merge(x.Merge(3, 13), x.Merge(1, x.Merge(26, 7)))
	b := x.Merge(x.Merge(2, 30), 4)
	x.Mark(26, 1, true)
	x.Mark(30, 0, true)
	c, d := x.Split(a, 2)
	root := x.Merge(d, x.Merge(b, c))
	told = append(told, a, b, c, d, root)
	x.Mark(30, 1, true)
	x.Mark(26, 1, false)
	x.Alone(5)
	for _, y := range x.List(root) {
		told = append(told, y, x.Index(y), x.Root(y), x.Size(y), x.Vertices(y))
	}
	return append(told, x.First(root, 0), x.First(root, 1), x.First(root, 2))
}

// P9.1, P9.2, P9.3: the same is done, and told, in any kind of memory; a trace leaves its arena as it was.
func TestMemories(t *testing.T) {
	for _, priority := range kinds() {
		b := born(t, small, priority)
		was := cells(b.arena)
		kept, only := odd{}, strict(slices.Clone(was))
		for i, v := range was {
			kept[i] = v
		}
		trace := mem.Over(b.arena)
		plain := b.arena.Copy()
		want := deeds(Trees{L: small, M: mem.Of(plain), Pen: pen})
		for _, m := range []mem.Mem{kept, only, trace} {
			if got := deeds(Trees{L: small, M: m, Pen: pen}); !slices.Equal(got, want) {
				t.Errorf("told %v; want %v", got, want)
			}
		}
		if !slices.Equal(cells(b.arena), was) || len(kept) != len(was) {
			t.Errorf("the arena below a trace is changed, or a cell is stored that isn't there")
		}
		for i, v := range cells(plain) {
			if kept[i] != v || only[i] != v || trace.Load(i) != v {
				t.Errorf("cell %d has %#x, %#x, %#x; want %#x", i, kept[i], only[i], trace.Load(i), v)
			}
		}
	}
}

// P1: in memory that isn't right, with numbers of no nodes and with ways that go around, all calls end, and none panics,
// in memory that does where there is no cell; also of nodes that aren't right ones for a call.
func TestWrongMemory(t *testing.T) {
	d := dice(23)
	numbers := []uint64{0, 0, 1, 2, 3, 13, 30, 31, 65535, 65536, 1 << 32, 1 << 63, math.MaxUint64, 1<<32 + 2, 3<<32 | 5}
	for i := range 400 {
		m := make(strict, small.Cells())
		for c := range m {
			if v := d.upTo(3 * len(numbers)); v < len(numbers) {
				m[c] = numbers[v]
			} else {
				m[c] = uint64(d.upTo(small.Nodes()+1)) * [...]uint64{1, 65537}[i%2]
			}
		}
		x := Trees{L: small, M: m, Pen: pen}
		for range 10 {
			p, q := d.upTo(small.Nodes()+1), d.upTo(small.Nodes()+1)
			calls(x, p, q, d.upTo(40)-2)
		}
	}
}

// calls calls all that there is.
func calls(x Trees, p, q, k int) {
	x.Root(p)
	x.Size(p)
	x.Vertices(p)
	x.Index(p)
	x.List(p)
	x.First(p, k)
	x.First(p, 1)
	x.Mark(p, k, true)
	x.Mark(p, 0, k > 3)
	x.Marked(p, k)
	x.Split(p, k)
	x.Merge(p, q)
	x.Merge(p, p)
	if k == 0 {
		x.Alone(p)
	}
}

// P1: each node the child, and the parent, of itself, or of the next one: all ways go around.
func TestRound(t *testing.T) {
	for step := range 3 {
		for _, word := range []uint64{1, 65537} {
			m := make(strict, small.Cells())
			for _, x := range all(small) {
				y := uint64((x+step-1)%small.Nodes() + 1)
				m[small.Field(x, lay.Left)], m[small.Field(x, lay.Right)] = y, y
				m[small.Field(x, lay.Parent)] = y * word
				m[small.Field(x, lay.Sum)] = math.MaxUint64
			}
			for k := -1; k < 4; k++ {
				for _, x := range []int{1, 5, 13, 30} {
					calls(Trees{L: small, M: slices.Clone(m), Pen: pen}, x, 31-x, k)
				}
			}
		}
	}
}
