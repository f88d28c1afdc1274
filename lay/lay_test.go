package lay

import (
	"math"
	"testing"
)

// rightLays tells lays that may be: of each number of vertices, with the edges of the other two, and what lies beside.
func rightLays() []Lay {
	var all []Lay
	for v := 1; v <= 16; v++ {
		for _, s := range []int{0, 1, 2, 3, 47, 48} {
			for _, th := range []int{1, 2, 7, 8} {
				all = append(all, Lay{Vertices: v, Slots: s, Threads: th})
			}
		}
	}
	return all
}

// wrongLays tells lays that may not be, for one of their numbers or for more.
func wrongLays() []Lay {
	far := []int{math.MinInt, -1 << 32, -49, -17, -9, -1, 1<<32 + 1, 1 << 62, math.MaxInt}
	var all []Lay
	for _, v := range append([]int{0, 1, 2, 16, 17}, far...) {
		for _, s := range append([]int{0, 1, 48, 49}, far...) {
			for _, th := range append([]int{0, 1, 8, 9}, far...) {
				if v < 1 || v > 16 || s < 0 || s > 48 || th < 1 || th > 8 {
					all = append(all, Lay{Vertices: v, Slots: s, Threads: th})
				}
			}
		}
	}
	return all
}

// powers tells how many levels there are, in the document's words.
func powers(vertices int) int {
	n := 0
	for p := 1; p <= vertices; p *= 2 {
		n++
	}
	return n
}

// outside tells numbers that aren't from low to high; some times a small number go around to others that are.
func outside(low, high int) []int {
	return []int{
		math.MinInt, math.MinInt + 1, -1 << 62, -1 << 61, -1 << 32, -high - 1, low - 2, low - 1,
		high + 1, high + 2, 2*high + 2, 1 << 32, 1 << 60, 1 << 61, 1 << 62, math.MaxInt,
	}
}

// some tells the first and the last number from low to high, if there are any.
func some(low, high int) []int {
	if low > high {
		return nil
	}
	return []int{low, high}
}

// misses calls what looks something up by two numbers, of which at least one is outside of what it may be: from low to
// high the first one, from 0 to most the second one.
func misses(low, high, most int, look func(x, y int)) {
	for _, x := range outside(low, high) {
		for _, y := range append(outside(0, most), some(0, most)...) {
			look(x, y)
		}
	}
	for _, x := range some(low, high) {
		for _, y := range outside(0, most) {
			look(x, y)
		}
	}
}

// P5.1: a lay is right just if each of its numbers is.
func TestRight(t *testing.T) {
	for v := -2; v <= 19; v++ {
		for s := -2; s <= 51; s++ {
			for th := -2; th <= 11; th++ {
				l := Lay{Vertices: v, Slots: s, Threads: th}
				want := v >= 1 && v <= 16 && s >= 0 && s <= 48 && th >= 1 && th <= 8
				if l.Right() != want {
					t.Errorf("%v.Right(): %t", l, !want)
				}
			}
		}
	}
	for _, l := range wrongLays() {
		if l.Right() {
			t.Errorf("%v.Right(): true", l)
		}
	}
}

// P5.1: how many levels, nodes and cells there are.
func TestCounts(t *testing.T) {
	for _, l := range rightLays() {
		levels := powers(l.Vertices)
		if l.Levels() != levels {
			t.Errorf("%v.Levels(): %d; want %d", l, l.Levels(), levels)
		}
		nodes := levels*l.Vertices + l.Slots*levels*2
		if l.Nodes() != nodes {
			t.Errorf("%v.Nodes(): %d; want %d", l, l.Nodes(), nodes)
		}
		pairs := 0
		for a := range l.Vertices {
			pairs += a
		}
		cells := l.Threads + 1 + 7*l.Slots + l.Vertices*levels + pairs + 7*nodes
		if l.Cells() != cells {
			t.Errorf("%v.Cells(): %d; want %d", l, l.Cells(), cells)
		}
	}
}

// P5.1: the nodes come in the document's order, and each one is told to be what it is.
func TestNodes(t *testing.T) {
	for _, l := range rightLays() {
		x := 0
		next := func(got int, want Thing) {
			x++
			if got != x {
				t.Errorf("%v: the node of %v: %d; want %d", l, want, got, x)
			}
			if what, ok := l.Node(x); what != want || !ok {
				t.Errorf("%v.Node(%d): %v, %t; want %v", l, x, what, ok, want)
			}
		}
		levels := powers(l.Vertices)
		for i := range levels {
			for v := range l.Vertices {
				next(l.Vertex(i, v), Thing{Level: i, Vertex: v})
			}
		}
		for s := range l.Slots {
			for i := range levels {
				next(l.Arc(s, i, 0), Thing{Arc: true, Slot: s, Level: i, Side: 0})
				next(l.Arc(s, i, 1), Thing{Arc: true, Slot: s, Level: i, Side: 1})
			}
		}
		if x != l.Nodes() {
			t.Errorf("%v: %d nodes; Nodes tells %d", l, x, l.Nodes())
		}
	}
}

// P5.1: what isn't there has no node, and a number without a node is nothing.
func TestNoNode(t *testing.T) {
	for _, l := range rightLays() {
		levels := powers(l.Vertices)
		misses(0, levels-1, l.Vertices-1, func(level, v int) {
			if x := l.Vertex(level, v); x != 0 {
				t.Errorf("%v.Vertex(%d, %d): %d; want 0", l, level, v, x)
			}
		})
		for _, side := range append(outside(0, 1), 0, 1) {
			misses(0, l.Slots-1, levels-1, func(slot, level int) {
				if x := l.Arc(slot, level, side); x != 0 {
					t.Errorf("%v.Arc(%d, %d, %d): %d; want 0", l, slot, level, side, x)
				}
			})
		}
		for _, slot := range some(0, l.Slots-1) {
			for _, level := range some(0, levels-1) {
				for _, side := range outside(0, 1) {
					if x := l.Arc(slot, level, side); x != 0 {
						t.Errorf("%v.Arc(%d, %d, %d): %d; want 0", l, slot, level, side, x)
					}
				}
			}
		}
		for _, x := range outside(1, l.Nodes()) {
			if what, ok := l.Node(x); ok || what != (Thing{}) {
				t.Errorf("%v.Node(%d): %v, %t; want none", l, x, what, ok)
			}
		}
	}
}

// P5.2: the fields are these numbers.
func TestFieldsAreNumbers(t *testing.T) {
	got := [7]int{Lock, Version, Parent, Left, Right, Priority, Sum}
	if got != [7]int{0, 1, 2, 3, 4, 5, 6} {
		t.Errorf("fields: %v", got)
	}
}

// P5.2: the cells come in the document's order.
func TestCells(t *testing.T) {
	for _, l := range rightLays() {
		i := 0
		next := func(got int, name string, args ...int) {
			if got != i {
				t.Errorf("%v.%s%v: %d; want %d", l, name, args, got, i)
			}
			i++
		}
		for th := 1; th <= l.Threads; th++ {
			next(l.State(th), "State", th)
		}
		next(l.Free(), "Free")
		for s := range l.Slots {
			next(l.NextFree(s), "NextFree", s)
			next(l.Ends(s), "Ends", s)
			next(l.Level(s), "Level", s)
			next(l.Next(s, 0), "Next", s, 0)
			next(l.Next(s, 1), "Next", s, 1)
			next(l.Prev(s, 0), "Prev", s, 0)
			next(l.Prev(s, 1), "Prev", s, 1)
		}
		for v := range l.Vertices {
			for level := range powers(l.Vertices) {
				next(l.Head(v, level), "Head", v, level)
			}
		}
		for a := range l.Vertices {
			for b := a + 1; b < l.Vertices; b++ {
				if l.Edge(b, a) != i {
					t.Errorf("%v.Edge(%d, %d): %d; want %d", l, b, a, l.Edge(b, a), i)
				}
				next(l.Edge(a, b), "Edge", a, b)
			}
		}
		for x := 1; x <= l.Nodes(); x++ {
			for f, field := range [7]int{Lock, Version, Parent, Left, Right, Priority, Sum} {
				next(l.Field(x, field), "Field", x, f)
			}
		}
		if i != l.Cells() {
			t.Errorf("%v: %d cells; Cells tells %d", l, i, l.Cells())
		}
	}
}

// P5.2: what isn't there has no cell.
func TestNoCell(t *testing.T) {
	for _, l := range rightLays() {
		none := func(got int, name string, args ...int) {
			if got != -1 {
				t.Errorf("%v.%s%v: %d; want -1", l, name, args, got)
			}
		}
		for _, th := range outside(1, l.Threads) {
			none(l.State(th), "State", th)
		}
		for _, s := range outside(0, l.Slots-1) {
			none(l.NextFree(s), "NextFree", s)
			none(l.Ends(s), "Ends", s)
			none(l.Level(s), "Level", s)
		}
		misses(0, l.Slots-1, 1, func(s, side int) {
			none(l.Next(s, side), "Next", s, side)
			none(l.Prev(s, side), "Prev", s, side)
		})
		misses(0, l.Vertices-1, powers(l.Vertices)-1, func(v, level int) {
			none(l.Head(v, level), "Head", v, level)
		})
		misses(0, l.Vertices-1, l.Vertices-1, func(a, b int) {
			none(l.Edge(a, b), "Edge", a, b)
		})
		for v := range l.Vertices {
			none(l.Edge(v, v), "Edge", v, v)
		}
		misses(1, l.Nodes(), 6, func(x, field int) {
			none(l.Field(x, field), "Field", x, field)
		})
	}
}

// tally counts how often each cell of a right lay is told (by Edge once for both orders), asked for what is there and
// for what lies just beside; outside is how often a number is told that is neither a cell's nor -1.
func tally(l Lay) (told []int, outside int) {
	told = make([]int, l.Cells())
	add := func(cell int) {
		switch {
		case 0 <= cell && cell < len(told):
			told[cell]++
		case cell != -1:
			outside++
		}
	}
	add(l.Free())
	for th := -2; th <= l.Threads+2; th++ {
		add(l.State(th))
	}
	for s := -2; s <= l.Slots+2; s++ {
		add(l.NextFree(s))
		add(l.Ends(s))
		add(l.Level(s))
		for side := -2; side <= 3; side++ {
			add(l.Next(s, side))
			add(l.Prev(s, side))
		}
	}
	for v := -2; v <= l.Vertices+2; v++ {
		for level := -2; level <= l.Levels()+2; level++ {
			add(l.Head(v, level))
		}
		for b := v; b <= l.Vertices+2; b++ {
			add(l.Edge(v, b))
		}
	}
	for x := -2; x <= l.Nodes()+2; x++ {
		for field := -2; field <= 9; field++ {
			add(l.Field(x, field))
		}
	}
	return told, outside
}

// P5.3: each cell is told by just one, Edge by both orders, and no other number is.
func TestEachCellOnce(t *testing.T) {
	for _, l := range rightLays() {
		told, outside := tally(l)
		for i, n := range told {
			if n != 1 {
				t.Errorf("%v: cell %d is told by %d", l, i, n)
			}
		}
		if outside != 0 {
			t.Errorf("%v: %d numbers that are no cells are told", l, outside)
		}
		for a := -2; a <= l.Vertices+2; a++ {
			for b := -2; b <= l.Vertices+2; b++ {
				if l.Edge(a, b) != l.Edge(b, a) {
					t.Errorf("%v: Edge(%d, %d): %d; Edge(%d, %d): %d", l, a, b, l.Edge(a, b), b, a, l.Edge(b, a))
				}
			}
		}
	}
}

// P1: of a lay that isn't right, too, all calls end, and none panics; the document leaves open what they tell: nothing is
// there.
func TestWrongLay(t *testing.T) {
	numbers := []int{math.MinInt, -1, 0, 1, 2, 49, 1 << 62, math.MaxInt}
	for _, l := range wrongLays() {
		is := func(want int, all ...int) {
			for i, got := range all {
				if got != want {
					t.Errorf("%v: call %d of these: %d; want %d", l, i, got, want)
				}
			}
		}
		is(0, l.Levels(), l.Nodes(), l.Cells())
		is(-1, l.Free())
		for _, x := range numbers {
			if what, ok := l.Node(x); ok || what != (Thing{}) {
				t.Errorf("%v.Node(%d): %v, %t; want none", l, x, what, ok)
			}
			is(-1, l.State(x), l.NextFree(x), l.Ends(x), l.Level(x))
			for _, y := range numbers {
				is(0, l.Vertex(x, y))
				is(-1, l.Field(x, y), l.Next(x, y), l.Prev(x, y), l.Head(x, y), l.Edge(x, y))
				for _, z := range numbers {
					is(0, l.Arc(x, y, z))
				}
			}
		}
	}
}

// The chapter's example, and where its parts begin.
func TestExample(t *testing.T) {
	l := Lay{Vertices: 2, Slots: 1, Threads: 1}
	if !l.Right() || l.Levels() != 2 || l.Nodes() != 8 || l.Cells() != 1+1+7+4+1+56 {
		t.Errorf("%v: %t, %d levels, %d nodes, %d cells", l, l.Right(), l.Levels(), l.Nodes(), l.Cells())
	}
	got := [6]int{l.State(1), l.Free(), l.NextFree(0), l.Head(0, 0), l.Edge(1, 0), l.Field(1, Lock)}
	if got != [6]int{0, 1, 2, 9, 13, 14} {
		t.Errorf("parts begin at %v", got)
	}
}
