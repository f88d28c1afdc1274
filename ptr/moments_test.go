package ptr

import (
	"slices"
	"testing"

	"tombolo/cell"
	"tombolo/lay"
	"tombolo/mem"
)

// What a writer does at a moment.
const (
	begin = iota
	write
	commit
	clean
	end
)

// deed is what a pen does at a moment; cells of the tests are called by their places in memory.cells.
type deed struct {
	what   int
	pen    Pen
	cell   int
	number int
}

// day tells what a pen does from its Begin to its End: it writes numbers into cells, and cleans them in that order.
func day(p Pen, writes ...[2]int) []deed {
	row := []deed{{what: begin, pen: p}}
	var wrote []int
	for _, w := range writes {
		row = append(row, deed{what: write, pen: p, cell: w[0], number: w[1]})
		if !slices.Contains(wrote, w[0]) {
			wrote = append(wrote, w[0])
		}
	}
	row = append(row, deed{what: commit, pen: p})
	for _, c := range wrote {
		row = append(row, deed{what: clean, pen: p, cell: c})
	}
	return append(row, deed{what: end, pen: p})
}

// moment is memory at a moment, and what each cell should mean then.
type moment struct {
	arena *cell.Arena
	means []int
	deed  deed // what comes then
}

// memory is what pens write into, and what each cell should mean: what it meant ahead of its pen's Begin, or, from the
// pen's commit on, what was written last.
type memory struct {
	lay     lay.Lay
	arena   *cell.Arena
	cells   []int
	means   []int
	written []int
	writer  []Pen // who wrote into the cell and didn't commit it yet
	past    []moment
}

// begun tells memory whose pointer cells have plain words of the numbers 100, 101 and so on.
func begun(t *testing.T, n int) *memory {
	t.Helper()
	l := lay.Lay{Vertices: 4, Slots: 2, Threads: 3}
	x := &memory{lay: l, arena: filled(t, l), writer: make([]Pen, n)}
	for i := range n {
		c := l.Field(1+i/2, lay.Version+i%2)
		x.arena.Store(c, uint64(100+i)*65537)
		x.cells, x.means, x.written = append(x.cells, c), append(x.means, 100+i), append(x.written, 100+i)
	}
	return x
}

// do lets a moment pass, and looks whether each cell means what it should then.
func (x *memory) do(t *testing.T, d deed) {
	t.Helper()
	x.past = append(x.past, moment{arena: x.arena.Copy(), means: slices.Clone(x.means), deed: d})
	m := mem.Of(x.arena)
	switch d.what {
	case begin:
		d.pen.Begin(m, x.lay)
	case write:
		d.pen.Write(m, x.cells[d.cell], d.number)
		x.written[d.cell], x.writer[d.cell] = d.number, d.pen
	case commit:
		d.pen.Commit(m, x.lay)
		for c, p := range x.writer {
			if p == d.pen {
				x.means[c], x.writer[c] = x.written[c], Pen{}
			}
		}
	case clean:
		d.pen.Clean(m, x.cells[d.cell])
	case end:
		d.pen.End(m, x.lay)
	}
	x.check(t)
}

// check looks whether each cell means, and has as New, what it should.
func (x *memory) check(t *testing.T) {
	t.Helper()
	m := mem.Of(x.arena)
	for i, c := range x.cells {
		if got := Means(m, x.lay, c); got != x.means[i] {
			t.Errorf("moment %d, cell %d means %d; want %d", len(x.past), i, got, x.means[i])
		}
		if got := New(m, c); got != x.written[i] {
			t.Errorf("moment %d, cell %d has %d as New; want %d", len(x.past), i, got, x.written[i])
		}
	}
}

// lookAll looks at each cell, with the first step at each moment, and the second one at each that comes then.
func (x *memory) lookAll(t *testing.T) {
	t.Helper()
	all := append(slices.Clone(x.past), moment{arena: x.arena, means: x.means})
	for c := range x.cells {
		for i, first := range all {
			wrote, right := false, []int{first.means[c]}
			for j := i; j < len(all); j++ {
				right = append(right, all[j].means[c])
				if wrote {
					right = x.numbers(c, i)
				}
				k := NewLook(x.lay, x.cells[c])
				k.Step(first.arena.Copy())
				if !k.Step(all[j].arena.Copy()) || !slices.Contains(right, k.Value()) {
					t.Errorf("a look at cell %d, at moments %d and %d: %d; want one of %v", c, i, j, k.Value(), right)
				}
				wrote = wrote || all[j].deed.what == write && all[j].deed.cell == c
			}
		}
	}
}

// numbers tells what was ever in a cell up to a moment.
func (x *memory) numbers(c, at int) []int {
	all := []int{100 + c}
	for _, m := range x.past[:at] {
		if m.deed.what == write && m.deed.cell == c {
			all = append(all, m.deed.number)
		}
	}
	return all
}

// plain fails the test, if a cell has no plain word.
func (x *memory) plain(t *testing.T) {
	t.Helper()
	for i, c := range x.cells {
		if v, _ := x.arena.Load(c); v != uint64(x.written[i])*65537 {
			t.Errorf("cell %d has %#x at the end; want the plain word of %d", i, v, x.written[i])
		}
	}
}

// P8.3: a pen's day: up to its commit nothing is seen, from there on all.
func TestDay(t *testing.T) {
	x := begun(t, 4)
	for _, d := range day(Pen{Thread: 2, Tag: 4}, [2]int{0, 7}, [2]int{1, 8}, [2]int{0, 9}, [2]int{2, 102}, [2]int{1, 101}) {
		x.do(t, d)
	}
	if !slices.Equal(x.means, []int{9, 101, 102, 103}) {
		t.Errorf("at the end: %v", x.means)
	}
	x.lookAll(t)
	x.plain(t)
}

// P8.3: days of one thread, each by the tag that the one ahead ended with, from the least tag on, and up to the greatest.
func TestDays(t *testing.T) {
	for _, tag := range []int{0, 1, 1<<16 - 2, 1<<24 - 4} {
		x := begun(t, 2)
		Pen{Thread: 1, Tag: tag}.Begin(mem.Of(x.arena), x.lay)
		for i := range 3 {
			p := Pen{Thread: 1, Tag: tag + i}
			for _, d := range day(p, [2]int{i % 2, 10 + i}, [2]int{1, 20 + i}) {
				x.do(t, d)
			}
			if v, _ := x.arena.Load(x.lay.State(1)); v != state(tag+i+1, false) {
				t.Errorf("%v: its End left %#x", p, v)
			}
		}
		x.lookAll(t)
		x.plain(t)
	}
}

// P8.3: days of several threads, one behind the other, that write into the same cells.
func TestDaysOfThreads(t *testing.T) {
	x := begun(t, 3)
	next := [4]int{0, 5, 5, 9}
	for i, th := range []int{1, 2, 1, 3, 2, 2, 1, 3} {
		p := Pen{Thread: th, Tag: next[th]}
		next[th]++
		for _, d := range day(p, [2]int{i % 3, 10 + i}, [2]int{(i + 1) % 3, 30 + i}, [2]int{i % 3, 50 + i}) {
			x.do(t, d)
		}
	}
	x.lookAll(t)
	x.plain(t)
}

// merged tells all orders of two rows' deeds, each row in its own order.
func merged(x, y []deed) [][]deed {
	if len(x) == 0 || len(y) == 0 {
		return [][]deed{slices.Concat(x, y)}
	}
	var all [][]deed
	for _, row := range merged(x[1:], y) {
		all = append(all, slices.Concat(x[:1], row))
	}
	for _, row := range merged(x, y[1:]) {
		all = append(all, slices.Concat(y[:1], row))
	}
	return all
}

// P8.3: two pens at one time, of the same tag, that write into cells of their own: in all orders neither one's commit
// lets the other one's numbers be seen.
func TestTwoPens(t *testing.T) {
	one := day(Pen{Thread: 1, Tag: 5}, [2]int{0, 7}, [2]int{2, 8}, [2]int{0, 9})
	other := day(Pen{Thread: 2, Tag: 5}, [2]int{1, 17}, [2]int{3, 18})
	for _, row := range merged(one, other) {
		x := begun(t, 4)
		for _, d := range row {
			x.do(t, d)
		}
		x.plain(t)
		if t.Failed() {
			t.Fatalf("by the order %v", row)
		}
	}
}

// P8.3: so are looks at their cells, at all pairs of moments of some of such orders, of two days and one.
func TestLooksAtTwoPens(t *testing.T) {
	one := slices.Concat(day(Pen{Thread: 3, Tag: 3}, [2]int{0, 7}), day(Pen{Thread: 3, Tag: 4}, [2]int{0, 8}, [2]int{0, 9}))
	other := day(Pen{Thread: 2, Tag: 3}, [2]int{1, 17}, [2]int{1, 18})
	rows := merged(one, other)
	for i := 0; i < len(rows); i += 97 {
		x := begun(t, 2)
		for _, d := range rows[i] {
			x.do(t, d)
		}
		x.lookAll(t)
		x.plain(t)
		if t.Failed() {
			t.Fatalf("by the order %v", rows[i])
		}
	}
}

// P8.3: a look that loads the cell ahead of a pen's commit, and the state behind it, tells what is committed; one that
// loads the state ahead of it what was ahead.
func TestLookAcrossCommit(t *testing.T) {
	x := begun(t, 1)
	early, late := NewLook(x.lay, x.cells[0]), NewLook(x.lay, x.cells[0])
	row := day(Pen{Thread: 1, Tag: 3}, [2]int{0, 7})
	x.do(t, row[0])
	x.do(t, row[1])
	early.Step(x.arena)
	late.Step(x.arena)
	early.Step(x.arena)
	for _, d := range row[2:] {
		x.do(t, d)
	}
	late.Step(x.arena)
	told(t, early.Value(), 100)
	told(t, late.Value(), 7)
}

// P8.3: where somebody writes between, a look may tell a number that was written, but not last.
func TestLookAcrossDays(t *testing.T) {
	x := begun(t, 1)
	k := NewLook(x.lay, x.cells[0])
	row := slices.Concat(day(Pen{Thread: 1, Tag: 3}, [2]int{0, 7}), day(Pen{Thread: 1, Tag: 4}, [2]int{0, 8}))
	for i, d := range row {
		if i == 2 {
			k.Step(x.arena)
		}
		x.do(t, d)
	}
	k.Step(x.arena)
	told(t, k.Value(), 7)
	told(t, Means(mem.Of(x.arena), x.lay, x.cells[0]), 8)
}

// The chapter's example.
func TestExample(t *testing.T) {
	l := lay.Lay{Vertices: 2, Slots: 1, Threads: 1}
	a, _ := cell.New(l.Cells())
	m, c, p := mem.Of(a), l.Field(1, lay.Parent), Pen{Thread: 1, Tag: 7}
	a.Store(c, 3*65537)
	p.Begin(m, l)
	p.Write(m, c, 5)
	told(t, Means(m, l, c), 3)
	p.Commit(m, l)
	told(t, Means(m, l, c), 5)
	p.Clean(m, c)
	p.End(m, l)
	told(t, Means(m, l, c), 5)
}
