package mem

import (
	"math"
	"slices"
	"testing"

	"tombolo/api"
	"tombolo/cell"
)

// Numbers for cells.
var numbers = []uint64{0, 1, 5, 1 << 31, 1 << 32, 1<<63 - 1, 1 << 63, math.MaxUint64 - 1, math.MaxUint64}

// Both are memories.
var _, _ Mem = Plain{}, &Trace{}

// odd is a memory that isn't of this package: a load tells the cell's number and one more for each call; calls are kept.
type odd struct{ calls []Access }

func (o *odd) Load(i int) uint64 {
	v := uint64(i + len(o.calls))
	o.calls = append(o.calls, Access{Cell: i, Value: v})
	return v
}

func (o *odd) Store(i int, v uint64) {
	o.calls = append(o.calls, Access{Store: true, Cell: i, Value: v})
}

// arena makes an arena that has cells.
func arena(t *testing.T, cells ...uint64) *cell.Arena {
	t.Helper()
	a, e := cell.New(len(cells))
	if e != api.OK {
		t.Fatalf("New(%d): %d", len(cells), e)
	}
	for i, v := range cells {
		a.Store(i, v)
	}
	return a
}

// has fails the test, if a hasn't just the cells; it looks at a copy, so that a's counts stay.
func has(t *testing.T, a *cell.Arena, cells ...uint64) {
	t.Helper()
	if a.Len() != len(cells) {
		t.Fatalf("Len: %d; want %d", a.Len(), len(cells))
	}
	b := a.Copy()
	for i, want := range cells {
		if v, e := b.Load(i); v != want || e != api.OK {
			t.Errorf("cell %d has %d, %d; want %d", i, v, e, want)
		}
	}
}

// counted fails the test, if a hasn't counted just so.
func counted(t *testing.T, a *cell.Arena, want cell.Counts) {
	t.Helper()
	if a.Counts() != want {
		t.Errorf("Counts: %v; want %v", a.Counts(), want)
	}
}

// rowIs fails the test, if the trace hasn't just the row, or hasn't changed just the cells that the row stores.
func rowIs(t *testing.T, x *Trace, want ...Access) {
	t.Helper()
	if !slices.Equal(x.Row(), want) {
		t.Errorf("Row: %v; want %v", x.Row(), want)
	}
	var changed []int
	for i := range api.MaxCells {
		if slices.ContainsFunc(want, func(a Access) bool { return a.Store && a.Cell == i }) {
			changed = append(changed, i)
		}
	}
	if !slices.Equal(x.Changed(), changed) {
		t.Errorf("Changed: %v; want %v", x.Changed(), changed)
	}
}

// load and store are accesses.
func load(i int, v uint64) Access  { return Access{Cell: i, Value: v} }
func store(i int, v uint64) Access { return Access{Store: true, Cell: i, Value: v} }

// rising makes numbers for so many cells, each another one.
func rising(n int) []uint64 {
	cells := make([]uint64, n)
	for i := range cells {
		cells[i] = uint64(i + 7)
	}
	return cells
}

// noCells tells numbers for which an arena of so many cells has none.
func noCells(n int) []int {
	return []int{math.MinInt, -1 << 32, -n - 1, -1, n, n + 1, 1 << 14, 1 << 16, 1 << 32, math.MaxInt}
}

// P6.1: a plain memory's loads and stores are its arena's, which counts them.
func TestPlain(t *testing.T) {
	a := arena(t, 10, 20, 30)
	p := Of(a)
	counted(t, a, cell.Counts{Stores: 3})
	for i, want := range []uint64{10, 20, 30} {
		if v := p.Load(i); v != want {
			t.Errorf("Load(%d): %d; want %d", i, v, want)
		}
	}
	counted(t, a, cell.Counts{Loads: 3, Stores: 3})
	has(t, a, 10, 20, 30)
	cells := []uint64{10, 20, 30}
	want := a.Counts()
	for i := range cells {
		for _, v := range numbers {
			p.Store(i, v)
			cells[i] = v
			has(t, a, cells...)
			if u := p.Load(i); u != v {
				t.Errorf("Load(%d): %d; want %d", i, u, v)
			}
			want.Stores++
			want.Loads++
			counted(t, a, want)
		}
	}
}

// P6.1: what the arena is told elsewhere the plain memory has at once, and so have other plain memories of it.
func TestPlainIsTheArena(t *testing.T) {
	a := arena(t, 1, 2)
	p, q := Of(a), Of(a)
	a.Store(0, 5)
	a.Add(1, 7)
	if p.Load(0) != 5 || p.Load(1) != 9 || q.Load(0) != 5 {
		t.Errorf("the arena was changed: %d, %d, %d", p.Load(0), p.Load(1), q.Load(0))
	}
	p.Store(1, 3)
	if q.Load(1) != 3 {
		t.Errorf("the other one was changed: %d", q.Load(1))
	}
	q.Store(1, 4)
	has(t, a, 5, 4)
}

// P6.1: where a plain memory has no cell, a load is 0, and a store does nothing.
func TestPlainNoCell(t *testing.T) {
	for _, n := range []int{0, 1, 2, 3, 1 << 14} {
		cells := rising(n)
		a := arena(t, cells...)
		p := Of(a)
		for _, i := range noCells(n) {
			if v := p.Load(i); v != 0 {
				t.Errorf("%d cells, Load(%d): %d", n, i, v)
			}
			p.Store(i, 1)
			if v := p.Load(i); v != 0 {
				t.Errorf("%d cells, Load(%d) behind a store: %d", n, i, v)
			}
		}
		counted(t, a, cell.Counts{Stores: n})
		has(t, a, cells...)
	}
}

// P6.1: a trace that was asked nothing has no accesses.
func TestOver(t *testing.T) {
	for _, n := range []int{0, 1, 2, 1 << 14} {
		a := arena(t, make([]uint64, n)...)
		x := Over(a)
		if x == nil {
			t.Fatalf("no trace over %d cells", n)
		}
		rowIs(t, x)
		if len(x.Row()) != 0 || len(x.Changed()) != 0 {
			t.Errorf("%d cells: %v, %v", n, x.Row(), x.Changed())
		}
	}
}

// P6.1: a trace's cells have what the arena's had, until they are stored; each access is in the row, in order.
func TestTrace(t *testing.T) {
	x := Over(arena(t, 10, 20, 30))
	var want []Access
	cells := []uint64{10, 20, 30}
	all := func() {
		t.Helper()
		for i, v := range cells {
			if u := x.Load(i); u != v {
				t.Errorf("Load(%d): %d; want %d", i, u, v)
			}
			want = append(want, load(i, v))
			rowIs(t, x, want...)
		}
	}
	all()
	for _, i := range []int{2, 0, 2, 1} {
		for _, v := range numbers {
			x.Store(i, v)
			cells[i] = v
			want = append(want, store(i, v))
			rowIs(t, x, want...)
			all()
		}
	}
}

// P6.1: an access that changes nothing is one: the same load twice, the same store twice, a store of what a cell has.
func TestTraceKeepsEach(t *testing.T) {
	x := Over(arena(t, 4, 0))
	x.Load(0)
	x.Load(0)
	x.Store(0, 4)
	x.Store(1, 0)
	x.Store(1, 0)
	x.Load(1)
	rowIs(t, x, load(0, 4), load(0, 4), store(0, 4), store(1, 0), store(1, 0), load(1, 0))
}

// P6.1: the arena's cells and counts stay, whatever its traces are asked.
func TestTraceLeavesArena(t *testing.T) {
	a := arena(t, 1, 2, 3)
	a.Load(0)
	a.Swap(1, 2, 4)
	x, y := Over(a), Over(a)
	for i := range 3 {
		x.Load(i)
		x.Store(i, 50)
		y.Store(i, 60)
		x.Load(i)
	}
	x.Row()
	x.Changed()
	has(t, a, 1, 4, 3)
	counted(t, a, cell.Counts{Loads: 1, Stores: 3, Swaps: 1})
	rowIs(t, y, store(0, 60), store(1, 60), store(2, 60))
	if x.Load(1) != 50 || y.Load(1) != 60 {
		t.Errorf("two traces have to do with one another: %d, %d", x.Load(1), y.Load(1))
	}
}

// P6.1: a trace's cells have what the arena's had when it was made, though these change later.
func TestTraceStays(t *testing.T) {
	a := arena(t, 1, 2, 3)
	a.Store(0, 9)
	x := Over(a)
	a.Store(0, 10)
	a.Store(1, 20)
	Of(a).Store(2, 30)
	for i, want := range []uint64{9, 2, 3} {
		if v := x.Load(i); v != want {
			t.Errorf("Load(%d): %d; want %d", i, v, want)
		}
	}
	rowIs(t, x, load(0, 9), load(1, 2), load(2, 3))
	y := Over(a)
	if y.Load(0) != 10 || y.Load(1) != 20 || y.Load(2) != 30 {
		t.Errorf("made later: %v", y.Row())
	}
}

// P6.1: where a trace has no cell, a load is 0, a store does nothing, and both are no accesses.
func TestTraceNoCell(t *testing.T) {
	for _, n := range []int{0, 1, 2, 3, 1 << 14} {
		cells := rising(n)
		x := Over(arena(t, cells...))
		for _, i := range noCells(n) {
			if v := x.Load(i); v != 0 {
				t.Errorf("%d cells, Load(%d): %d", n, i, v)
			}
			x.Store(i, 1)
			if v := x.Load(i); v != 0 {
				t.Errorf("%d cells, Load(%d) behind a store: %d", n, i, v)
			}
		}
		rowIs(t, x)
		for i, want := range cells {
			if v := x.Load(i); v != want {
				t.Fatalf("%d cells, Load(%d): %d; want %d", n, i, v, want)
			}
		}
		if len(x.Row()) != n {
			t.Errorf("%d cells, %d accesses", n, len(x.Row()))
		}
	}
}

// P6.1: the first and the last cell of an arena of each size are cells as others.
func TestTraceFirstAndLast(t *testing.T) {
	for _, n := range []int{1, 2, 64, 1<<14 - 1, 1 << 14} {
		x := Over(arena(t, make([]uint64, n)...))
		x.Store(n-1, 5)
		x.Store(0, 6)
		if n == 1 {
			rowIs(t, x, store(0, 5), store(0, 6))
		} else {
			rowIs(t, x, store(n-1, 5), store(0, 6))
		}
		if x.Load(0) != 6 {
			t.Errorf("%d cells: %v", n, x.Row())
		}
	}
}

// P6.1: Changed has the cells rising, each once, in whichever order and however often they were stored.
func TestChanged(t *testing.T) {
	x := Over(arena(t, make([]uint64, 300)...))
	var want []int
	for i := range 300 {
		if x.Load(i); i%3 != 0 {
			want = append(want, i)
		}
	}
	for range 3 {
		for i := range 300 {
			if j := i * 7 % 300; j%3 != 0 {
				x.Store(j, uint64(i))
			}
		}
	}
	if !slices.Equal(x.Changed(), want) {
		t.Errorf("Changed: %v; want %v", x.Changed(), want)
	}
	if len(x.Row()) != 900 {
		t.Errorf("%d accesses", len(x.Row()))
	}
}

// P6.1: what Row and Changed told is new memory, spare room too: neither the trace nor another answer has to do with it.
func TestToldIsNew(t *testing.T) {
	for n := range 20 {
		x := Over(arena(t, 1, 2, 3))
		var want []Access
		for i := range n {
			x.Store(i%3, uint64(i))
			want = append(want, store(i%3, uint64(i)))
		}
		row, changed := x.Row(), x.Changed()
		row2, changed2 := x.Row(), x.Changed()
		for i := range row[:cap(row)] {
			row[:cap(row)][i] = load(2, 99)
		}
		for i := range changed[:cap(changed)] {
			changed[:cap(changed)][i] = 99
		}
		rowIs(t, x, want...)
		if !slices.Equal(row2, want) || slices.Contains(changed2, 99) {
			t.Errorf("two answers share memory: %v, %v", row2, changed2)
		}
		row2, changed2 = x.Row(), x.Changed()
		x.Store(0, 7)
		x.Load(0)
		rowIs(t, x, append(slices.Clone(want), store(0, 7), load(0, 7))...)
		if !slices.Equal(row2, want) || len(changed2) != min(n, 3) {
			t.Errorf("what was told changed: %v, %v", row2, changed2)
		}
		for _, a := range row2[len(row2):cap(row2)] {
			if a == store(0, 7) || a == load(0, 7) {
				t.Errorf("the spare room of an answer is the trace's")
			}
		}
	}
}

// P6.2: a row whose loads tell what they should is done to its end.
func TestReplay(t *testing.T) {
	a := arena(t, 1, 2, 3)
	row := []Access{
		load(0, 1), store(0, 5), load(0, 5), load(1, 2), store(2, 0), store(2, 8), load(2, 8), store(1, math.MaxUint64),
	}
	if n, ok := Replay(Of(a), row); n != 8 || !ok {
		t.Errorf("Replay: %d, %t", n, ok)
	}
	has(t, a, 5, math.MaxUint64, 8)
	counted(t, a, cell.Counts{Loads: 4, Stores: 3 + 4})
}

// P6.2: a row without accesses is as it should, and nothing is done.
func TestReplayNone(t *testing.T) {
	a := arena(t, 1)
	for _, row := range [][]Access{nil, {}} {
		if n, ok := Replay(Of(a), row); n != 0 || !ok {
			t.Errorf("Replay: %d, %t", n, ok)
		}
	}
	has(t, a, 1)
	counted(t, a, cell.Counts{Stores: 1})
}

// P6.2: the first load that tells another value ends it, wherever in the row it is: what is ahead was done, no more.
func TestReplayStops(t *testing.T) {
	for n := range 7 {
		for _, wrong := range []uint64{0, 1, 1 << 32, 1 << 63, math.MaxUint64} {
			a := arena(t, 100, 200)
			var row []Access
			for i := range n {
				row = append(row, store(1, uint64(i)))
			}
			row = append(row, load(0, wrong), store(0, 7), load(0, 8), store(1, 77))
			if k, ok := Replay(Of(a), row); k != n || ok {
				t.Errorf("Replay: %d, %t; want %d", k, ok, n)
			}
			if n == 0 {
				has(t, a, 100, 200)
			} else {
				has(t, a, 100, uint64(n-1))
			}
			counted(t, a, cell.Counts{Loads: 1, Stores: 2 + n})
		}
	}
}

// P6.2: each bit of a load's value plays a part.
func TestReplayEachBit(t *testing.T) {
	for i := range 64 {
		p := Of(arena(t, 6))
		if n, ok := Replay(p, []Access{load(0, 6), load(0, 6^1<<i)}); n != 1 || ok {
			t.Errorf("but for bit %d: %d, %t", i, n, ok)
		}
	}
}

// P6.2: where the memory has no cell a load should tell 0, and a store does nothing; both are gone over as others.
func TestReplayNoCell(t *testing.T) {
	for _, i := range noCells(2) {
		a := arena(t, 3, 4)
		if n, ok := Replay(Of(a), []Access{load(i, 0), store(i, 5), load(i, 0), store(1, 6)}); n != 4 || !ok {
			t.Errorf("cell %d: %d, %t", i, n, ok)
		}
		if n, ok := Replay(Of(a), []Access{store(i, 5), load(i, 5), store(0, 6)}); n != 1 || ok {
			t.Errorf("cell %d: %d, %t", i, n, ok)
		}
		has(t, a, 3, 6)
		x := Over(a)
		if n, ok := Replay(x, []Access{load(i, 0), store(i, 5), load(0, 3)}); n != 3 || !ok {
			t.Errorf("cell %d: %d, %t", i, n, ok)
		}
		rowIs(t, x, load(0, 3))
	}
}

// P6.2: the row stays, its spare room too.
func TestReplayLeavesRow(t *testing.T) {
	all := []Access{store(0, 5), load(0, 5), load(0, 4), store(0, 1), store(0, 2)}
	want := slices.Clone(all)
	x := Over(arena(t, 0))
	if n, ok := Replay(x, all[:4]); n != 2 || ok {
		t.Errorf("Replay: %d, %t", n, ok)
	}
	x.Store(0, 9)
	if !slices.Equal(all, want) {
		t.Errorf("the row was changed: %v", all)
	}
	all[0] = store(0, 99)
	rowIs(t, x, store(0, 5), load(0, 5), load(0, 5), store(0, 9))
}

// P6.2: a memory of any kind is asked once for each access, in order, and no more.
func TestReplayAnyMem(t *testing.T) {
	row := []Access{load(7, 7), store(3, 9), load(7, 9), load(0, 3), store(-5, 1), load(2, 8), store(1, 1)}
	o := &odd{}
	if n, ok := Replay(o, row); n != 5 || ok {
		t.Errorf("Replay: %d, %t", n, ok)
	}
	if want := append(slices.Clone(row[:5]), load(2, 7)); !slices.Equal(o.calls, want) {
		t.Errorf("asked: %v; want %v", o.calls, want)
	}
	o = &odd{}
	if n, ok := Replay(o, row[:5]); n != 5 || !ok || !slices.Equal(o.calls, row[:5]) {
		t.Errorf("Replay: %d, %t, asked %v", n, ok, o.calls)
	}
}

// P6.2: a trace's row on a trace over the same arena is the same row there.
func TestReplayOnTrace(t *testing.T) {
	a := arena(t, 1, 2, 3)
	x, y := Over(a), Over(a)
	x.Load(2)
	x.Store(2, 5)
	x.Load(2)
	x.Store(0, 5)
	if n, ok := Replay(y, x.Row()); n != 4 || !ok {
		t.Errorf("Replay: %d, %t", n, ok)
	}
	rowIs(t, y, x.Row()...)
	if n, ok := Replay(y, x.Row()); n != 0 || ok {
		t.Errorf("Replay again: %d, %t", n, ok)
	}
	has(t, a, 1, 2, 3)
}

// P6.1, P6.2: a long row of a trace is what a list of numbers would do; on a plain memory of the same arena it is as it
// should, and its cells have then what the trace's have.
func TestLongRow(t *testing.T) {
	const n = 13
	a := arena(t, 5, 4, 3, 2, 1, 0, 0, 0, 9, 9, 9, 8, 7)
	cells := []uint64{5, 4, 3, 2, 1, 0, 0, 0, 9, 9, 9, 8, 7}
	first := slices.Clone(cells)
	x := Over(a)
	var want []Access
	r := uint64(1)
	for range 5000 {
		// A fixed rule for what comes next: the high bits of a product that goes on.
		r = r*6364136223846793005 + 1442695040888963407
		i, v := int(r>>60), r>>40&0xff
		switch {
		case i >= n && r>>30&1 == 0:
			x.Store(i, v)
		case i >= n:
			x.Load(i)
		case r>>30&1 == 0:
			x.Store(i, v)
			cells[i] = v
			want = append(want, store(i, v))
		default:
			if u := x.Load(i); u != cells[i] {
				t.Fatalf("Load(%d): %d; want %d", i, u, cells[i])
			}
			want = append(want, load(i, cells[i]))
		}
	}
	rowIs(t, x, want...)
	has(t, a, first...)
	if k, ok := Replay(Of(a), x.Row()); k != len(want) || !ok {
		t.Errorf("Replay: %d, %t; want %d", k, ok, len(want))
	}
	has(t, a, cells...)
}

// P6.2: one whose arena was changed between is so up to the first load of what was changed.
func TestReplayChangedBetween(t *testing.T) {
	a := arena(t, 1, 2, 3)
	x := Over(a)
	x.Store(1, 7)
	x.Load(1)
	x.Load(2)
	x.Load(0)
	x.Store(2, 8)
	a.Store(1, 20)
	if n, ok := Replay(Of(a.Copy()), x.Row()); n != 5 || !ok {
		t.Errorf("a cell that was stored ahead of each load: %d, %t", n, ok)
	}
	a.Store(0, 10)
	if n, ok := Replay(Of(a), x.Row()); n != 3 || ok {
		t.Errorf("a cell that was loaded: %d, %t", n, ok)
	}
	has(t, a, 10, 7, 3)
}

// The chapter's example.
func TestExample(t *testing.T) {
	a := arena(t, 0, 0)
	x := Over(a)
	x.Store(0, 5)
	if v := x.Load(0); v != 5 {
		t.Errorf("Load(0): %d", v)
	}
	has(t, a, 0, 0)
}
