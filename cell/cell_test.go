package cell

import (
	"math"
	"testing"

	"tombolo/api"
)

// Sizes of arenas that may be: the edges that the document names, and some between them.
var sizes = []int{0, 1, 2, 3, 64, 1<<14 - 1, 1 << 14}

// Numbers for cells.
var numbers = []uint64{0, 1, 5, 1 << 31, 1 << 32, 1<<63 - 1, 1 << 63, math.MaxUint64 - 1, math.MaxUint64}

// arena makes an arena that has cells.
func arena(t *testing.T, cells ...uint64) *Arena {
	t.Helper()
	a, e := New(len(cells))
	if e != api.OK || a == nil {
		t.Fatalf("New(%d): %d", len(cells), e)
	}
	for i, v := range cells {
		if e := a.Store(i, v); e != api.OK {
			t.Fatalf("Store(%d, %d): %d", i, v, e)
		}
	}
	return a
}

// has fails the test, if a hasn't just the cells; it looks at a copy, so that a's counts stay.
func has(t *testing.T, a *Arena, cells ...uint64) {
	t.Helper()
	if a.Len() != len(cells) {
		t.Fatalf("Len: %d; want %d", a.Len(), len(cells))
	}
	b := a.Copy()
	for i, want := range cells {
		if v, e := b.Load(i); v != want || e != api.OK {
			t.Errorf("Load(%d): %d, %d; want %d", i, v, e, want)
		}
	}
}

// counted fails the test, if a hasn't counted just so.
func counted(t *testing.T, a *Arena, want Counts) {
	t.Helper()
	if a.Counts() != want {
		t.Errorf("Counts: %v; want %v", a.Counts(), want)
	}
}

// noCells tells numbers for which an arena of so many cells has none.
func noCells(cells int) []int {
	return []int{math.MinInt, -1 << 32, -cells - 1, -1, cells, cells + 1, 1 << 14, 1 << 16, 1 << 32, math.MaxInt}
}

// P2.1: an arena of each size has so many cells, all 0, and has counted nothing.
func TestNew(t *testing.T) {
	for _, n := range sizes {
		a, e := New(n)
		if a == nil || e != api.OK {
			t.Fatalf("New(%d): %d", n, e)
		}
		counted(t, a, Counts{})
		has(t, a, make([]uint64, n)...)
	}
}

// P2.1: no arena has fewer cells than none, or more than MaxCells.
func TestNewWrong(t *testing.T) {
	for _, n := range []int{math.MinInt, -1 << 32, -1 << 14, -2, -1, 1<<14 + 1, 1 << 15, 1<<32 + 1, math.MaxInt} {
		if a, e := New(n); a != nil || e != api.ErrRange {
			t.Errorf("New(%d): %v, %d", n, a, e)
		}
	}
}

// P2.1: a cell has what was stored last, and no other cell changes.
func TestStoreAndLoad(t *testing.T) {
	a := arena(t, 10, 20, 30, 40)
	want := []uint64{10, 20, 30, 40}
	for i := range want {
		for _, v := range numbers {
			want[i] = v
			if e := a.Store(i, v); e != api.OK {
				t.Errorf("Store(%d, %d): %d", i, v, e)
			}
			for range 2 {
				if x, e := a.Load(i); x != v || e != api.OK {
					t.Errorf("Load(%d): %d, %d; want %d", i, x, e, v)
				}
			}
			has(t, a, want...)
		}
	}
}

// P2.1: a swap stores if the cell has what it should, and only then.
func TestSwap(t *testing.T) {
	for _, had := range numbers {
		for _, was := range numbers {
			for _, v := range numbers {
				a := arena(t, 3, had, 4)
				ok, e := a.Swap(1, was, v)
				if ok != (had == was) || e != api.OK {
					t.Errorf("Swap(1, %d, %d) of %d: %t, %d", was, v, had, ok, e)
				}
				want := had
				if had == was {
					want = v
				}
				has(t, a, 3, want, 4)
			}
		}
	}
}

// P2.1: Add goes around modulo 2^64, and tells what there was ahead of it.
func TestAdd(t *testing.T) {
	for _, had := range numbers {
		for _, d := range numbers {
			a := arena(t, 3, had, 4)
			if v, e := a.Add(1, d); v != had || e != api.OK {
				t.Errorf("Add(1, %d) to %d: %d, %d", d, had, v, e)
			}
			has(t, a, 3, had+d, 4)
		}
	}
	a := arena(t, math.MaxUint64)
	if v, e := a.Add(0, 2); v != math.MaxUint64 || e != api.OK {
		t.Errorf("Add: %d, %d", v, e)
	}
	has(t, a, 1)
}

// P2.1: the first and the last cell of an arena of each size are cells as others.
func TestFirstAndLast(t *testing.T) {
	for _, n := range sizes[1:] {
		want := make([]uint64, n)
		a := arena(t, want...)
		for _, i := range []int{0, n - 1} {
			if e := a.Store(i, 5); e != api.OK {
				t.Errorf("Store(%d, 5): %d", i, e)
			}
			if ok, e := a.Swap(i, 5, 6); !ok || e != api.OK {
				t.Errorf("Swap(%d, 5, 6): %t, %d", i, ok, e)
			}
			if v, e := a.Add(i, 3); v != 6 || e != api.OK {
				t.Errorf("Add(%d, 3): %d, %d", i, v, e)
			}
			if v, e := a.Load(i); v != 9 || e != api.OK {
				t.Errorf("Load(%d): %d, %d", i, v, e)
			}
			want[i] = 9
		}
		has(t, a, want...)
	}
}

// P2.1: where there is no cell nothing is told, done or counted.
func TestNoCell(t *testing.T) {
	for _, n := range sizes {
		cells := make([]uint64, n)
		for i := range cells {
			cells[i] = uint64(i + 7)
		}
		a := arena(t, cells...)
		for _, i := range noCells(n) {
			if 0 <= i && i < n {
				continue
			}
			if v, e := a.Load(i); v != 0 || e != api.ErrAddress {
				t.Errorf("%d cells, Load(%d): %d, %d", n, i, v, e)
			}
			if e := a.Store(i, 1); e != api.ErrAddress {
				t.Errorf("%d cells, Store(%d, 1): %d", n, i, e)
			}
			for was := range uint64(9) {
				if ok, e := a.Swap(i, was, 1); ok || e != api.ErrAddress {
					t.Errorf("%d cells, Swap(%d, %d, 1): %t, %d", n, i, was, ok, e)
				}
			}
			if v, e := a.Add(i, 1); v != 0 || e != api.ErrAddress {
				t.Errorf("%d cells, Add(%d, 1): %d, %d", n, i, v, e)
			}
		}
		counted(t, a, Counts{Stores: n})
		has(t, a, cells...)
	}
}

// P2.2: each access counts once, as what it is, even if it changes nothing; a call that is none doesn't count.
func TestCountsEach(t *testing.T) {
	a, e := New(2)
	if e != api.OK {
		t.Fatalf("New: %d", e)
	}
	var want Counts
	for range 3 {
		for i := range 2 {
			a.Store(i, 5)
			want.Stores++
			counted(t, a, want)
			a.Load(i)
			want.Loads++
			counted(t, a, want)
			a.Swap(i, 5, 5)
			want.Swaps++
			counted(t, a, want)
			a.Swap(i, 6, 5)
			want.Misses++
			counted(t, a, want)
			a.Add(i, 0)
			want.Adds++
			counted(t, a, want)
			a.Len()
			a.Counts()
			a.Copy()
			a.Equal(a)
			counted(t, a, want)
		}
	}
	if want != (Counts{Loads: 6, Stores: 6, Swaps: 6, Misses: 6, Adds: 6}) {
		t.Errorf("counted %v", want)
	}
}

// P2.2: what Counts told stays as it was told.
func TestCountsAreTold(t *testing.T) {
	a := arena(t, 1, 2)
	c := a.Counts()
	c.Loads = 99
	counted(t, a, Counts{Stores: 2})
	a.Load(0)
	if c != (Counts{Loads: 99, Stores: 2}) {
		t.Errorf("Counts, told earlier: %v", c)
	}
}

// P2.2: a copy has the same cells and counts, at every size.
func TestCopySame(t *testing.T) {
	for _, n := range sizes {
		cells := make([]uint64, n)
		for i := range cells {
			cells[i] = uint64(i) * 3
		}
		a := arena(t, cells...)
		want := Counts{Stores: n}
		if n > 0 {
			a.Load(0)
			a.Swap(0, 0, 0)
			a.Swap(0, 1, 2)
			a.Swap(0, 3, 4)
			a.Add(0, 0)
			want = Counts{Loads: 1, Stores: n, Swaps: 1, Misses: 2, Adds: 1}
		}
		b := a.Copy()
		if b == nil || b == a {
			t.Fatalf("Copy of %d cells is no other arena", n)
		}
		counted(t, a, want)
		counted(t, b, want)
		has(t, a, cells...)
		has(t, b, cells...)
		if !a.Equal(b) || !b.Equal(a) {
			t.Errorf("a copy of %d cells isn't equal", n)
		}
	}
}

// P2.2: neither an arena nor its copy has to do with what the other one is asked later.
func TestCopyApart(t *testing.T) {
	a := arena(t, 1, 2, 3)
	b := a.Copy()
	a.Store(0, 10)
	a.Swap(1, 2, 20)
	a.Add(2, 27)
	counted(t, b, Counts{Stores: 3})
	has(t, b, 1, 2, 3)
	b.Store(0, 5)
	b.Store(0, 6)
	b.Swap(1, 9, 7)
	b.Add(2, 5)
	b.Load(2)
	counted(t, a, Counts{Stores: 4, Swaps: 1, Adds: 1})
	has(t, a, 10, 20, 30)
	counted(t, b, Counts{Loads: 1, Stores: 5, Misses: 1, Adds: 1})
	has(t, b, 6, 2, 8)
	c := b.Copy()
	b.Store(0, 0)
	has(t, c, 6, 2, 8)
}

// P2.2: equal are those of as many cells with the same numbers.
func TestEqual(t *testing.T) {
	l := [][]uint64{
		{}, {0}, {1}, {0, 0}, {0, 1}, {1, 0}, {1, 1}, {1, 2, 3}, {1, 2, 4}, {4, 2, 3}, {1, 4, 3}, {3, 2, 1},
		{1, 2, 3, 0}, {0, 1, 2, 3}, {math.MaxUint64}, {1 << 63}, {1 << 32},
	}
	for i, x := range l {
		for j, y := range l {
			a, b := arena(t, x...), arena(t, y...)
			if a.Equal(b) != (i == j) {
				t.Errorf("%v, %v: %t", x, y, a.Equal(b))
			}
		}
		a := arena(t, x...)
		if !a.Equal(a) {
			t.Errorf("%v isn't equal to itself", x)
		}
	}
	for i := range 64 {
		a, b := arena(t, 7, 0), arena(t, 7, 1<<i)
		if a.Equal(b) || b.Equal(a) {
			t.Errorf("equal but for bit %d", i)
		}
	}
}

// P2.2: Equal looks at what cells have, not at what was counted, and changes nothing.
func TestEqualWithoutCounts(t *testing.T) {
	a, b := arena(t, 1, 2), arena(t, 5, 9)
	b.Swap(0, 4, 4)
	b.Swap(0, 5, 1)
	b.Load(0)
	if a.Equal(b) || b.Equal(a) {
		t.Errorf("equal, with 2 and 9")
	}
	b.Add(1, math.MaxUint64-6)
	if !a.Equal(b) || !b.Equal(a) {
		t.Errorf("not equal, with the same numbers")
	}
	counted(t, a, Counts{Stores: 2})
	counted(t, b, Counts{Loads: 1, Stores: 2, Swaps: 1, Misses: 1, Adds: 1})
	has(t, a, 1, 2)
	has(t, b, 1, 2)
}

// P2.1, P2.2: a long row of accesses does what a list of numbers would, done one by one.
func TestLongRow(t *testing.T) {
	const n = 7
	a, e := New(n)
	if e != api.OK {
		t.Fatalf("New: %d", e)
	}
	var cells [n]uint64
	var want Counts
	x := uint64(1)
	for range 20000 {
		// A fixed rule for what comes next: the high bits of a product that goes on.
		x = x*6364136223846793005 + 1442695040888963407
		i, was, v := int(x>>60), x>>50&3, x>>40&3
		if i >= n {
			if _, e := a.Load(i); e != api.ErrAddress {
				t.Fatalf("Load(%d): %d", i, e)
			}
			continue
		}
		switch x >> 30 & 3 {
		case 0:
			want.Loads++
			if u, e := a.Load(i); u != cells[i] || e != api.OK {
				t.Fatalf("Load(%d): %d, %d; want %d", i, u, e, cells[i])
			}
		case 1:
			want.Stores++
			a.Store(i, v)
			cells[i] = v
		case 2:
			ok, e := a.Swap(i, was, v)
			if ok != (cells[i] == was) || e != api.OK {
				t.Fatalf("Swap(%d, %d, %d) of %d: %t, %d", i, was, v, cells[i], ok, e)
			}
			if ok {
				want.Swaps++
				cells[i] = v
			} else {
				want.Misses++
			}
		default:
			want.Adds++
			if u, e := a.Add(i, v-1); u != cells[i] || e != api.OK {
				t.Fatalf("Add(%d, %d): %d, %d; want %d", i, v-1, u, e, cells[i])
			}
			cells[i] += v - 1
		}
	}
	counted(t, a, want)
	has(t, a, cells[:]...)
	if want.Loads == 0 || want.Stores == 0 || want.Swaps == 0 || want.Misses == 0 || want.Adds == 0 {
		t.Errorf("the row hasn't all accesses: %v", want)
	}
}

// The chapter's example.
func TestExample(t *testing.T) {
	a := arena(t, 5)
	if ok, e := a.Swap(0, 5, 7); !ok || e != api.OK {
		t.Errorf("Swap(0, 5, 7): %t, %d", ok, e)
	}
	if ok, e := a.Swap(0, 5, 9); ok || e != api.OK {
		t.Errorf("Swap(0, 5, 9): %t, %d", ok, e)
	}
	if v, e := a.Add(0, 2); v != 7 || e != api.OK {
		t.Errorf("Add(0, 2): %d, %d", v, e)
	}
	has(t, a, 9)
}
