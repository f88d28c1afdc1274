package slot

import (
	"math"
	"slices"
	"testing"

	"tombolo/api"
	"tombolo/cell"
	"tombolo/lay"
	"tombolo/mem"
)

// Tags of the head: the edges of its 48 bits, and of halves and quarters of them.
var tags = []uint64{0, 1, 1<<16 - 1, 1 << 16, 1<<31 - 1, 1<<32 - 1, 1 << 47, 1<<48 - 2}

// odd is a memory that isn't of this package's: cells in a map; where there is none a load tells 0.
type odd map[int]uint64

func (o odd) Load(i int) uint64     { return o[i] }
func (o odd) Store(i int, v uint64) { o[i] = v }

// strict is a memory that panics where there is no cell.
type strict []uint64

func (m strict) Load(i int) uint64     { return m[i] }
func (m strict) Store(i int, v uint64) { m[i] = v }

// lays tells right lays: all numbers of slots, with what else there is at its edges.
func lays() []lay.Lay {
	var all []lay.Lay
	for s := range api.MaxSlots + 1 {
		for _, v := range []int{1, 2, 16} {
			for _, th := range []int{1, 8} {
				all = append(all, lay.Lay{Vertices: v, Slots: s, Threads: th})
			}
		}
	}
	return all
}

// wrongLays tells lays that may not be.
func wrongLays() []lay.Lay {
	return []lay.Lay{
		{}, {Vertices: 1, Slots: -1, Threads: 1}, {Vertices: 1, Slots: 49, Threads: 1}, {Vertices: 0, Slots: 3, Threads: 1},
		{Vertices: 17, Slots: 3, Threads: 1}, {Vertices: 1, Slots: 3, Threads: 0}, {Vertices: 1, Slots: 3, Threads: 9},
		{Vertices: 1, Slots: math.MaxInt, Threads: 1}, {Vertices: 1, Slots: math.MinInt, Threads: 1},
		{Vertices: math.MaxInt, Slots: math.MaxInt, Threads: math.MaxInt},
	}
}

// slots tells a small lay of so many slots.
func slots(n int) lay.Lay { return lay.Lay{Vertices: 2, Slots: n, Threads: 2} }

// filled makes an arena of a lay whose cells all have v.
func filled(t *testing.T, l lay.Lay, v uint64) *cell.Arena {
	t.Helper()
	a, e := cell.New(l.Cells())
	if e != api.OK {
		t.Fatalf("New(%d): %d", l.Cells(), e)
	}
	for i := range a.Len() {
		a.Store(i, v)
	}
	return a
}

// begun makes an arena of a lay whose slots all are free.
func begun(t *testing.T, l lay.Lay) *cell.Arena {
	t.Helper()
	a := filled(t, l, 0)
	Init(mem.Of(a), l)
	return a
}

// chained makes an arena of a lay with just the free slots of a row, and a tag.
func chained(t *testing.T, l lay.Lay, tag uint64, row ...int) *cell.Arena {
	t.Helper()
	a := filled(t, l, 0)
	c, v := l.Free(), tag<<16
	for _, s := range row {
		a.Store(c, v|uint64(s+1))
		c, v = l.NextFree(s), 0
	}
	a.Store(c, v)
	return a
}

// cells tells what an arena has; it looks at a copy, so that the counts stay.
func cells(a *cell.Arena) []uint64 {
	b := a.Copy()
	all := make([]uint64, b.Len())
	for i := range all {
		all[i], _ = b.Load(i)
	}
	return all
}

// changes fails the test, if what is done changes other cells of a than those told, or lets them have other numbers.
func changes(t *testing.T, a *cell.Arena, to map[int]uint64, do func()) {
	t.Helper()
	want := cells(a)
	for i, v := range to {
		want[i] = v
	}
	do()
	for i, v := range cells(a) {
		if v != want[i] {
			t.Errorf("cell %d has %#x; want %#x", i, v, want[i])
		}
	}
}

// counts fails the test, if what is done counts other accesses of a than those told.
func counts(t *testing.T, a *cell.Arena, want cell.Counts, do func()) {
	t.Helper()
	was := a.Counts()
	do()
	is := a.Counts()
	got := cell.Counts{
		Loads: is.Loads - was.Loads, Stores: is.Stores - was.Stores, Swaps: is.Swaps - was.Swaps,
		Misses: is.Misses - was.Misses, Adds: is.Adds - was.Adds,
	}
	if got != want {
		t.Errorf("counted %v; want %v", got, want)
	}
}

// listed fails the test, if a hasn't just the free slots told.
func listed(t *testing.T, a *cell.Arena, l lay.Lay, want ...int) {
	t.Helper()
	if got := List(mem.Of(a.Copy()), l); !slices.Equal(got, want) {
		t.Errorf("List: %v; want %v", got, want)
	}
}

// headed fails the test, if a's head hasn't just the tag and the link.
func headed(t *testing.T, a *cell.Arena, l lay.Lay, tag, link uint64) {
	t.Helper()
	if v, _ := a.Copy().Load(l.Free()); v != tag<<16|link {
		t.Errorf("the head has %#x; want the tag %#x and the link %d", v, tag, link)
	}
}

// rising tells the numbers from one on and below another one.
func rising(from, to int) []int {
	var all []int
	for i := from; i < to; i++ {
		all = append(all, i)
	}
	return all
}

// stepper is a Take or a Give.
type stepper interface {
	Step(a *cell.Arena) bool
	Done() bool
}

var _, _ stepper = &Take{}, &Give{}

// step does one step of p: it has just the access told, is done or not then as told, and says so twice.
func step(t *testing.T, p stepper, a *cell.Arena, want cell.Counts, done bool) {
	t.Helper()
	counts(t, a, want, func() {
		t.Helper()
		if got := p.Step(a); got != done {
			t.Errorf("Step: %t; want %t", got, done)
		}
	})
	if p.Done() != done {
		t.Errorf("Done: %t; want %t", p.Done(), done)
	}
}

// The accesses of one step.
var (
	aLoad  = cell.Counts{Loads: 1}
	aStore = cell.Counts{Stores: 1}
	aSwap  = cell.Counts{Swaps: 1}
	aMiss  = cell.Counts{Misses: 1}
	none   = cell.Counts{}
)

// took fails the test, if a Take doesn't tell just so what it took.
func took(t *testing.T, x *Take, slot int, ok bool) {
	t.Helper()
	if s, is := x.Slot(); s != slot || is != ok {
		t.Errorf("Slot: %d, %t; want %d, %t", s, is, slot, ok)
	}
}

// run does a program's steps, as many as are told, and fails the test, if it isn't done just at the last one.
func run(t *testing.T, p stepper, a *cell.Arena, steps int) {
	t.Helper()
	for i := range steps {
		if p.Done() {
			t.Fatalf("done ahead of step %d of %d", i+1, steps)
		}
		if got := p.Step(a); got != (i == steps-1) || p.Done() != got {
			t.Fatalf("step %d of %d: %t, Done: %t", i+1, steps, got, p.Done())
		}
	}
}

// P7.1: Init lets all slots be free, rising, with the tag 0, whatever memory had; it changes no other cell.
func TestInit(t *testing.T) {
	for _, l := range lays() {
		for _, v := range []uint64{0, 1, 2, 1 << 16, math.MaxUint64} {
			a := filled(t, l, v)
			to := map[int]uint64{l.Free(): 1}
			for s := range l.Slots {
				to[l.NextFree(s)] = uint64(s) + 2
			}
			if l.Slots == 0 {
				to[l.Free()] = 0
			} else {
				to[l.NextFree(l.Slots-1)] = 0
			}
			changes(t, a, to, func() { Init(mem.Of(a), l) })
			listed(t, a, l, rising(0, l.Slots)...)
		}
	}
}

// P7.1: Init once more, of memory whose slots were taken and given: all are free, rising, and the tag is 0 again.
func TestInitAgain(t *testing.T) {
	l := slots(3)
	a := begun(t, l)
	want := cells(a)
	for range 2 {
		run(t, NewTake(l), a, 3)
	}
	run(t, NewGive(l, 0), a, 3)
	listed(t, a, l, 0, 2)
	Init(mem.Of(a), l)
	if !slices.Equal(cells(a), want) {
		t.Errorf("Init once more: %v; want %v", cells(a), want)
	}
	listed(t, a, l, 0, 1, 2)
}

// P7.1: Init and List of any memory, a trace and one that is another's too; the trace's arena stays.
func TestAnyMemory(t *testing.T) {
	for _, l := range lays() {
		a := filled(t, l, 77)
		x := mem.Over(a)
		o := odd{}
		changes(t, a, nil, func() {
			for _, m := range []mem.Mem{x, o, make(strict, l.Cells())} {
				Init(m, l)
				if got := List(m, l); !slices.Equal(got, rising(0, l.Slots)) {
					t.Errorf("%v, List: %v", l, got)
				}
			}
		})
		want := []int{l.Free()}
		for s := range l.Slots {
			want = append(want, l.NextFree(s))
		}
		slices.Sort(want)
		if !slices.Equal(x.Changed(), want) {
			t.Errorf("%v, Init stored %v; want %v", l, x.Changed(), want)
		}
		for i := range o {
			if !slices.Contains(want, i) {
				t.Errorf("%v, Init stored %d", l, i)
			}
		}
	}
}

// P7.1: List tells the free slots in the row's order, whichever they are, and whatever the tag is.
func TestListInOrder(t *testing.T) {
	rows := [][]int{
		{}, {0}, {1}, {3}, {0, 1}, {1, 0}, {3, 0}, {2, 3, 1}, {0, 1, 2, 3}, {3, 2, 1, 0}, {1, 3, 0, 2}, {2, 0, 3, 1},
	}
	for _, row := range rows {
		for _, tag := range append(tags, 1<<48-1) {
			listed(t, chained(t, slots(4), tag, row...), slots(4), row...)
		}
	}
	var all []int
	for i := range 48 {
		all = append(all, i*29%48)
	}
	listed(t, chained(t, slots(48), 5, all...), slots(48), all...)
	listed(t, chained(t, slots(48), 5, 47), slots(48), 47)
}

// P7.1: List changes nothing: it has loads alone.
func TestListLoads(t *testing.T) {
	l := slots(3)
	a := chained(t, l, 9, 2, 0)
	was := a.Counts()
	changes(t, a, nil, func() { List(mem.Of(a), l) })
	is := a.Counts()
	if is.Loads = was.Loads; is != was {
		t.Errorf("counted %v; want %v, but for loads", is, was)
	}
}

// P7.1: two answers of List share no memory, spare room too.
func TestListIsNew(t *testing.T) {
	l := slots(5)
	a := begun(t, l)
	x, y := List(mem.Of(a), l), List(mem.Of(a), l)
	x = x[:cap(x)]
	for i := range x {
		x[i] = 99
	}
	if !slices.Equal(y, rising(0, 5)) || slices.Contains(y[:cap(y)], 99) {
		t.Errorf("List, told with another answer: %v", y)
	}
	listed(t, a, l, 0, 1, 2, 3, 4)
}

// P7.1: of memory that isn't right List tells at most as many slots as there are, and only such that are there.
func TestListWrongMemory(t *testing.T) {
	for n := range 5 {
		l := slots(n)
		for _, v := range []uint64{uint64(n) + 1, uint64(n) + 2, 49, 1<<16 - 1, 1 << 16, 1<<16 | 1, 1 << 32, 1<<32 | 1, 1 << 63, math.MaxUint64} {
			listed(t, filled(t, l, v&^(1<<16-1)|uint64(n+1)), l)
			for s := range n {
				a := begun(t, l)
				a.Store(l.NextFree(s), v)
				listed(t, a, l, rising(0, s+1)...)
			}
		}
		// Rows that go around: to any slot, from any one.
		for from := range n {
			for to := range n {
				a := begun(t, l)
				a.Store(l.NextFree(from), uint64(to)+1)
				got := List(mem.Of(a), l)
				outside := slices.ContainsFunc(got, func(s int) bool { return s < 0 || s >= n })
				if len(got) > n || outside || got[0] != 0 {
					t.Errorf("%d slots, %d is behind %d: %v", n, to, from, got)
				}
			}
		}
	}
}

// P1: of a lay that isn't right all calls end, and none panics; nothing is there.
func TestWrongLay(t *testing.T) {
	for _, l := range wrongLays() {
		for _, n := range []int{0, 1, 300} {
			a, _ := cell.New(n)
			for i := range n {
				a.Store(i, 1)
			}
			changes(t, a, nil, func() {
				for _, m := range []mem.Mem{mem.Of(a), strict{}} {
					Init(m, l)
					if got := List(m, l); len(got) != 0 {
						t.Errorf("%v, List: %v", l, got)
					}
				}
				x := NewTake(l)
				if !x.Step(a) || !x.Done() {
					t.Errorf("%v: a Take goes on", l)
				}
				took(t, x, 0, false)
				for _, s := range []int{math.MinInt, -1, 0, 2, math.MaxInt} {
					if g := NewGive(l, s); !g.Step(a) || !g.Done() {
						t.Errorf("%v: a Give of %d goes on", l, s)
					}
				}
			})
		}
	}
}

// P1: in an arena that hasn't the lay's cells no step panics.
func TestSmallArena(t *testing.T) {
	l := slots(3)
	for n := range l.Cells() {
		a, _ := cell.New(n)
		Init(mem.Of(a), l)
		List(mem.Of(a), l)
		x, g := NewTake(l), NewGive(l, 2)
		for range 20 {
			x.Step(a)
			g.Step(a)
			x.Slot()
		}
	}
}

// P1: a Give of a slot that isn't there does nothing.
func TestGiveNoSlot(t *testing.T) {
	for n := range 4 {
		l := slots(n)
		a := begun(t, l)
		for _, s := range []int{math.MinInt, -2, -1, n, n + 1, 48, 1<<16 - 1, 1 << 16, 1 << 32, math.MaxInt} {
			changes(t, a, nil, func() {
				if g := NewGive(l, s); !g.Step(a) || !g.Step(a) || !g.Step(a) || !g.Done() {
					t.Errorf("%d slots: a Give of %d goes on", n, s)
				}
			})
		}
		listed(t, a, l, rising(0, n)...)
	}
}

// P7.2: a Take of three steps: a load of the head, a load of what is behind its slot, a swap; at each tag.
func TestTake(t *testing.T) {
	rows := [][]int{{0}, {3}, {0, 1}, {2, 0, 3}, {3, 2, 1, 0}}
	for _, row := range rows {
		for _, tag := range tags {
			l := slots(4)
			a := chained(t, l, tag, row...)
			x := NewTake(l)
			if x == nil || x.Done() {
				t.Fatalf("NewTake: %v", x)
			}
			took(t, x, 0, false)
			for range 2 {
				changes(t, a, nil, func() { step(t, x, a, aLoad, false) })
				took(t, x, 0, false)
			}
			link := uint64(0)
			if len(row) > 1 {
				link = uint64(row[1]) + 1
			}
			changes(t, a, map[int]uint64{l.Free(): (tag+1)<<16 | link}, func() { step(t, x, a, aSwap, true) })
			for range 3 {
				took(t, x, row[0], true)
				changes(t, a, nil, func() { step(t, x, a, none, true) })
			}
			listed(t, a, l, row[1:]...)
		}
	}
}

// P7.2: a Take where no slot is free has one step, a load, and took none.
func TestTakeNone(t *testing.T) {
	for n := range 4 {
		for _, tag := range append(tags, 1<<48-1) {
			l := slots(n)
			a := chained(t, l, tag)
			x := NewTake(l)
			took(t, x, 0, false)
			changes(t, a, nil, func() { step(t, x, a, aLoad, true) })
			for range 3 {
				took(t, x, 0, false)
				changes(t, a, nil, func() { step(t, x, a, none, true) })
			}
			headed(t, a, l, tag, 0)
		}
	}
}

// P7.2: one that took none stays so, though a slot is free later.
func TestTakeNoneStays(t *testing.T) {
	l := slots(1)
	a := begun(t, l)
	run(t, NewTake(l), a, 3)
	x := NewTake(l)
	run(t, x, a, 1)
	run(t, NewGive(l, 0), a, 3)
	step(t, x, a, none, true)
	took(t, x, 0, false)
	listed(t, a, l, 0)
}

// P7.2: all slots of each lay are taken, rising, three steps each; then there is none; and all are given again.
func TestTakeAll(t *testing.T) {
	for _, l := range lays() {
		a := begun(t, l)
		for s := range l.Slots {
			x := NewTake(l)
			run(t, x, a, 3)
			took(t, x, s, true)
			listed(t, a, l, rising(s+1, l.Slots)...)
		}
		x := NewTake(l)
		run(t, x, a, 1)
		took(t, x, 0, false)
		headed(t, a, l, uint64(l.Slots), 0)
		for s := l.Slots - 1; s >= 0; s-- {
			run(t, NewGive(l, s), a, 3)
			listed(t, a, l, rising(s, l.Slots)...)
		}
		headed(t, a, l, 2*uint64(l.Slots), uint64(min(l.Slots, 1)))
	}
}

// P7.2: a Give of three steps: a load of the head, a store of its link behind the slot, a swap; at each tag.
func TestGive(t *testing.T) {
	rows := [][]int{{1}, {1, 0}, {1, 3, 0}, {0}, {3, 0}, {2}, {0, 1, 2, 3}}
	for _, row := range rows {
		for _, tag := range tags {
			l := slots(4)
			a := chained(t, l, tag, row[1:]...)
			a.Store(l.NextFree(row[0]), 99)
			g := NewGive(l, row[0])
			if g == nil || g.Done() {
				t.Fatalf("NewGive: %v", g)
			}
			changes(t, a, nil, func() { step(t, g, a, aLoad, false) })
			link := uint64(0)
			if len(row) > 1 {
				link = uint64(row[1]) + 1
			}
			changes(t, a, map[int]uint64{l.NextFree(row[0]): link}, func() { step(t, g, a, aStore, false) })
			listed(t, a, l, row[1:]...)
			to := map[int]uint64{l.Free(): (tag+1)<<16 | uint64(row[0]+1)}
			changes(t, a, to, func() { step(t, g, a, aSwap, true) })
			for range 3 {
				changes(t, a, nil, func() { step(t, g, a, none, true) })
			}
			listed(t, a, l, row...)
		}
	}
}

// P7.2: a Take uses what it loaded: of the head that it loaded the slot, of that one what was behind it then.
func TestTakeUsesWhatWasLoaded(t *testing.T) {
	l := slots(4)
	a := begun(t, l)
	x := NewTake(l)
	step(t, x, a, aLoad, false)
	a.Store(l.Free(), 3)
	a.Store(l.NextFree(0), 4)
	step(t, x, a, aLoad, false)
	a.Store(l.NextFree(0), 2)
	a.Store(l.Free(), 1)
	step(t, x, a, aSwap, true)
	took(t, x, 0, true)
	headed(t, a, l, 1, 4)
}

// P7.2: a Take whose swap tells false begins anew, as often as that is so, and then takes what is first then, if there is
// any.
func TestTakeBeginsAnew(t *testing.T) {
	l := slots(4)
	for swapped := range 5 {
		a := begun(t, l)
		x := NewTake(l)
		for i := range swapped {
			step(t, x, a, aLoad, false)
			step(t, x, a, aLoad, false)
			run(t, NewTake(l), a, 3)
			changes(t, a, nil, func() { step(t, x, a, aMiss, false) })
			took(t, x, 0, false)
			listed(t, a, l, rising(i+1, 4)...)
		}
		if swapped == 4 {
			step(t, x, a, aLoad, true)
			took(t, x, 0, false)
			continue
		}
		run(t, x, a, 3)
		took(t, x, swapped, true)
		headed(t, a, l, uint64(swapped)+1, uint64(swapped+2)%5)
	}
}

// P7.2: a Give whose swap tells false begins anew, and stores what is first then behind its slot.
func TestGiveBeginsAnew(t *testing.T) {
	l := slots(4)
	a := begun(t, l)
	run(t, NewTake(l), a, 3)
	g := NewGive(l, 0)
	for i := range 3 {
		step(t, g, a, aLoad, false)
		step(t, g, a, aStore, false)
		run(t, NewTake(l), a, 3)
		changes(t, a, nil, func() { step(t, g, a, aMiss, false) })
		listed(t, a, l, rising(i+2, 4)...)
	}
	run(t, NewGive(l, 2), a, 3)
	step(t, g, a, aLoad, false)
	changes(t, a, map[int]uint64{l.NextFree(0): 3}, func() { step(t, g, a, aStore, false) })
	step(t, g, a, aSwap, true)
	listed(t, a, l, 0, 2)
	headed(t, a, l, 6, 1)
}

// P7.2: programs have nothing to do with one another, but for memory.
func TestProgramsApart(t *testing.T) {
	l := slots(3)
	a, b := begun(t, l), begun(t, l)
	x, y := NewTake(l), NewTake(l)
	step(t, x, a, aLoad, false)
	step(t, y, b, aLoad, false)
	run(t, NewTake(l), b, 3)
	step(t, x, a, aLoad, false)
	step(t, y, b, aLoad, false)
	step(t, x, a, aSwap, true)
	step(t, y, b, aMiss, false)
	run(t, y, b, 3)
	took(t, x, 0, true)
	took(t, y, 1, true)
}

// P7.3: who loaded ahead of a slot's leaving and coming back doesn't take or give by what it loaded, though the head has
// the same slot again.
func TestSameSlotAgain(t *testing.T) {
	l := slots(3)
	a := begun(t, l)
	for range 2 {
		run(t, NewTake(l), a, 3)
	}
	// 2 is free; a Give of 1 and a Take stand ahead of their swaps.
	g, x := NewGive(l, 1), NewTake(l)
	for range 2 {
		g.Step(a)
		x.Step(a)
	}
	run(t, NewTake(l), a, 3)
	run(t, NewGive(l, 0), a, 3)
	run(t, NewGive(l, 2), a, 3)
	listed(t, a, l, 2, 0)
	step(t, x, a, aMiss, false)
	step(t, g, a, aMiss, false)
	run(t, x, a, 3)
	took(t, x, 2, true)
	run(t, g, a, 3)
	listed(t, a, l, 1, 0)
}

// The chapter's example.
func TestExample(t *testing.T) {
	l := slots(2)
	a := begun(t, l)
	x, y, z := NewTake(l), NewTake(l), NewTake(l)
	run(t, x, a, 3)
	run(t, y, a, 3)
	run(t, z, a, 1)
	took(t, x, 0, true)
	took(t, y, 1, true)
	took(t, z, 0, false)
}
