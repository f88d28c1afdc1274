package slot

import (
	"slices"
	"testing"

	"tombolo/cell"
	"tombolo/lay"
	"tombolo/mem"
)

// What a worker does.
const (
	idle = iota
	taking
	giving
)

// worker takes slots, and gives what it took, one program at a time; it is a value that may be held against others.
type worker struct {
	does int
	take Take
	give Give
	has  int  // the last slot that it took and didn't give, and 1, or 0
	left int  // how many programs it begins yet
	miss bool // whether its swap would tell false: another one's told true behind its load of the head
}

// next begins the worker's next program, if it has none and any is left: a Give of what it has, or a Take.
func (w *worker) next(l lay.Lay) {
	if w.does != idle || w.left == 0 {
		return
	}
	w.left--
	if w.has > 0 {
		w.does, w.give, w.has = giving, *NewGive(l, w.has-1), 0
	} else {
		w.does, w.take = taking, *NewTake(l)
	}
}

// step does a step of the worker's program, and tells whether it swapped; it fails the test where the program's swap
// tells other than it should.
func (w *worker) step(t *testing.T, a *cell.Arena) bool {
	t.Helper()
	was := a.Counts()
	var done bool
	if w.does == taking {
		done = w.take.Step(a)
	} else {
		done = w.give.Step(a)
	}
	is := a.Counts()
	swapped, missed := is.Swaps > was.Swaps, is.Misses > was.Misses
	if missed && !w.miss {
		t.Errorf("a swap told false, though no other one told true")
	}
	if swapped && w.miss {
		t.Errorf("a swap told true, though another one did so behind the load")
	}
	if missed {
		w.miss = false
	}
	if sum(is) != sum(was)+1 {
		t.Errorf("a step of %d accesses", sum(is)-sum(was))
	}
	if !done {
		return swapped
	}
	if s, ok := w.take.Slot(); w.does == taking && ok {
		w.has = s + 1
	} else if w.does == taking && s != 0 {
		t.Errorf("none was taken, which is %d", s)
	}
	w.does, w.miss = idle, false
	w.take, w.give = Take{}, Give{}
	return swapped
}

// sum tells how many accesses there were.
func sum(c cell.Counts) int { return c.Loads + c.Stores + c.Swaps + c.Misses + c.Adds }

// each fails the test, if the free slots, the taken ones, and those that are being given aren't all slots, each once.
func each(t *testing.T, a *cell.Arena, l lay.Lay, workers []worker) {
	t.Helper()
	all := List(mem.Of(a.Copy()), l)
	for _, w := range workers {
		if w.has > 0 {
			all = append(all, w.has-1)
		}
		if w.does == giving {
			all = append(all, w.give.slot)
		}
	}
	slices.Sort(all)
	if !slices.Equal(all, rising(0, l.Slots)) {
		t.Fatalf("free, taken and being given: %v; want all %d slots, each once", all, l.Slots)
	}
}

// pick does a step of one worker, and looks whether all is as it should be then.
func pick(t *testing.T, a *cell.Arena, l lay.Lay, workers []worker, i int) {
	t.Helper()
	workers[i].next(l)
	if workers[i].step(t, a) {
		for j := range workers {
			// Who is at its load of the head has nothing that the swap could spoil.
			if j != i && !atHead(workers[j]) {
				workers[j].miss = true
			}
		}
	}
	each(t, a, l, workers)
}

// atHead tells whether the worker's next access loads the head.
func atHead(w worker) bool {
	return w.does == idle || w.does == taking && w.take.at == loadHead || w.does == giving && w.give.at == loadHead
}

// world is a state of memory and of three workers.
type world struct {
	cells   [4]uint64
	workers [3]worker
}

// orders goes through all orders of steps of some workers, from a state on, but for states that were seen.
type orders struct {
	l    lay.Lay
	seen map[world]bool
	ends int
}

// cellsOf tells the numbers of the cells of the free slots.
func cellsOf(l lay.Lay) []int {
	all := []int{l.Free()}
	for s := range l.Slots {
		all = append(all, l.NextFree(s))
	}
	return all
}

func (o *orders) walk(t *testing.T, a *cell.Arena, workers [3]worker) {
	t.Helper()
	now := world{workers: workers}
	b := a.Copy()
	for i, c := range cellsOf(o.l) {
		now.cells[i], _ = b.Load(c)
	}
	if o.seen[now] || t.Failed() {
		return
	}
	o.seen[now] = true
	ended := true
	for i, w := range workers {
		if w.does == idle && w.left == 0 {
			continue
		}
		ended = false
		c, then := a.Copy(), workers
		pick(t, c, o.l, then[:], i)
		o.walk(t, c, then)
	}
	if ended {
		o.ends++
	}
}

// P7.3: whatever the order of steps is, of up to three workers that take and give a few slots, each slot is once, and a
// swap tells false just if another one told true behind its load.
func TestAllOrders(t *testing.T) {
	for n := range 4 {
		l := slots(n)
		for _, left := range [][3]int{{1, 1, 1}, {2, 2, 2}, {3, 3, 0}, {4, 4, 0}, {3, 2, 1}, {6, 1, 0}} {
			o := orders{l: l, seen: map[world]bool{}}
			a := begun(t, l)
			var workers [3]worker
			for i := range workers {
				workers[i].left = left[i]
			}
			o.walk(t, a, workers)
			if o.ends == 0 {
				t.Errorf("%d slots, %v programs: none came to an end", n, left)
			}
		}
	}
}

// P7.3: so it is of long rows of steps of many workers, by some fixed rules for who comes next.
func TestLongRows(t *testing.T) {
	for _, n := range []int{0, 1, 2, 3, 5, 8, 48} {
		l := slots(n)
		a := begun(t, l)
		workers := make([]worker, 9)
		for i := range workers {
			workers[i].left = 1 << 30
		}
		x := uint64(n) + 1
		for range 20000 {
			// The high bits of a product that goes on.
			x = x*6364136223846793005 + 1442695040888963407
			pick(t, a, l, workers, int(x>>40%uint64(len(workers))))
			if t.Failed() {
				return
			}
		}
		c := a.Counts()
		if n > 0 && (c.Misses == 0 || c.Swaps == 0) {
			t.Errorf("%d slots: %v", n, c)
		}
		if v, _ := a.Load(l.Free()); v>>16 != uint64(c.Swaps) {
			t.Errorf("%d slots: the tag %d, of %d swaps", n, v>>16, c.Swaps)
		}
	}
}

// P7.3: many slots taken by one, and given in any order, are all free then, in the row that the last ones lead.
func TestGivenInAnyOrder(t *testing.T) {
	for _, by := range []int{1, 5, 7, 11, 13, 47} {
		l := slots(48)
		a := begun(t, l)
		for range 48 {
			run(t, NewTake(l), a, 3)
		}
		listed(t, a, l)
		var want []int
		for i := range 48 {
			s := i * by % 48
			run(t, NewGive(l, s), a, 3)
			want = append([]int{s}, want...)
			listed(t, a, l, want...)
		}
	}
}

// P7.3: all of several programs at one step, each in turn: just one of those that load the same head swaps it.
func TestInTurn(t *testing.T) {
	l := slots(4)
	a := begun(t, l)
	var takes [4]*Take
	for i := range takes {
		takes[i] = NewTake(l)
	}
	for round := range 4 {
		for range 3 {
			for _, x := range takes {
				x.Step(a)
			}
		}
		for i, x := range takes {
			if x.Done() != (i <= round) {
				t.Errorf("round %d, Take %d: %t", round, i, x.Done())
			}
		}
	}
	for i, x := range takes {
		took(t, x, i, true)
	}
	if c := a.Counts(); c.Swaps != 4 || c.Misses != 6 {
		t.Errorf("counted %v", c)
	}
	listed(t, a, l)
}
