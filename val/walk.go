package val

// What a walk meets.
const (
	over    = iota // nothing more: all was gone through
	endless        // a list that is within itself, so that nothing would ever be over
	opened         // a list, whose items come next
	closed         // the end of the list that was opened last and isn't closed
	single         // what is no list
)

// walk goes through a value, item by item. It keeps the path to where it is, as lists may be deeper than calls can be.
type walk struct {
	path []place
	mark int // where on the path the list is that new ones are held against
}

// place is a list of a walk's path, and the item of it that comes next.
type place struct {
	list []any
	next int
}

// begin tells a walk through v, as if v were the one item of a list.
func begin(v any) *walk {
	return &walk{path: []place{{list: []any{v}}}}
}

// next tells what comes next, and the value that is met, if it is single.
func (w *walk) next() (met int, v any) {
	p := &w.path[len(w.path)-1]
	if p.next == len(p.list) {
		return w.leave(), nil
	}
	v = p.list[p.next]
	p.next++
	if list, ok := Items(v); ok {
		return w.enter(list), nil
	}
	return single, v
}

// enter goes into a list, if it isn't the marked one, which would be within itself then.
//
// Where lists have no end, the path goes round for ever; as the mark is put on at the path's end whenever the path has
// become twice as long, at last it stays for more than one whole round, and is met again.
func (w *walk) enter(list []any) int {
	if sameMemory(list, w.path[w.mark].list) {
		return endless
	}
	w.path = append(w.path, place{list: list})
	if len(w.path) > 2*(w.mark+1) {
		w.mark = len(w.path) - 1
	}
	return opened
}

// leave goes out of the list that the path ends with; the first one is the walk's own.
func (w *walk) leave() int {
	if len(w.path) == 1 {
		return over
	}
	w.path = w.path[:len(w.path)-1]
	w.mark = min(w.mark, len(w.path)-1)
	return closed
}

// sameMemory tells whether both lists are the same items in memory, and not empty.
func sameMemory(a, b []any) bool {
	return len(a) == len(b) && len(a) > 0 && &a[0] == &b[0]
}
