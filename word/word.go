// Package word is layer 1: words of 64 bits that have an old and a new meaning, and the states of threads by which they mean.
package word

import "tombolo/api"

// Where a word's parts begin among its bits; New begins at the lowest one.
const (
	oldShift    = 16
	threadShift = 32
	tagShift    = 40
)

// What is left of a word's parts when they are shifted down.
const (
	indexMask  = 1<<16 - 1
	threadMask = 1<<8 - 1
)

// A state's lowest bit tells whether its thread is done; the tag stands above it.
const (
	doneBit    = 1
	stateShift = 1
	stateMask  = 1<<25 - 1
)

// Word has an old and a new meaning; its thread's state tells which one holds.
type Word struct{ Old, New, Thread, Tag int }

// Right tells whether w may be.
func (w Word) Right() bool {
	if w.Thread == 0 {
		return w.New == w.Old && w.Tag == 0 && isIndex(w.New)
	}
	return isIndex(w.Old) && isIndex(w.New) && isThread(w.Thread) && isTag(w.Tag)
}

// Plain tells whether w, a right word, has one meaning, of no thread.
func (w Word) Plain() bool { return w.Right() && w.Thread == 0 }

// Pack tells w's bits.
func Pack(w Word) (uint64, api.Errno) {
	if !w.Right() {
		return 0, api.ErrRange
	}
	return uint64(w.Tag)<<tagShift | uint64(w.Thread)<<threadShift | uint64(w.Old)<<oldShift | uint64(w.New), api.OK
}

// Unpack tells the word that has the bits v.
func Unpack(v uint64) (Word, api.Errno) {
	w := Word{
		Old:    int(v >> oldShift & indexMask),
		New:    int(v & indexMask),
		Thread: int(v >> threadShift & threadMask),
		Tag:    int(v >> tagShift),
	}
	if !w.Right() {
		return Word{}, api.ErrWord
	}
	return w, api.OK
}

// Of tells the plain word of x, which is cut to an index.
func Of(x int) Word {
	x = min(max(x, 0), api.MaxIndex)
	return Word{Old: x, New: x}
}

// State tells the bits of a thread's state.
func State(tag int, done bool) (uint64, api.Errno) {
	if !isTag(tag) {
		return 0, api.ErrRange
	}
	v := uint64(tag) << stateShift
	if done {
		v |= doneBit
	}
	return v, api.OK
}

// Tag tells the tag of the state that has the bits v, and whether it is done.
func Tag(v uint64) (tag int, done bool, e api.Errno) {
	if v&^stateMask != 0 {
		return 0, false, api.ErrWord
	}
	return int(v >> stateShift), v&doneBit != 0, api.OK
}

// Means tells what w, a right word, means, if its thread's state is tag and done.
func Means(w Word, tag int, done bool) int {
	// A state past the word's tag: the thread committed what it wrote by that tag.
	if w.Plain() || tag > w.Tag || tag == w.Tag && done {
		return w.New
	}
	return w.Old
}

func isIndex(x int) bool { return 0 <= x && x <= api.MaxIndex }

func isThread(x int) bool { return 0 <= x && x <= api.MaxThreads }

func isTag(x int) bool { return 0 <= x && x <= api.MaxTag }
