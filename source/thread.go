package source

import (
	"slices"

	"turnstile/api"
)

// thread stands between two of its leaps.
type thread struct {
	*world
	path *path
	told []int64
	// waiting are the prints of a block that was done, or is being done.
	waiting []int64
	// changes are those that the block which is being done has made to what is shared, the first one ahead.
	changes []change
	end     api.EndKind
}

// change is a word, and what it was.
type change struct {
	word *value
	was  value
}

// failure leaves an expression in the midst of which there is an error: how that ends the thread.
type failure struct{ end api.EndKind }

// spent leaves a leap for which the fuel does not do.
type spent struct{}

func must(right bool, end api.EndKind) {
	if !right {
		panic(failure{end})
	}
}

func newThreads(p api.Program, fuel int) []*thread {
	w := newWorld(p, fuel)
	threads := make([]*thread, 0, len(p.Threads))
	for _, stmts := range p.Threads {
		threads = append(threads, &thread{world: w, path: newPath(list{stmts: stmts, mine: locals{}})})
	}
	return threads
}

// leap answers whether the fuel does for it; one that does nothing needs none.
func (t *thread) leap() (made bool) {
	switch {
	case len(t.waiting) > 0:
		t.told = append(t.told, t.waiting[0])
		t.waiting = t.waiting[1:]
		return true
	case t.end != api.EndNone:
		return true
	}
	return t.goOn()
}

// goOn takes up the thread where it stands. A leap that is not made leaves its changes behind: it is the last one of the run, and they cannot be seen.
func (t *thread) goOn() (made bool) {
	defer func() {
		switch given := recover().(type) {
		case nil:
		case failure:
			t.undo()
			t.end = given.end
			made = true
		case spent:
			made = false
		default:
			// None of ours: it says nothing of the program.
			panic(given)
		}
	}()
	if t.walk(t.path, false) {
		t.end = api.EndDone
	}
	return true
}

// block does an atomic block: of what is shared, all changes are made within blocks.
func (t *thread) block(stmts []api.Stmt, mine locals) {
	t.walk(newPath(list{stmts: stmts, mine: mine}), true)
	t.changes = nil
}

// undo takes back what a block has done that comes to no end, the last thing first.
func (t *thread) undo() {
	for _, c := range slices.Backward(t.changes) {
		*c.word = c.was
	}
	t.changes = nil
	t.waiting = nil
}
