package source

import (
	"turnstile/api"
	"turnstile/shape"
)

// world is what the threads of a run have in common.
type world struct {
	funcs map[string]*api.Func
	// shared are the words of shared variables; none's, the word 0, is among them.
	shared []value
	parts  layout
	// fuel is how many steps may still be taken.
	fuel int
}

// value is a number, or what a reference names, if it is not nil: the part that it is not is zero, so two values are the same just if they are equal.
type value struct {
	n  int64
	to *thing
}

func truth(is bool) value {
	if is {
		return value{n: 1}
	}
	return value{}
}

// thing is a record or an array that was made; an array's record is empty.
type thing struct {
	record string
	words  []value
}

// layout keeps what shape has answered: it goes through all that it is handed each time that it is asked.
type layout struct {
	// program has no functions and no threads, which make no difference to shape.
	program api.Program
	shared  map[string]int
	sizes   map[api.Type]int
	offsets map[field]int
}

type field struct{ record, name string }

func newLayout(p api.Program) layout {
	things := api.Program{Records: p.Records, Shared: p.Shared}
	return layout{things, map[string]int{}, map[api.Type]int{}, map[field]int{}}
}

// words are as many as shared variables have, and the word 0.
func (l layout) words() int {
	n, _ := shape.Words(l.program)
	return 1 + n
}

func (l layout) sharedWord(name string) int {
	return kept(l.shared, name, func() (int, api.Errno) { return shape.Shared(l.program, name) })
}

func (l layout) size(t api.Type) int {
	return kept(l.sizes, t, func() (int, api.Errno) { return shape.Size(l.program, t) })
}

func (l layout) offset(f field) int {
	return kept(l.offsets, f, func() (int, api.Errno) { return shape.Offset(l.program, f.record, f.name) })
}

// kept asks only for what was not asked for before. There is no error: in a right program whatever is named is there.
func kept[K comparable](known map[K]int, key K, ask func() (int, api.Errno)) int {
	n, ok := known[key]
	if !ok {
		n, _ = ask()
		known[key] = n
	}
	return n
}

func newWorld(p api.Program, fuel int) *world {
	parts := newLayout(p)
	w := &world{
		funcs:  make(map[string]*api.Func, len(p.Funcs)),
		shared: make([]value, parts.words()),
		parts:  parts,
		fuel:   fuel,
	}
	for i := range p.Funcs {
		w.funcs[p.Funcs[i].Name] = &p.Funcs[i]
	}
	return w
}

// made answers a new thing, all in it 0 or nil.
func (w *world) made(t api.Type) *thing {
	made := &thing{words: make([]value, w.parts.size(t))}
	if t.Kind == api.TyRef {
		made.record = t.Name
	}
	return made
}

// step is taken ahead of all that a statement or an expression does.
func (w *world) step() {
	if w.fuel == 0 {
		panic(spent{})
	}
	w.fuel--
}
