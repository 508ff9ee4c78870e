package ir

import (
	"strings"

	"turnstile/api"
	"turnstile/word"
)

// mostRegister is the greatest number that a register has in a text, be there such a register or not.
const mostRegister = 999999999

// reader reads a text line by line, up to the first one that may not stand where it stands.
type reader struct {
	code api.Code
	// read is how many lines were read, and so the number of the one that is.
	read int
	// open: it is a block's, whose end is still to come.
	open bool
	// threads are the lines of the threads.
	threads []int
	// blocks are the lines of their blocks, thread by thread.
	blocks [][]int
}

// line reads the next line, with its line feed, if it has one.
func (r *reader) line(l string) api.Errno {
	l, ended := strings.CutSuffix(l, "\n")
	if !ended {
		return api.ErrForm
	}
	first, things := cut(l)
	switch {
	case r.read == 0:
		return taken(first == "words" && r.words(things))
	case r.open:
		return taken(r.ins(first, things) || r.last(first, things))
	case first == "thread":
		return r.thread(things)
	}
	return taken(first == "block" && len(things) == 0 && r.block())
}

// cut parts a line's words.
func cut(l string) (first string, things []string) {
	words := strings.Split(l, " ")
	return words[0], words[1:]
}

func taken(right bool) api.Errno {
	if right {
		return api.OK
	}
	return api.ErrForm
}

func (r *reader) words(things []string) (ok bool) {
	if len(things) != 1 {
		return false
	}
	r.code.Words, ok = number(things[0])
	return ok
}

func (r *reader) thread(things []string) api.Errno {
	if len(things) < 2 {
		return api.ErrForm
	}
	many, ok := number(things[0])
	sites, too := number(things[1])
	if !ok || !too || many < 0 {
		return api.ErrForm
	}
	// Ahead of what stands behind: so many registers are not even made.
	if many > api.MaxRegs {
		return api.ErrLimit
	}
	g := api.Graph{Refs: make([]bool, many), Sites: sites}
	if !references(g.Refs, things[2:]) {
		return api.ErrForm
	}
	r.code.Threads = append(r.code.Threads, g)
	r.threads = append(r.threads, r.read)
	r.blocks = append(r.blocks, nil)
	return api.OK
}

// references takes down which registers hold references, if those that are told are there and rise.
func references(refs []bool, told []string) bool {
	from := 0
	for _, s := range told {
		n, ok := register(s)
		if !ok || n < from || n >= len(refs) {
			return false
		}
		refs[n] = true
		from = n + 1
	}
	return true
}

// block begins one, if there is a thread.
func (r *reader) block() bool {
	if len(r.code.Threads) == 0 {
		return false
	}
	g := r.graph()
	g.Blocks = append(g.Blocks, api.Block{})
	lines := &r.blocks[len(r.blocks)-1]
	*lines = append(*lines, r.read)
	r.open = true
	return true
}

// graph is the one that is read.
func (r *reader) graph() *api.Graph { return &r.code.Threads[len(r.code.Threads)-1] }

// top is the block that is read.
func (r *reader) top() *api.Block { return &r.graph().Blocks[len(r.graph().Blocks)-1] }

func (r *reader) ins(first string, things []string) bool {
	for kind := api.InConst; kind <= api.InEnd; kind++ {
		name, has := insLine(kind)
		if name != first {
			continue
		}
		i, ok := readThings(has, things)
		i.Kind = kind
		r.top().Ins = append(r.top().Ins, i)
		return ok
	}
	return false
}

func (r *reader) last(first string, things []string) bool {
	for kind := api.LaJump; kind <= api.LaHalt; kind++ {
		name, has := lastLine(kind)
		if name != first {
			continue
		}
		i, ok := readThings(has, things)
		b := r.top()
		b.Last, b.Reg, b.Yes, b.No = kind, i.A, i.B, i.C
		r.open = false
		return ok
	}
	return false
}

// readThings answers an instruction, but for its kind, that has what its line tells behind its word.
func readThings(has string, things []string) (i api.Ins, ok bool) {
	if len(things) != len(has) {
		return api.Ins{}, false
	}
	for at, letter := range has {
		if !readThing(&i, letter, things[at]) {
			return api.Ins{}, false
		}
	}
	return i, true
}

func readThing(i *api.Ins, letter rune, s string) (ok bool) {
	switch letter {
	case 'o':
		i.Calc, ok = calcOf(s)
	case 'n':
		i.N, ok = long(s)
	case 'b', 'c':
		*slot(i, letter), ok = number(s)
	case '-':
		if s == "-" {
			i.C = none
			return true
		}
		fallthrough
	default:
		*slot(i, letter), ok = register(s)
	}
	return ok
}

func calcOf(s string) (api.Calc, bool) {
	for c := api.CalcAdd; c <= api.CalcLe; c++ {
		if calcName(c) == s {
			return c, true
		}
	}
	return api.CalcNone, false
}

func long(s string) (int64, bool) {
	n, e := word.Parse(s)
	return n, e == api.OK
}

func number(s string) (int, bool) {
	n, ok := long(s)
	return int(n), ok
}

func register(s string) (int, bool) {
	digits, ok := strings.CutPrefix(s, "r")
	if !ok {
		return 0, false
	}
	n, ok := number(digits)
	return n, ok && n >= 0 && n <= mostRegister
}

// lineOf is the line of a place: that of the instruction or the end there, else that of the thread, else the first one.
func (r *reader) lineOf(thread int, at api.Spot) int {
	switch {
	case thread >= len(r.threads):
		return 0
	case at.Block >= len(r.blocks[thread]):
		return r.threads[thread]
	}
	return r.blocks[thread][at.Block] + 1 + at.Ins
}
