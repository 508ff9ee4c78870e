package ir

import (
	"strings"

	"turnstile/api"
	"turnstile/word"
)

// writer writes graphs of which Check has found nothing.
type writer struct{ strings.Builder }

func (w *writer) write(parts ...string) {
	for _, s := range parts {
		w.WriteString(s)
	}
}

func (w *writer) code(c api.Code) {
	w.write("words ", numberText(c.Words), "\n")
	for _, g := range c.Threads {
		w.graph(g)
	}
}

func (w *writer) graph(g api.Graph) {
	w.write("thread ", numberText(len(g.Refs)), " ", numberText(g.Sites))
	for r, holds := range g.Refs {
		if holds {
			w.write(" ", registerText(r))
		}
	}
	w.write("\n")
	for _, b := range g.Blocks {
		w.block(b)
	}
}

func (w *writer) block(b api.Block) {
	w.write("block\n")
	for _, i := range b.Ins {
		name, has := insLine(i.Kind)
		w.line(name, has, i)
	}
	name, has := lastLine(b.Last)
	w.line(name, has, ending(b))
}

func (w *writer) line(name, has string, i api.Ins) {
	w.write(name)
	for _, letter := range has {
		w.write(" ", thingText(letter, i))
	}
	w.write("\n")
}

// thingText tells the thing of an instruction for which a letter stands.
func thingText(letter rune, i api.Ins) string {
	switch letter {
	case 'o':
		return calcName(i.Calc)
	case 'n':
		return word.Text(i.N)
	case 'b', 'c':
		return numberText(*slot(&i, letter))
	case '-':
		if i.C == none {
			return "-"
		}
		fallthrough
	default:
		return registerText(*slot(&i, letter))
	}
}

func numberText(n int) string { return word.Text(int64(n)) }

func registerText(r int) string { return "r" + numberText(r) }
