package parse

import (
	"slices"
	"strings"

	"turnstile/api"
	"turnstile/lex"
)

// mostOpen is how many brackets may be open at once, mostAhead how many signs in a row may stand ahead of an operand.
const (
	mostOpen  = 256
	mostAhead = 256
)

// fault is what the reader gives up with: the first token that may not stand where it stands.
type fault struct {
	errno api.Errno
	line  int
}

// caught answers what the reader gives up with; OK, if it comes to its end.
func caught(read func()) (line int, e api.Errno) {
	defer func() {
		given := recover()
		if given == nil {
			return
		}
		f, ok := given.(fault)
		if !ok {
			// None of ours: it says nothing of the text.
			panic(given)
		}
		line, e = f.line, f.errno
	}()
	read()
	return 0, api.OK
}

// reader goes through a text's tokens, up to the first one that may not stand where it stands.
type reader struct {
	// left are the tokens that are to be read; the last one is none, and stands for the text's end, where no other may stand.
	left  []api.Token
	signs map[string]sign
	// open is how many brackets are open.
	open int
	// part is that of the thing which is read, places are the lines of each part's places.
	part   part
	places [parts][]int
}

// part is one of the parts of a program, in the order of places (R7): a text may have their things in any order.
type part int

const (
	records part = iota
	shared
	funcs
	threads
	parts
)

func newReader(text string) (r *reader, line int, e api.Errno) {
	l, line, e := lex.Tokens(text)
	if e != api.OK {
		return nil, line, e
	}
	end := api.Token{Line: strings.Count(text, "\n")}
	return &reader{left: append(l, end), signs: signs()}, 0, api.OK
}

func (r *reader) next() api.Token { return r.left[0] }

// is says whether the next token is that word or sign: no name and no number is told as one.
func (r *reader) is(text string) bool { return r.next().Text == text }

func (r *reader) ended() bool { return r.next().Kind == api.TkNone }

// take is asked for tokens that may stand there alone, and so never for the text's end.
func (r *reader) take() api.Token {
	t := r.next()
	r.left = r.left[1:]
	return t
}

// has takes that word or sign, if it is the next token.
func (r *reader) has(text string) bool {
	if !r.is(text) {
		return false
	}
	r.take()
	return true
}

func (r *reader) expect(text string) {
	if !r.has(text) {
		panic(r.wrong())
	}
}

func (r *reader) wrong() fault { return fault{api.ErrSyntax, r.next().Line} }

func (r *reader) tooMany() fault { return fault{api.ErrLimit, r.next().Line} }

func (r *reader) name() string {
	if r.next().Kind != api.TkName {
		panic(r.wrong())
	}
	return r.take().Text
}

// between reads two brackets, and by inside what stands between them.
func (r *reader) between(open, shut string, inside func()) {
	if !r.is(open) {
		panic(r.wrong())
	}
	if r.open == mostOpen {
		panic(r.tooMany())
	}
	r.take()
	r.open++
	inside()
	r.expect(shut)
	r.open--
}

// each reads round brackets, and by one each thing between them, with a comma between each two.
func (r *reader) each(one func()) {
	r.between("(", ")", func() {
		if r.is(")") {
			return
		}
		one()
		for r.has(",") {
			one()
		}
	})
}

// place keeps the line of a place that begins with the next token.
func (r *reader) place() {
	r.places[r.part] = append(r.places[r.part], r.next().Line)
}

func (r *reader) lines() []int { return slices.Concat(r.places[:]...) }
