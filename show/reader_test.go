package show_test

import (
	"slices"

	"turnstile/api"
	"turnstile/lex"
)

// reader reads texts by the language's grammar, to hold what is told against it. It is written apart from the program, and stops the test at a text that is none.
type reader struct {
	l []api.Token
}

func newReader(text string) *reader {
	l, line, e := lex.Tokens(text)
	if e != api.OK {
		panic("no tokens at line " + string(rune('0'+line%10)))
	}
	return &reader{l}
}

// next is the next token's text; empty, at the end.
func (r *reader) next() string {
	if len(r.l) == 0 {
		return ""
	}
	return r.l[0].Text
}

func (r *reader) take() api.Token {
	if len(r.l) == 0 {
		panic("the text ends early")
	}
	k := r.l[0]
	r.l = r.l[1:]
	return k
}

func (r *reader) has(s string) bool {
	if r.next() != s {
		return false
	}
	r.take()
	return true
}

func (r *reader) expect(s string) {
	if !r.has(s) {
		panic("not " + s + ", but " + r.next())
	}
}

func (r *reader) name() string {
	k := r.take()
	if k.Kind != api.TkName {
		panic("no name: " + k.Text)
	}
	return k.Text
}

func (r *reader) typeOf() api.Type {
	t := api.Type{Kind: api.TyRef}
	if r.has("[") {
		k := r.take()
		if k.Kind != api.TkNumber {
			panic("no number: " + k.Text)
		}
		t.Kind, t.N = api.TyArray, int(k.N)
		r.expect("]")
	}
	if !r.has("int") {
		t.Name = r.name()
	} else if t.Kind == api.TyRef {
		t.Kind = api.TyInt
	}
	return t
}

func (r *reader) field() api.Field {
	s := r.name()
	return api.Field{Name: s, Type: r.typeOf()}
}

func (r *reader) program() api.Program {
	var p api.Program
	for len(r.l) > 0 {
		switch k := r.take(); k.Text {
		case "record":
			c := api.Record{Name: r.name()}
			for r.expect("{"); !r.has("}"); r.expect(";") {
				c.Fields = append(c.Fields, r.field())
			}
			p.Records = append(p.Records, c)
		case "shared":
			p.Shared = append(p.Shared, r.field())
			r.expect(";")
		case "func":
			f := api.Func{Name: r.name()}
			for r.expect("("); !r.has(")"); {
				if len(f.Params) > 0 {
					r.expect(",")
				}
				f.Params = append(f.Params, r.field())
			}
			if r.next() != "{" {
				f.Result = r.typeOf()
			}
			f.Body = r.list()
			p.Funcs = append(p.Funcs, f)
		case "thread":
			p.Threads = append(p.Threads, r.list())
		default:
			panic("no thing: " + k.Text)
		}
	}
	return p
}

func (r *reader) list() []api.Stmt {
	var l []api.Stmt
	for r.expect("{"); !r.has("}"); {
		l = append(l, r.stmt())
	}
	return l
}

func (r *reader) stmt() api.Stmt {
	var s api.Stmt
	switch r.next() {
	case "if", "while", "atomic":
		return r.block()
	case "var":
		r.take()
		f := r.field()
		s = api.Stmt{Kind: api.StVar, Name: f.Name, Type: f.Type}
		if r.has("=") {
			s.X = r.expr()
		}
	case "print":
		r.take()
		s = api.Stmt{Kind: api.StPrint, X: r.expr()}
	case "return":
		r.take()
		s.Kind = api.StReturn
		if r.next() != ";" {
			s.X = r.expr()
		}
	default:
		s = api.Stmt{Kind: api.StCall, X: r.expr()}
		if s.X.Kind != api.ExCall {
			r.expect("=")
			s.Kind, s.Y = api.StSet, r.expr()
		}
	}
	r.expect(";")
	return s
}

func (r *reader) block() api.Stmt {
	var s api.Stmt
	switch r.take().Text {
	case "if":
		s.Kind, s.X = api.StIf, r.expr()
	case "while":
		s.Kind, s.X = api.StWhile, r.expr()
	default:
		s.Kind = api.StAtomic
	}
	s.Body = r.list()
	if s.Kind == api.StIf && r.has("else") {
		s.Else = r.list()
	}
	return s
}

// rows are the signs between two operands, those that bind loosest first.
var rows = [][]api.ExprKind{
	{api.ExOr}, {api.ExAnd}, {api.ExEq, api.ExNe}, {api.ExLt, api.ExLe, api.ExGt, api.ExGe},
	{api.ExAdd, api.ExSub}, {api.ExMul, api.ExDiv, api.ExMod},
}

func (r *reader) expr() api.Expr { return r.row(0) }

func (r *reader) row(n int) api.Expr {
	if n == len(rows) {
		return r.operand()
	}
	x := r.row(n + 1)
	for {
		i := slices.IndexFunc(rows[n], func(k api.ExprKind) bool { return r.next() == signs[k] })
		if i < 0 {
			return x
		}
		r.take()
		x = two(rows[n][i], x, r.row(n+1))
	}
}

func (r *reader) operand() api.Expr {
	switch {
	case r.has("!"):
		return not(r.operand())
	case r.has("-"):
		if len(r.l) > 0 && r.l[0].Kind == api.TkNumber {
			return r.behind(number(-r.take().N))
		}
		return neg(r.operand())
	}
	return r.thing()
}

func (r *reader) thing() api.Expr {
	switch k := r.take(); {
	case k.Kind == api.TkNumber && k.N >= 0:
		return r.behind(number(k.N))
	case k.Text == "nil":
		return r.behind(nilExpr)
	case k.Text == "new":
		t := r.typeOf()
		if t.Kind == api.TyInt {
			panic("a new int")
		}
		return r.behind(made(t))
	case k.Text == "(":
		x := r.expr()
		r.expect(")")
		return r.behind(x)
	case k.Kind == api.TkName && r.next() == "(":
		return r.behind(call(k.Text, r.args()...))
	case k.Kind == api.TkName:
		return r.behind(name(k.Text))
	default:
		panic("no thing: " + k.Text)
	}
}

func (r *reader) args() []api.Expr {
	var l []api.Expr
	for r.expect("("); !r.has(")"); {
		if len(l) > 0 {
			r.expect(",")
		}
		l = append(l, r.expr())
	}
	return l
}

// behind reads the fields and indices behind a thing.
func (r *reader) behind(x api.Expr) api.Expr {
	for {
		switch {
		case r.has("."):
			x = field(x, r.name())
		case r.has("["):
			x = index(x, r.expr())
			r.expect("]")
		default:
			return x
		}
	}
}
