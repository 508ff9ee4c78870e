package show

import (
	"strings"

	"turnstile/api"
	"turnstile/word"
)

// writer writes trees of which Check has found nothing.
type writer struct {
	strings.Builder
	exprs map[api.ExprKind]exprWants
	// lists is in how many lists the next line stands.
	lists int
}

func newWriter() *writer {
	return &writer{exprs: exprKinds()}
}

func (w *writer) told() (string, api.Errno) {
	if w.Len() > api.MaxText {
		return "", api.ErrLimit
	}
	return w.String(), api.OK
}

func (w *writer) write(parts ...string) {
	for _, s := range parts {
		w.WriteString(s)
	}
}

func (w *writer) margin() {
	for range w.lists {
		w.WriteString("  ")
	}
}

func (w *writer) program(p api.Program) {
	for _, r := range p.Records {
		w.write("record ", r.Name)
		w.list(func() { w.fields("", r.Fields) })
		w.write("\n")
	}
	w.fields("shared ", p.Shared)
	for _, f := range p.Funcs {
		w.function(f)
	}
	for _, list := range p.Threads {
		w.write("thread")
		w.stmts(list)
		w.write("\n")
	}
}

// list leaves the line of its last brace open: else may follow there.
func (w *writer) list(lines func()) {
	w.write(" {\n")
	w.lists++
	lines()
	w.lists--
	w.margin()
	w.write("}")
}

func (w *writer) fields(ahead string, fields []api.Field) {
	for _, f := range fields {
		w.margin()
		w.write(ahead)
		w.field(f)
		w.write(";\n")
	}
}

func (w *writer) field(f api.Field) {
	w.write(f.Name, " ")
	w.typeName(f.Type)
}

func (w *writer) typeName(t api.Type) {
	if t.Kind == api.TyArray {
		w.write("[", word.Text(int64(t.N)), "]")
	}
	if t.Name == "" {
		w.write("int")
	} else {
		w.write(t.Name)
	}
}

func (w *writer) function(f api.Func) {
	w.write("func ", f.Name, "(")
	for i, p := range f.Params {
		w.comma(i)
		w.field(p)
	}
	w.write(")")
	if f.Result.Kind != api.TyNone {
		w.write(" ")
		w.typeName(f.Result)
	}
	w.stmts(f.Body)
	w.write("\n")
}

// comma stands ahead of all but the first of what stands between brackets.
func (w *writer) comma(place int) {
	if place > 0 {
		w.write(", ")
	}
}

func (w *writer) stmts(list []api.Stmt) {
	w.list(func() {
		for _, s := range list {
			w.margin()
			w.stmt(s)
			w.write("\n")
		}
	})
}

func (w *writer) stmt(s api.Stmt) {
	switch s.Kind {
	case api.StIf:
		w.write("if ")
		w.expr(s.X)
		w.stmts(s.Body)
		if len(s.Else) > 0 {
			w.write(" else")
			w.stmts(s.Else)
		}
	case api.StWhile:
		w.write("while ")
		w.expr(s.X)
		w.stmts(s.Body)
	case api.StAtomic:
		w.write("atomic")
		w.stmts(s.Body)
	default:
		w.plain(s)
		w.write(";")
	}
}

// plain writes a statement that has no list of statements.
func (w *writer) plain(s api.Stmt) {
	switch s.Kind {
	case api.StVar:
		w.write("var ")
		w.field(api.Field{Name: s.Name, Type: s.Type})
		w.behind(" = ", s.X)
	case api.StSet:
		w.expr(s.X)
		w.behind(" = ", s.Y)
	case api.StPrint:
		w.behind("print ", s.X)
	case api.StReturn:
		w.write("return")
		w.behind(" ", s.X)
	case api.StCall:
		w.expr(s.X)
	}
}

// behind writes an expression and what stands ahead of it; nothing, if the expression is left out.
func (w *writer) behind(ahead string, x api.Expr) {
	if !none(x) {
		w.write(ahead)
		w.expr(x)
	}
}

func (w *writer) expr(x api.Expr) {
	switch x.Kind {
	case api.ExNumber:
		w.write(word.Text(x.N))
	case api.ExNil:
		w.write("nil")
	case api.ExName:
		w.write(x.Name)
	case api.ExField:
		w.head(x.Args[0])
		w.write(".", x.Name)
	case api.ExIndex:
		w.head(x.Args[0])
		w.write("[")
		w.expr(x.Args[1])
		w.write("]")
	case api.ExNew:
		w.write("new ")
		w.typeName(x.Type)
	case api.ExCall:
		w.call(x)
	default:
		w.signed(x)
	}
}

func (w *writer) call(x api.Expr) {
	w.write(x.Name, "(")
	for i, a := range x.Args {
		w.comma(i)
		w.expr(a)
	}
	w.write(")")
}

// signed writes an expression that has a sign ahead of its operand, or between two.
func (w *writer) signed(x api.Expr) {
	first := x.Args[0]
	switch x.Kind {
	case api.ExNeg:
		w.write("-")
		// A - straight ahead of a number would be read as the number's own.
		w.part(first, w.pair(first) || beginsWithDigit(first))
	case api.ExNot:
		w.write("!")
		w.operand(first)
	default:
		w.operand(first)
		w.write(" ", w.exprs[x.Kind].sign, " ")
		w.operand(x.Args[1])
	}
}

func (w *writer) operand(x api.Expr) {
	w.part(x, w.pair(x))
}

// head writes what stands ahead of a field's dot or an index's bracket, which bind tighter than any sign.
func (w *writer) head(x api.Expr) {
	w.part(x, w.pair(x) || x.Kind == api.ExNeg || x.Kind == api.ExNot)
}

func (w *writer) part(x api.Expr, brackets bool) {
	if brackets {
		w.write("(")
	}
	w.expr(x)
	if brackets {
		w.write(")")
	}
}

// pair says whether an expression is two operands with a sign between.
func (w *writer) pair(x api.Expr) bool {
	return w.exprs[x.Kind].sign != ""
}

// beginsWithDigit is asked of what is no pair; one that begins a text as a head stands in brackets there.
func beginsWithDigit(x api.Expr) bool {
	for x.Kind == api.ExField || x.Kind == api.ExIndex {
		x = x.Args[0]
	}
	return x.Kind == api.ExNumber && x.N >= 0
}
