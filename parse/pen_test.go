package parse_test

import (
	"math/rand"
	"slices"
	"strconv"
	"strings"

	"turnstile/api"
)

// pen writes texts by chance, always the same ones, and answers with each what tree it is and at which lines its places stand: with more brackets than it needs, any gaps between tokens, things in any order.
type pen struct {
	*rand.Rand
	text  strings.Builder
	last  byte
	line  int
	items int
	// marks are the lines of the places, by the sort of their things; mark says that a place begins with the next token.
	marks [4][]int
	sort  int
	mark  bool
}

func (p *pen) chance(n int) bool { return p.Intn(n) == 0 }

func (p *pen) put(tokens ...string) {
	for _, s := range tokens {
		p.write(p.gap(s[0]))
		if p.mark {
			p.marks[p.sort] = append(p.marks[p.sort], p.line)
			p.mark = false
		}
		p.write(s)
	}
}

func (p *pen) write(s string) {
	p.text.WriteString(s)
	p.line += strings.Count(s, "\n")
	if s != "" {
		p.last = s[len(s)-1]
	}
}

// gap is what stands ahead of a token that begins so.
func (p *pen) gap(first byte) string {
	gaps := []string{"", "", "", "", " ", " ", "\n", "\t", "\r\n", "\n \n\n", " // { } remark;\n", " //\n//\n"}
	s := gaps[p.Intn(len(gaps))]
	if s == "" && inName(p.last) && inName(first) {
		return " "
	}
	return s
}

func inName(c byte) bool { return 'a' <= c && c <= 'z' || '0' <= c && c <= '9' || c == '_' }

func (p *pen) name() string {
	s := []string{"a", "b", "i", "r", "ints", "x_1", "abcdefghijklmnop", "newr"}[p.Intn(8)]
	p.put(s)
	return s
}

func (p *pen) typeOf(made bool) api.Type {
	var t api.Type
	t.Kind = api.TypeKind(1 + p.Intn(3))
	if made && t.Kind == api.TyInt {
		t.Kind = api.TyRef
	}
	if t.Kind == api.TyArray {
		t.N = 1 + p.Intn(64)
		p.put("[", strconv.Itoa(t.N), "]")
	}
	if t.Kind == api.TyRef || t.Kind == api.TyArray && p.chance(2) {
		t.Name = p.name()
	} else {
		p.put("int")
	}
	return t
}

// How tight an expression binds: signs between operands by their rows, then signs ahead, then things.
const (
	tightAhead = 6
	tightThing = 7
)

func tightness(k api.ExprKind) int {
	for _, s := range between {
		if s.kind == k {
			return s.row
		}
	}
	if k == api.ExNeg || k == api.ExNot {
		return tightAhead
	}
	return tightThing
}

// expr is at most so deep, and stands in brackets if it binds less tight; behind a - no number may follow.
func (p *pen) expr(deep, tight int, behind bool) api.Expr {
	leaves := []api.ExprKind{api.ExNumber, api.ExNil, api.ExName, api.ExNew, api.ExCall}
	k := leaves[p.Intn(len(leaves))]
	if deep > 1 && p.items < 700 && !p.chance(4) {
		k = api.ExprKind(1 + p.Intn(int(api.ExOr)))
	}
	if tightness(k) >= tight && !p.chance(8) {
		return p.form(k, deep, behind)
	}
	p.put("(")
	x := p.form(k, deep, false)
	p.put(")")
	return x
}

func (p *pen) form(k api.ExprKind, deep int, behind bool) api.Expr {
	p.items++
	x := api.Expr{Kind: k}
	arg := func(tight int, behind bool) { x.Args = append(x.Args, p.expr(deep-1, tight, behind)) }
	switch k {
	case api.ExNumber:
		x.N = p.number(behind)
	case api.ExNil:
		p.put("nil")
	case api.ExName:
		x.Name = p.name()
	case api.ExField:
		arg(tightThing, behind)
		p.put(".")
		x.Name = p.name()
	case api.ExIndex:
		arg(tightThing, behind)
		p.put("[")
		arg(0, false)
		p.put("]")
	case api.ExNew:
		p.put("new")
		x.Type = p.typeOf(true)
	case api.ExCall:
		x.Name = p.name()
		p.args(deep, arg)
	case api.ExNeg:
		p.put("-")
		arg(tightAhead, true)
	case api.ExNot:
		p.put("!")
		arg(tightAhead, false)
	default:
		row := tightness(k)
		arg(row, false)
		p.put(between[slices.IndexFunc(between, func(s sign) bool { return s.kind == k })].sign)
		arg(row+1, false)
	}
	return x
}

func (p *pen) args(deep int, arg func(int, bool)) {
	p.put("(")
	n := 0
	if deep > 1 && p.items < 700 {
		n = p.Intn(4)
	}
	for i := range n {
		if i > 0 {
			p.put(",")
		}
		arg(0, false)
	}
	p.put(")")
}

func (p *pen) number(behind bool) int64 {
	n := []int64{0, 1, 5, greatest, -1, -5, least, least + 1, p.Int63(), -p.Int63()}[p.Intn(10)]
	digits := strings.TrimPrefix(strconv.FormatInt(n, 10), "-")
	switch {
	case n < 0:
		p.put("-", digits)
	case behind:
		p.put("(", digits, ")")
	default:
		p.put(digits)
	}
	return n
}

func (p *pen) list(deep int) (l []api.Stmt) {
	p.put("{")
	for range p.Intn(5) {
		if p.items < 700 && deep <= 16 {
			l = append(l, p.stmt(deep))
		}
	}
	p.put("}")
	return l
}

func (p *pen) stmt(deep int) api.Stmt {
	p.items++
	p.mark = true
	s := api.Stmt{Kind: api.StmtKind(1 + p.Intn(int(api.StCall)))}
	most := 1 + p.Intn(5)
	value := func() api.Expr { return p.expr(most, 0, false) }
	switch s.Kind {
	case api.StVar:
		p.put("var")
		s.Name = p.name()
		s.Type = p.typeOf(false)
		if p.chance(2) {
			p.put("=")
			s.X = value()
		}
	case api.StSet:
		s.X = p.inBrackets([]api.ExprKind{api.ExName, api.ExField, api.ExIndex}[p.Intn(3)], most+1)
		p.put("=")
		s.Y = value()
	case api.StPrint:
		p.put("print")
		s.X = value()
	case api.StReturn:
		p.put("return")
		if p.chance(2) {
			s.X = value()
		}
	case api.StCall:
		s.X = p.inBrackets(api.ExCall, most)
	default:
		p.block(&s, deep, value)
		return s
	}
	p.put(";")
	return s
}

func (p *pen) inBrackets(k api.ExprKind, deep int) api.Expr {
	n := max(0, p.Intn(8)-5)
	for range n {
		p.put("(")
	}
	x := p.form(k, deep, false)
	for range n {
		p.put(")")
	}
	return x
}

func (p *pen) block(s *api.Stmt, deep int, value func() api.Expr) {
	switch s.Kind {
	case api.StIf:
		p.put("if")
		s.X = value()
	case api.StWhile:
		p.put("while")
		s.X = value()
	case api.StAtomic:
		p.put("atomic")
	}
	s.Body = p.list(deep + 1)
	if s.Kind == api.StIf && p.chance(2) {
		p.put("else")
		s.Else = p.list(deep + 1)
	}
}

func (p *pen) field() api.Field {
	s := p.name()
	return api.Field{Name: s, Type: p.typeOf(false)}
}

func (p *pen) program() (q api.Program) {
	for range p.Intn(8) {
		p.sort, p.mark = p.Intn(4), true
		p.put([]string{"record", "shared", "func", "thread"}[p.sort])
		switch p.sort {
		case 0:
			q.Records = append(q.Records, p.record())
		case 1:
			q.Shared = append(q.Shared, p.field())
			p.put(";")
		case 2:
			q.Funcs = append(q.Funcs, p.function())
		case 3:
			q.Threads = append(q.Threads, p.list(1))
		}
		if len(q.Threads) == api.MaxThreads {
			break
		}
	}
	p.write(p.gap(0))
	return q
}

func (p *pen) record() api.Record {
	r := api.Record{Name: p.name()}
	p.put("{")
	for range 1 + p.Intn(3) {
		r.Fields = append(r.Fields, p.field())
		p.put(";")
	}
	p.put("}")
	return r
}

func (p *pen) function() api.Func {
	f := api.Func{Name: p.name()}
	p.put("(")
	for i := range p.Intn(4) {
		if i > 0 {
			p.put(",")
		}
		f.Params = append(f.Params, p.field())
	}
	p.put(")")
	if p.chance(2) {
		f.Result = p.typeOf(false)
	}
	f.Body = p.list(1)
	return f
}
