package parse

import (
	"slices"

	"turnstile/api"
)

// sign is what stands between two operands: the kind that it makes of them, and how tight it binds.
type sign struct {
	kind  api.ExprKind
	tight int
}

// loosest is how tight those signs bind that bind loosest.
const loosest = 1

func signs() map[string]sign {
	return map[string]sign{
		"||": {api.ExOr, loosest},
		"&&": {api.ExAnd, 2},
		"==": {api.ExEq, 3},
		"!=": {api.ExNe, 3},
		"<":  {api.ExLt, 4},
		"<=": {api.ExLe, 4},
		">":  {api.ExGt, 4},
		">=": {api.ExGe, 4},
		"+":  {api.ExAdd, 5},
		"-":  {api.ExSub, 5},
		"*":  {api.ExMul, 6},
		"/":  {api.ExDiv, 6},
		"%":  {api.ExMod, 6},
	}
}

// whole reads an expression with nothing behind it.
func (r *reader) whole() api.Expr {
	x := r.expr()
	if !r.ended() {
		panic(r.wrong())
	}
	return x
}

func (r *reader) expr() api.Expr { return r.operands(loosest) }

// operands reads operands with signs between that bind at least so tight.
func (r *reader) operands(tight int) api.Expr {
	x := r.operand()
	for {
		s, ok := r.signs[r.next().Text]
		if !ok || s.tight < tight {
			return x
		}
		r.take()
		// Tighter signs alone belong to what stands behind: those of one row bind from the left.
		x = api.Expr{Kind: s.kind, Args: []api.Expr{x, r.operands(s.tight + 1)}}
	}
}

func (r *reader) operand() api.Expr {
	ahead := r.ahead()
	n := len(ahead)
	var x api.Expr
	if n > 0 && ahead[n-1] == api.ExNeg && r.next().Kind == api.TkNumber {
		// The - is the number's own. Of 2^63 the token has -2^63, which wraps round to itself.
		x = api.Expr{Kind: api.ExNumber, N: -r.take().N}
		ahead = ahead[:n-1]
	} else {
		x = r.thing()
	}
	x = r.behind(x)
	for _, k := range slices.Backward(ahead) {
		x = api.Expr{Kind: k, Args: []api.Expr{x}}
	}
	return x
}

// ahead reads the signs that stand ahead of an operand.
func (r *reader) ahead() (l []api.ExprKind) {
	for r.is("-") || r.is("!") {
		if len(l) == mostAhead {
			panic(r.tooMany())
		}
		if r.take().Text == "-" {
			l = append(l, api.ExNeg)
		} else {
			l = append(l, api.ExNot)
		}
	}
	return l
}

func (r *reader) thing() (x api.Expr) {
	t := r.next()
	switch {
	// 2^63, which is told as a number below 0, stands behind a - alone.
	case t.Kind == api.TkNumber && t.N >= 0:
		return api.Expr{Kind: api.ExNumber, N: r.take().N}
	case t.Kind == api.TkName:
		return r.nameOrCall()
	case r.is("("):
		r.between("(", ")", func() { x = r.expr() })
		return x
	case r.has("nil"):
		return api.Expr{Kind: api.ExNil}
	case r.has("new"):
		return r.made()
	}
	panic(r.wrong())
}

func (r *reader) nameOrCall() api.Expr {
	x := api.Expr{Kind: api.ExName, Name: r.name()}
	if r.is("(") {
		x.Kind = api.ExCall
		r.each(func() { x.Args = append(x.Args, r.expr()) })
	}
	return x
}

func (r *reader) made() api.Expr {
	// An int is a type, but none of what is made.
	if r.is("int") {
		panic(r.wrong())
	}
	return api.Expr{Kind: api.ExNew, Type: r.typeOf()}
}

// behind reads the fields and elements that are asked of a thing.
func (r *reader) behind(x api.Expr) api.Expr {
	for {
		switch {
		case r.has("."):
			x = api.Expr{Kind: api.ExField, Name: r.name(), Args: []api.Expr{x}}
		case r.is("["):
			of := []api.Expr{x}
			r.between("[", "]", func() { of = append(of, r.expr()) })
			x = api.Expr{Kind: api.ExIndex, Args: of}
		default:
			return x
		}
	}
}
