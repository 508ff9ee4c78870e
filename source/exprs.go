package source

import (
	"turnstile/api"
	"turnstile/word"
)

// value works out an expression.
func (t *thread) value(x *api.Expr, mine locals) value {
	t.step()
	if x.Kind == api.ExAnd || x.Kind == api.ExOr {
		return t.decided(x, mine)
	}
	args := t.values(x.Args, mine)
	switch x.Kind {
	case api.ExNumber:
		return value{n: x.N}
	case api.ExNil:
		return value{}
	case api.ExName, api.ExField, api.ExIndex:
		if mine.names(x) {
			return mine[x.Name]
		}
		return *t.word(x, args)
	case api.ExNew:
		return value{to: t.made(x.Type)}
	case api.ExCall:
		return t.answer(x.Name, args)
	case api.ExEq:
		return truth(args[0] == args[1])
	case api.ExNe:
		return truth(args[0] != args[1])
	}
	return worked(x.Kind, args)
}

// values works out expressions from the left.
func (t *thread) values(l []api.Expr, mine locals) []value {
	if len(l) == 0 {
		return nil
	}
	all := make([]value, 0, len(l))
	for i := range l {
		all = append(all, t.value(&l[i], mine))
	}
	return all
}

// given is the value of an expression that may be left out: 0 or nil then.
func (t *thread) given(x *api.Expr, mine locals) value {
	if x.Kind == api.ExNone {
		return value{}
	}
	return t.value(x, mine)
}

func (t *thread) holds(x *api.Expr, mine locals) bool { return t.value(x, mine).n != 0 }

// decided comes to the second operand only if the first one does not decide.
func (t *thread) decided(x *api.Expr, mine locals) value {
	first := t.holds(&x.Args[0], mine)
	if first == (x.Kind == api.ExOr) {
		return truth(first)
	}
	return truth(t.holds(&x.Args[1], mine))
}

// names says whether an expression is the name of one of the locals. No shared variable has such a name, but a field may.
func (mine locals) names(x *api.Expr) bool {
	_, ok := mine[x.Name]
	return ok && x.Kind == api.ExName
}

// word answers the word that a shared variable, a field or an element has, whose Args are worked out.
func (t *thread) word(x *api.Expr, args []value) *value {
	if x.Kind == api.ExName {
		return &t.shared[t.parts.sharedWord(x.Name)]
	}
	of := args[0].to
	must(of != nil, api.EndNil)
	if x.Kind == api.ExField {
		return &of.words[t.parts.offset(field{of.record, x.Name})]
	}
	at := args[1].n
	must(at >= 0 && at < int64(len(of.words)), api.EndIndex)
	return &of.words[at]
}

// answer calls a function that has a result: it tells nothing, so no leap ends in it.
func (t *thread) answer(name string, args []value) value {
	p := newPath(t.called(name, args))
	t.walk(p, true)
	return p.result
}

// worked works out what is made of numbers alone.
func worked(kind api.ExprKind, args []value) value {
	a, b := args[0].n, args[len(args)-1].n
	switch kind {
	case api.ExNeg:
		a, b = 0, a
	case api.ExNot:
		b = 0
	case api.ExGt, api.ExGe:
		a, b = b, a
	}
	n, e := word.Do(calc(kind), a, b)
	must(e != api.ErrZero, api.EndZero)
	return value{n: n}
}

// calc is an operation that does what a kind asks for: -e is 0 - e, !e is e == 0, a > b is b < a.
func calc(kind api.ExprKind) api.Calc {
	switch kind {
	case api.ExAdd:
		return api.CalcAdd
	case api.ExNeg, api.ExSub:
		return api.CalcSub
	case api.ExMul:
		return api.CalcMul
	case api.ExDiv:
		return api.CalcDiv
	case api.ExMod:
		return api.CalcMod
	case api.ExNot:
		return api.CalcEq
	case api.ExLt, api.ExGt:
		return api.CalcLt
	case api.ExLe, api.ExGe:
		return api.CalcLe
	}
	return api.CalcNone
}
