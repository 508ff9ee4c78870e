package types_test

import (
	"slices"
	"strconv"
	"strings"

	"turnstile/api"
	"turnstile/show"
)

// spot is a place of a program, with all faults that the chapter's tables find there.
type spot struct {
	kind   string
	faults []api.Errno
}

// tables are the chapter's, written out for one program: types are told by their texts, nil's own is nil, that of a call without a result is none, and of what has a fault ?.
type tables struct{ api.Program }

func (p tables) spots() (l []spot) {
	for i, r := range p.Records {
		f := twice(slices.ContainsFunc(p.Records[:i], func(q api.Record) bool { return q.Name == r.Name }))
		for j, field := range r.Fields {
			f = append(f, twice(hasField(r.Fields[:j], field.Name))...)
			f = append(f, p.gone(field.Type)...)
		}
		l = append(l, spot{"record", f})
	}
	for i, v := range p.Shared {
		f := twice(p.record(v.Name) != nil || hasField(p.Shared[:i], v.Name))
		l = append(l, spot{"shared", append(f, p.gone(v.Type)...)})
	}
	for i, g := range p.Funcs {
		ahead := slices.ContainsFunc(p.Funcs[:i], func(h api.Func) bool { return h.Name == g.Name })
		f := twice(ahead || p.record(g.Name) != nil || hasField(p.Shared, g.Name))
		for j, param := range g.Params {
			f = append(f, twice(hasField(g.Params[:j], param.Name) || hasField(p.Shared, param.Name))...)
			f = append(f, p.gone(param.Type)...)
		}
		l = append(l, spot{"func", append(f, p.gone(g.Result)...)})
		l = append(l, p.list(g.Body, g.Params, resultText(g))...)
	}
	for _, list := range p.Threads {
		l = append(l, spot{"thread", nil})
		l = append(l, p.list(list, nil, "none")...)
	}
	return l
}

// check is what Check answers, by the tables.
func (p tables) check() (int, api.Errno, string) {
	if show.Check(p.Program) != api.OK {
		return 0, api.ErrArg, "refused"
	}
	for n, s := range p.spots() {
		if len(s.faults) > 0 {
			return n, s.faults[0], s.kind
		}
	}
	return 0, api.OK, "right"
}

func when(wrong bool, e api.Errno) []api.Errno {
	if wrong {
		return []api.Errno{e}
	}
	return nil
}

func twice(wrong bool) []api.Errno { return when(wrong, api.ErrTwice) }

func hasField(l []api.Field, name string) bool { return field(l, name) != "" }

// field is the type of the first field of that name.
func field(l []api.Field, name string) string {
	for _, f := range l {
		if f.Name == name {
			return typeText(f.Type)
		}
	}
	return ""
}

func typeText(t api.Type) string {
	s := t.Name
	if s == "" {
		s = "int"
	}
	if t.Kind == api.TyArray {
		s = "[" + strconv.Itoa(t.N) + "]" + s
	}
	return s
}

func resultText(f api.Func) string {
	if f.Result == (api.Type{}) {
		return "none"
	}
	return typeText(f.Result)
}

func (p tables) record(name string) *api.Record {
	for _, r := range p.Records {
		if r.Name == name {
			return &r
		}
	}
	return nil
}

func (p tables) gone(t api.Type) []api.Errno {
	return when(t.Name != "" && p.record(t.Name) == nil, api.ErrGone)
}

func (p tables) list(l []api.Stmt, locals []api.Field, result string) (spots []spot) {
	for i, s := range l {
		here := slices.Clone(locals)
		for _, ahead := range l[:i] {
			if ahead.Kind == api.StVar {
				here = append(here, api.Field{Name: ahead.Name, Type: ahead.Type})
			}
		}
		kinds := []string{"none", "var", "set", "if", "while", "atomic", "print", "return", "call"}
		spots = append(spots, spot{kinds[s.Kind], p.stmt(s, here, result)})
		spots = append(spots, p.list(s.Body, here, result)...)
		spots = append(spots, p.list(s.Else, here, result)...)
	}
	return spots
}

func (p tables) stmt(s api.Stmt, locals []api.Field, result string) []api.Errno {
	switch s.Kind {
	case api.StVar:
		f := twice(hasField(locals, s.Name) || hasField(p.Shared, s.Name))
		f = append(f, p.gone(s.Type)...)
		if s.X.Kind != api.ExNone {
			f = append(f, p.used(s.X, locals, typeText(s.Type))...)
		}
		return f
	case api.StSet:
		of, f := p.expr(s.X, locals)
		return append(f, p.used(s.Y, locals, of)...)
	case api.StReturn:
		if s.X.Kind == api.ExNone {
			return when(result != "none", api.ErrType)
		}
		return p.used(s.X, locals, result)
	case api.StAtomic:
		return nil
	case api.StCall:
		_, f := p.expr(s.X, locals)
		return f
	}
	return p.used(s.X, locals, "int")
}

// used are the faults of a value that must fit a type.
func (p tables) used(x api.Expr, locals []api.Field, as string) []api.Errno {
	of, f := p.expr(x, locals)
	return append(f, when(of == "none" || !fit(of, as), api.ErrType)...)
}

func fit(of, as string) bool {
	return of == as || of == "nil" && as != "int" && as != "none"
}

func (p tables) expr(x api.Expr, locals []api.Field) (of string, faults []api.Errno) {
	var args []string
	for _, a := range x.Args {
		t, f := p.expr(a, locals)
		args = append(args, t)
		faults = append(faults, f...)
		faults = append(faults, when(t == "none", api.ErrType)...)
	}
	if len(faults) > 0 {
		return "?", faults
	}
	of, e := p.own(x, args, locals)
	if e != api.OK {
		return "?", []api.Errno{e}
	}
	return of, nil
}

// own is the type of an expression whose Args have no fault, or its own fault.
func (p tables) own(x api.Expr, args []string, locals []api.Field) (string, api.Errno) {
	switch x.Kind {
	case api.ExNumber:
		return "int", api.OK
	case api.ExNil:
		return "nil", api.OK
	case api.ExName:
		for _, l := range [][]api.Field{locals, p.Shared} {
			if t := field(l, x.Name); t != "" {
				return t, api.OK
			}
		}
		return "", api.ErrGone
	case api.ExField:
		return p.fieldOf(args[0], x.Name)
	case api.ExIndex:
		_, element, array := strings.Cut(args[0], "]")
		if !array || args[1] != "int" {
			return "", api.ErrType
		}
		return element, api.OK
	case api.ExNew:
		if p.gone(x.Type) != nil {
			return "", api.ErrGone
		}
		return typeText(x.Type), api.OK
	case api.ExCall:
		return p.call(x.Name, args)
	case api.ExEq, api.ExNe:
		if !fit(args[0], args[1]) && !fit(args[1], args[0]) {
			return "", api.ErrType
		}
		return "int", api.OK
	}
	for _, t := range args {
		if t != "int" {
			return "", api.ErrType
		}
	}
	return "int", api.OK
}

func (p tables) fieldOf(of, name string) (string, api.Errno) {
	if of == "int" || of == "nil" || strings.HasPrefix(of, "[") {
		return "", api.ErrType
	}
	r := p.record(of)
	if r == nil || !hasField(r.Fields, name) {
		return "", api.ErrGone
	}
	return field(r.Fields, name), api.OK
}

func (p tables) call(name string, args []string) (string, api.Errno) {
	for _, f := range p.Funcs {
		if f.Name != name {
			continue
		}
		wrong := len(args) != len(f.Params)
		for i, t := range args {
			wrong = wrong || !fit(t, typeText(f.Params[i].Type))
		}
		if wrong {
			return "", api.ErrType
		}
		return resultText(f), api.OK
	}
	return "", api.ErrGone
}
