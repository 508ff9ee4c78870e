package lower

import (
	"turnstile/api"
	"turnstile/shape"
)

// world is what the threads of a program have in common.
type world struct {
	layout
	funcs map[string]*api.Func
}

func newWorld(p api.Program) *world {
	w := &world{newLayout(p), make(map[string]*api.Func, len(p.Funcs))}
	for i := range p.Funcs {
		w.funcs[p.Funcs[i].Name] = &p.Funcs[i]
	}
	return w
}

// layout keeps what shape has answered: it goes through all that it is handed each time that it is asked. It has no error to answer: in a right program whatever is named is there.
type layout struct {
	// things are the program without functions and threads, which make no difference to shape.
	things    api.Program
	variables map[string]part
	fields    map[field]part
	sizes     map[api.Type]int
}

// part is a shared variable or a field: where it lies, and its type.
type part struct {
	at int
	of api.Type
}

type field struct{ record, name string }

func newLayout(p api.Program) layout {
	things := api.Program{Records: p.Records, Shared: p.Shared}
	return layout{things, map[string]part{}, map[field]part{}, map[api.Type]int{}}
}

func (l layout) words() int {
	n, _ := shape.Words(l.things)
	return n
}

// variable answers a shared variable's word.
func (l layout) variable(name string) part {
	return kept(l.variables, name, func() part {
		at, _ := shape.Shared(l.things, name)
		return part{at, typeOf(l.things.Shared, name)}
	})
}

// field answers a field's place in its record.
func (l layout) field(f field) part {
	return kept(l.fields, f, func() part {
		at, _ := shape.Offset(l.things, f.record, f.name)
		return part{at, typeOf(l.fieldsOf(f.record), f.name)}
	})
}

func (l layout) size(t api.Type) int {
	return kept(l.sizes, t, func() int {
		n, _ := shape.Size(l.things, t)
		return n
	})
}

// kept asks only for what was not asked for before.
func kept[K comparable, V any](known map[K]V, key K, ask func() V) V {
	v, ok := known[key]
	if !ok {
		v = ask()
		known[key] = v
	}
	return v
}

func (l layout) fieldsOf(record string) []api.Field {
	for _, r := range l.things.Records {
		if r.Name == record {
			return r.Fields
		}
	}
	return nil
}

func typeOf(l []api.Field, name string) api.Type {
	for _, f := range l {
		if f.Name == name {
			return f.Type
		}
	}
	return api.Type{}
}

// element is the type of what an array has.
func element(array api.Type) api.Type {
	if array.Name == "" {
		return number
	}
	return api.Type{Kind: api.TyRef, Name: array.Name}
}
