package parse

import "turnstile/api"

func (r *reader) program() (p api.Program) {
	for !r.ended() {
		switch r.next().Text {
		case "record":
			r.begin(records)
			p.Records = append(p.Records, r.record())
		case "shared":
			r.begin(shared)
			p.Shared = append(p.Shared, r.fieldAndEnd())
		case "func":
			r.begin(funcs)
			p.Funcs = append(p.Funcs, r.function())
		case "thread":
			r.begin(threads)
			p.Threads = append(p.Threads, r.list())
		default:
			panic(r.wrong())
		}
	}
	return p
}

// begin takes the word with which a thing begins.
func (r *reader) begin(p part) {
	r.part = p
	r.place()
	r.take()
}

func (r *reader) record() api.Record {
	c := api.Record{Name: r.name()}
	r.between("{", "}", func() {
		c.Fields = append(c.Fields, r.fieldAndEnd())
		for !r.is("}") {
			c.Fields = append(c.Fields, r.fieldAndEnd())
		}
	})
	return c
}

func (r *reader) fieldAndEnd() api.Field {
	f := r.field()
	r.expect(";")
	return f
}

func (r *reader) field() api.Field {
	name := r.name()
	return api.Field{Name: name, Type: r.typeOf()}
}

func (r *reader) function() api.Func {
	f := api.Func{Name: r.name()}
	r.each(func() { f.Params = append(f.Params, r.field()) })
	if !r.is("{") {
		f.Result = r.typeOf()
	}
	f.Body = r.list()
	return f
}

func (r *reader) typeOf() api.Type {
	if r.is("[") {
		return r.array()
	}
	name := r.element()
	if name == "" {
		return api.Type{Kind: api.TyInt}
	}
	return api.Type{Kind: api.TyRef, Name: name}
}

func (r *reader) array() api.Type {
	t := api.Type{Kind: api.TyArray}
	r.between("[", "]", func() { t.N = r.size() })
	t.Name = r.element()
	return t
}

// size is refused here only where no array may have it: what is above the limit is show's to find.
func (r *reader) size() int {
	// What is no number has an N of 0, and 2^63 one below it.
	if r.next().N < 1 {
		panic(r.wrong())
	}
	return int(r.take().N)
}

// element answers a record's name; an empty one of int.
func (r *reader) element() string {
	if r.has("int") {
		return ""
	}
	return r.name()
}
