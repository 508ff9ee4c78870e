package types

import "turnstile/api"

// tyNil is the kind of nil's own type, which is the type of nothing else: a program has no such kind.
const tyNil = api.TyArray + 1

func intType() api.Type { return api.Type{Kind: api.TyInt} }

func nilType() api.Type { return api.Type{Kind: tyNil} }

// fits says whether a value of a type may be used as one of another type.
func fits(t, as api.Type) bool {
	return t == as || t == nilType() && (as.Kind == api.TyRef || as.Kind == api.TyArray)
}

func (c *checker) fit(t, as api.Type) { c.must(fits(t, as), api.ErrType) }

func (c *checker) number(t api.Type) { c.must(t == intType(), api.ErrType) }

// value answers the type of an expression whose value is used: a call of a function without a result has none.
func (c *checker) value(x api.Expr, locals *local) api.Type {
	t := c.expr(x, locals)
	c.must(t.Kind != api.TyNone, api.ErrType)
	return t
}

// expr answers an expression's type; none of a call of a function without a result.
func (c *checker) expr(x api.Expr, locals *local) api.Type {
	var args []api.Type
	for _, a := range x.Args {
		args = append(args, c.value(a, locals))
	}
	switch x.Kind {
	case api.ExNil:
		return nilType()
	case api.ExName:
		return c.named(x.Name, locals)
	case api.ExField:
		return c.field(args[0], x.Name)
	case api.ExIndex:
		return c.element(args[0], args[1])
	case api.ExNew:
		c.known(x.Type)
		return x.Type
	case api.ExCall:
		return c.call(x.Name, args)
	case api.ExEq, api.ExNe:
		c.must(fits(args[0], args[1]) || fits(args[1], args[0]), api.ErrType)
	default:
		// A number, and what is worked out of numbers alone.
		for _, t := range args {
			c.number(t)
		}
	}
	return intType()
}

func (c *checker) named(name string, locals *local) api.Type {
	if l := locals.find(name); l != nil {
		return l.Type
	}
	i, ok := c.shared[name]
	c.must(ok, api.ErrGone)
	return c.program.Shared[i].Type
}

// field asks for the record too: a function that is called may have a Result whose fault lies at a later place.
func (c *checker) field(of api.Type, name string) api.Type {
	c.must(of.Kind == api.TyRef, api.ErrType)
	i, ok := c.records[of.Name]
	c.must(ok, api.ErrGone)
	j, ok := c.fields[i][name]
	c.must(ok, api.ErrGone)
	return c.program.Records[i].Fields[j].Type
}

func (c *checker) element(of, at api.Type) api.Type {
	c.must(of.Kind == api.TyArray, api.ErrType)
	c.number(at)
	if of.Name == "" {
		return intType()
	}
	return api.Type{Kind: api.TyRef, Name: of.Name}
}

func (c *checker) call(name string, args []api.Type) api.Type {
	i, ok := c.funcs[name]
	c.must(ok, api.ErrGone)
	f := c.program.Funcs[i]
	c.must(len(args) == len(f.Params), api.ErrType)
	for j, t := range args {
		c.fit(t, f.Params[j].Type)
	}
	return f.Result
}
