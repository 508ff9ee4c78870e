package shape

import (
	"slices"

	"turnstile/api"
	"turnstile/types"
)

// taken says whether names and types of a program fit: in such a one no two of one sort have one name.
func taken(p api.Program) bool {
	_, e := types.Check(p)
	return e == api.OK
}

// mayBeMade says whether a type is one of new things, of the right form; its record may be gone.
func mayBeMade(t api.Type) bool {
	if t.Kind != api.TyRef && t.Kind != api.TyArray {
		return false
	}
	// A program that has nothing but one thing of this type is refused by ErrArg just if the type's form is wrong.
	_, e := types.Check(api.Program{Shared: []api.Field{{Name: "a", Type: t}}})
	return e != api.ErrArg
}

// fieldsOf answers the fields of the record of that name, of which there is one at least; none, if there is no such record.
func fieldsOf(p api.Program, record string) []api.Field {
	for _, r := range p.Records {
		if r.Name == record {
			return r.Fields
		}
	}
	return nil
}

// aheadOf answers how many of a list of fields, or of shared variables, are ahead of the one of that name.
func aheadOf(l []api.Field, name string) (int, api.Errno) {
	i := slices.IndexFunc(l, func(f api.Field) bool { return f.Name == name })
	if i < 0 {
		return 0, api.ErrGone
	}
	return i, api.OK
}
