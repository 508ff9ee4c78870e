package types

import "turnstile/api"

// names say where in a list that thing stands which is the first one of its name.
type names map[string]int

func namesOf[T any](list []T, name func(T) string) names {
	n := make(names, len(list))
	for i, one := range list {
		if !n.has(name(one)) {
			n[name(one)] = i
		}
	}
	return n
}

func namesOfFields(fields []api.Field) names {
	return namesOf(fields, func(f api.Field) string { return f.Name })
}

func (n names) has(name string) bool {
	_, ok := n[name]
	return ok
}

// local is a parameter or a local variable, and the last one of a list of all that may be used where it may.
type local struct {
	api.Field
	ahead *local
}

// find answers the local of that name; nil, if none of them has it.
func (l *local) find(name string) *local {
	for l != nil && l.Name != name {
		l = l.ahead
	}
	return l
}
