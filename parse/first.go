package parse

import (
	"sort"

	"turnstile/api"
	"turnstile/show"
)

// firstFault answers the place of what show finds in a tree. Show tells no place, but goes through a tree in the order of places: it finds something in the tree of the first n of them just if that is of one of these.
func firstFault(p api.Program, places int) int {
	return sort.Search(places, func(place int) bool { return show.Check(first(p, place+1)) != api.OK })
}

// first answers the tree of a program's first n places. It shares lists with the program, so it is made to be looked at alone.
func first(p api.Program, n int) api.Program {
	c := &cutter{left: n}
	return api.Program{
		Records: some(c, p.Records, func(*api.Record) {}),
		Shared:  some(c, p.Shared, func(*api.Field) {}),
		Funcs:   some(c, p.Funcs, func(f *api.Func) { f.Body = c.list(f.Body) }),
		Threads: some(c, p.Threads, func(list *[]api.Stmt) { *list = c.list(*list) }),
	}
}

// cutter cuts off what is behind so many places.
type cutter struct{ left int }

func (c *cutter) list(l []api.Stmt) []api.Stmt {
	return some(c, l, func(s *api.Stmt) {
		s.Body = c.list(s.Body)
		s.Else = c.list(s.Else)
	})
}

// some answers the first ones of a list of places, with those lists cut that stand within each.
func some[T any](c *cutter, l []T, cut func(*T)) (kept []T) {
	for _, one := range l {
		if c.left == 0 {
			return kept
		}
		c.left--
		cut(&one)
		kept = append(kept, one)
	}
	return kept
}
