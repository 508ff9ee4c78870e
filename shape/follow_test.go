package shape_test

import (
	"math/rand"
	"testing"

	"turnstile/api"
	"turnstile/parse"
	"turnstile/shape"
	"turnstile/show"
	"turnstile/types"
)

// once holds that numbers are those from first on, each once.
func once(t *testing.T, what string, numbers []int, first int) {
	t.Helper()
	had := map[int]int{}
	for _, n := range numbers {
		had[n]++
	}
	for i := range numbers {
		if had[first+i] != 1 {
			t.Errorf("%s: %v", what, numbers)
			return
		}
	}
}

// testParts holds the words of all shared variables and the places of all fields of a program that types takes. (P7.3)
func testParts(t *testing.T, p api.Program) {
	t.Helper()
	text, _ := show.Program(p)
	var l []int
	for _, f := range p.Shared {
		n, e := shape.Shared(p, f.Name)
		if e != api.OK {
			t.Errorf("%s: the error %d of %s", text, e, f.Name)
		}
		l = append(l, n)
	}
	words().test(t, text, p, is(len(l)))
	once(t, text, l, 1)
	for _, r := range p.Records {
		l = nil
		for _, f := range r.Fields {
			n, e := shape.Offset(p, r.Name, f.Name)
			if e != api.OK {
				t.Errorf("%s: the error %d of %s and %s", text, e, r.Name, f.Name)
			}
			l = append(l, n)
		}
		size(ref(r.Name)).test(t, text, p, is(len(l)))
		once(t, text, l, 0)
	}
}

func TestPartsLieOnce(t *testing.T) {
	for _, text := range []string{"", "shared a int;", "record r { x int; }", twoRecords, wholeText, fits, "record r { z int; y int; x int; } record q { x int; z int; y int; } shared c int; shared a int; shared b int;"} {
		testParts(t, readTaken(t, text))
	}
}

// TestFunctionsAndThreads holds that they make no difference, as long as types takes the program: none, some of them, others. (P7.3)
func TestFunctionsAndThreads(t *testing.T) {
	p := readTaken(t, wholeText)
	others := []api.Program{{}, {Funcs: p.Funcs}, {Funcs: p.Funcs[:1]}, {Funcs: p.Funcs, Threads: p.Threads}, {Funcs: p.Funcs, Threads: p.Threads[1:]}, {Funcs: p.Funcs, Threads: [][]api.Stmt{nil, nil, nil, nil}}}
	for _, text := range []string{
		"func w() { } func main(w int) { w(); }", "func a(x int, n int) int { return x; } thread { var r int = a(1, 2); } thread { var w int; }", "thread { return; } thread { while 1 { print 1; } }", "func f() { f(); } thread { atomic { atomic { f(); } } }", "thread { var x int; if 1 { var rr int; } else { var rr int; } }",
	} {
		others = append(others, read(t, text))
	}
	all := asks(someNames())
	for _, other := range others {
		q := p
		q.Funcs, q.Threads = other.Funcs, other.Threads
		text, _ := show.Program(q)
		if _, e := types.Check(q); e != api.OK {
			t.Fatalf("%s: types finds the error %d", text, e)
		}
		for _, a := range all {
			a.test(t, text, q, a.answers(p))
		}
		testParts(t, q)
	}
}

// maker makes programs by chance, in most of which names and types fit.
type maker struct{ *rand.Rand }

func makerNames() []string { return []string{"a", "b", "c", "d", "aa", "ab", "a1", "a_"} }

func (m maker) name() string { return makerNames()[m.Intn(len(makerNames()))] }

// typeOf makes a type that names one of the records, now and then one that may be gone.
func (m maker) typeOf(records []string) api.Type {
	name := m.name()
	if len(records) > 0 && m.Intn(100) > 0 {
		name = records[m.Intn(len(records))]
	}
	switch k := m.Intn(4); {
	case k == 0:
		return array(1+m.Intn(api.MaxArray), "")
	case k == 1 && len(records) > 0:
		return array(1+m.Intn(api.MaxArray), name)
	case k == 2 && len(records) > 0:
		return ref(name)
	}
	return number()
}

// fields have names in an order by chance, each once but now and then.
func (m maker) fields(n int, records []string) (l []api.Field) {
	names := makerNames()
	m.Shuffle(len(names), func(i, j int) { names[i], names[j] = names[j], names[i] })
	if m.Intn(50) == 0 {
		names[0] = names[1]
	}
	for _, name := range names[:n] {
		l = append(l, api.Field{Name: name, Type: m.typeOf(records)})
	}
	return l
}

func (m maker) program() (p api.Program) {
	names := makerNames()
	m.Shuffle(len(names), func(i, j int) { names[i], names[j] = names[j], names[i] })
	records, variables := names[:m.Intn(5)], names[4:4+m.Intn(5)]
	if m.Intn(20) == 0 {
		variables = append(variables, m.name())
	}
	for _, name := range records {
		p.Records = append(p.Records, api.Record{Name: name, Fields: m.fields(1+m.Intn(8), records)})
	}
	for _, name := range variables {
		p.Shared = append(p.Shared, api.Field{Name: name, Type: m.typeOf(records)})
	}
	if m.Intn(3) == 0 {
		p.Funcs = append(p.Funcs, api.Func{Name: "f" + m.name(), Params: []api.Field{{Name: m.name(), Type: number()}}})
	}
	if m.Intn(3) == 0 {
		x := api.Expr{Kind: api.ExName, Name: m.name()}
		p.Threads = append(p.Threads, []api.Stmt{{Kind: api.StVar, Name: "f" + m.name(), Type: m.typeOf(records)}, {Kind: api.StSet, X: x, Y: x}})
	}
	return p
}

// TestProgramsByChance holds the chapter's words of many programs.
func TestProgramsByChance(t *testing.T) {
	m := maker{rand.New(rand.NewSource(7))}
	taken, refused := 0, 0
	all := asks(append(makerNames(), "", "w"))
	for range 1000 {
		p := m.program()
		text, _ := show.Program(p)
		for range 200 {
			a := all[m.Intn(len(all))]
			a.test(t, text, p, a.answers(p))
		}
		words().test(t, text, p, words().answers(p))
		if _, e := types.Check(p); e != api.OK {
			refused++
			continue
		}
		taken++
		testParts(t, p)
		// Its text, read once more, has the same shape.
		again, _, _, e := parse.Program(text)
		if e != api.OK {
			t.Fatalf("%s: parse finds the error %d", text, e)
		}
		testParts(t, again)
	}
	if taken < 300 || refused < 100 {
		t.Errorf("%d programs are taken, %d are refused", taken, refused)
	}
}
