package shape_test

import (
	"strconv"
	"strings"
	"testing"

	"turnstile/api"
)

// twoRecords has the names of records, of their fields and of other things.
const twoRecords = "record r { x int; y r; z [5]int; } shared s r; record r1 { y int; } func f(p int) { var v r1; } thread { var w int; }"

// TestSizeOfReferences holds how many words a new record has. (P7.2)
func TestSizeOfReferences(t *testing.T) {
	testRows(t, twoRecords, row{size(ref("r")), is(3)}, row{size(ref("r1")), is(1)})
	for _, name := range []string{"q", "r2", "rr", "x", "y", "z", "s", "f", "p", "v", "w", "abcdefghijklmnop"} {
		testRows(t, twoRecords, row{size(ref(name)), no(api.ErrGone)}, row{size(array(7, name)), no(api.ErrGone)})
		testRows(t, "", row{size(ref(name)), no(api.ErrGone)}, row{size(array(7, name)), no(api.ErrGone)})
	}
}

// TestSizeOfArrays holds how many words a new array has, of numbers and of references. (P7.2)
func TestSizeOfArrays(t *testing.T) {
	p := readTaken(t, twoRecords)
	for n := -200; n <= 200; n++ {
		want := no(api.ErrType)
		if 1 <= n && n <= 64 {
			want = is(n)
		}
		for _, name := range []string{"", "r", "r1"} {
			size(array(n, name)).test(t, n, p, want)
		}
		size(array(n, "")).test(t, n, api.Program{}, want)
		if want.e == api.OK {
			want = no(api.ErrGone)
		}
		size(array(n, "q")).test(t, n, p, want)
		size(array(n, "r")).test(t, n, api.Program{}, want)
	}
	for _, n := range []int{1<<63 - 1, -1 << 63, 1<<32 + 1, 1<<32 - 1, 257, 256 + 64, 1<<16 + 1, -1<<32 + 1} {
		size(array(n, "")).test(t, n, p, no(api.ErrType))
		size(array(n, "r")).test(t, n, p, no(api.ErrType))
	}
}

// TestWrongForms asks for types of which nothing can be made, or whose form is wrong: whether what they name is gone makes no difference. (P7.2)
func TestWrongForms(t *testing.T) {
	forms := []api.Type{
		{}, {Kind: api.TyInt}, {Kind: api.TyInt, N: 1}, {Kind: api.TyInt, N: -1}, {Kind: api.TyNone, N: 2},
		{Kind: api.TyRef}, {Kind: api.TyRef, N: 1}, {Kind: api.TyRef, N: -1}, {Kind: api.TyArray}, {Kind: api.TyArray, N: -1}, {Kind: api.TyArray, N: 65},
	}
	// r is a record's name, q is none's, the others are no names at all.
	for _, name := range []string{"r", "q"} {
		forms = append(forms,
			api.Type{Kind: api.TyNone, Name: name}, api.Type{Kind: api.TyNone, Name: name, N: 2}, api.Type{Kind: api.TyInt, Name: name}, api.Type{Kind: api.TyInt, Name: name, N: 2},
			api.Type{Kind: api.TyRef, Name: name, N: 1}, api.Type{Kind: api.TyRef, Name: name, N: 64}, api.Type{Kind: api.TyRef, Name: name, N: -1},
			api.Type{Kind: api.TyArray, Name: name}, api.Type{Kind: api.TyArray, Name: name, N: -1}, api.Type{Kind: api.TyArray, Name: name, N: 65},
		)
	}
	for _, name := range []string{"R", "rR", "_r", "0r", "r ", " r", "r.x", "r-", "é", "\xff", "r\x00", " ", "[2]r", strings.Repeat("r", 17), "record", "shared", "func", "thread", "var", "if", "else", "while", "atomic", "print", "return", "new", "nil", "int"} {
		forms = append(forms, ref(name), array(1, name), array(64, name))
	}
	for kind := range 256 {
		if kind := api.TypeKind(kind); kind != api.TyRef && kind != api.TyArray {
			forms = append(forms, api.Type{Kind: kind}, api.Type{Kind: kind, Name: "r"}, api.Type{Kind: kind, N: 2}, api.Type{Kind: kind, Name: "q", N: 2})
		}
	}
	for _, form := range forms {
		testRows(t, twoRecords, row{size(form), no(api.ErrType)})
		testRows(t, "", row{size(form), no(api.ErrType)})
	}
}

// TestOffsets holds where a record's fields lie. (P7.2)
func TestOffsets(t *testing.T) {
	gone := no(api.ErrGone)
	testRows(t, "record r { z int; a [64]int; m r; aa [2]q; a1 q; } record q { m int; } record qq { b int; z int; m int; }",
		row{offset("r", "z"), is(0)}, row{offset("r", "a"), is(1)}, row{offset("r", "m"), is(2)}, row{offset("r", "aa"), is(3)}, row{offset("r", "a1"), is(4)},
		row{offset("q", "m"), is(0)}, row{offset("qq", "b"), is(0)}, row{offset("qq", "z"), is(1)}, row{offset("qq", "m"), is(2)},
		// Fields of other records.
		row{offset("q", "z"), gone}, row{offset("q", "b"), gone}, row{offset("r", "b"), gone}, row{offset("qq", "a"), gone},
	)
	for _, record := range []string{"q", "rr", "x", "y", "s", "f", "p", "v", "w", "", "R", "r ", "int", "record"} {
		for _, field := range []string{"x", "y", "z", "q", "r", ""} {
			testRows(t, twoRecords, row{offset(record, field), gone})
			testRows(t, "", row{offset(record, field), gone})
		}
	}
	for _, field := range []string{"r", "r1", "s", "f", "p", "v", "w", "xx", "x1", "a", "", "X", "x ", " x", "int", "0"} {
		testRows(t, twoRecords, row{offset("r", field), gone}, row{offset("r1", field), gone})
	}
	testRows(t, twoRecords, row{offset("r1", "x"), gone}, row{offset("r1", "z"), gone}, row{offset("r1", "y"), is(0)}, row{offset("r", "y"), is(1)})
	// A field, a record and a shared variable may be called alike.
	testRows(t, "record r { s int; r int; } shared s r; shared t int;", row{offset("r", "s"), is(0)}, row{offset("r", "r"), is(1)}, row{offset("s", "s"), gone}, row{offset("r", "t"), gone}, row{shared("s"), is(1)}, row{size(ref("s")), gone})
}

// TestFullRecords holds records with each number of fields that there may be, each number of them. (P7.2)
func TestFullRecords(t *testing.T) {
	var p api.Program
	for n := 1; n <= api.MaxRecords; n++ {
		r := api.Record{Name: "r" + strconv.Itoa(n)}
		for i := range n {
			// Names that fall: their order is not that of the places.
			r.Fields = append(r.Fields, api.Field{Name: "f" + strconv.Itoa(n-i), Type: array(1+i, r.Name)})
		}
		p.Records = append(p.Records, r)
		for m := 1; m <= n; m++ {
			record := "r" + strconv.Itoa(m)
			size(ref(record)).test(t, n, p, is(m))
			size(array(17, record)).test(t, n, p, is(17))
			for i := range m {
				offset(record, "f"+strconv.Itoa(m-i)).test(t, n, p, is(i))
			}
			offset(record, "f"+strconv.Itoa(m+1)).test(t, n, p, no(api.ErrGone))
		}
		words().test(t, n, p, is(0))
	}
	last := &p.Records[len(p.Records)-1]
	last.Fields = append(last.Fields, api.Field{Name: "more", Type: number()})
	size(ref("r1")).test(t, "a record with too many fields", p, no(api.ErrArg))
	offset("r1", "f1").test(t, "a record with too many fields", p, no(api.ErrArg))
	last.Fields = last.Fields[:api.MaxFields]
	p.Records = append(p.Records, api.Record{Name: "more", Fields: []api.Field{{Name: "x", Type: number()}}})
	size(ref("r1")).test(t, "too many records", p, no(api.ErrArg))
	offset("r1", "f1").test(t, "too many records", p, no(api.ErrArg))
}
