package types_test

import (
	"strings"
	"testing"

	"turnstile/api"
)

// The sorts of values: types by their texts, nil, and what a call of a function without a result has.
func sorts() []string {
	return []string{"int", "r", "q", "all", "[2]int", "[3]int", "[2]r", "[3]r", "[3]q", "nil", "none"}
}

func isType(sort string) bool { return sort != "nil" && sort != "none" }

// named answers a name for each sort.
func named(ahead, sort string) string {
	return ahead + strings.NewReplacer("[", "_", "]", "_").Replace(sort)
}

// sortThings are a shared variable, a function and a function's parameter of each type, and a record that has fields of them all.
func sortThings() string {
	s := "record r { x int; y r; } record q { y int; x int; } func give_none() { } "
	all := "record all { "
	for _, sort := range sorts() {
		if isType(sort) {
			s += "shared " + named("s_", sort) + " " + sort + "; func " + named("give_", sort) + "() " + sort + " { } func " + named("take_", sort) + "(a int, b " + sort + ") { } "
			all += named("f_", sort) + " " + sort + "; "
		}
	}
	return s + all + "} "
}

// values are expressions of a sort.
func values(sort string) []string {
	l := []string{named("give_", sort) + "()"}
	switch {
	case sort == "none":
		return l
	case sort == "nil":
		return []string{"nil"}
	case sort == "int":
		l = append(l, "5", "-5", "-s_int", "!5", "(1 + 1)", "(1 && 1)", "(1 <= 1)", "(s_r == s_r)", "(nil != nil)", "s__2_int[0]", "(new [3]int)[1]", "s_r.x", "give_q().y")
	case sort == "r" || sort == "q":
		l = append(l, named("s__3_", sort)+"[0]", named("give__3_", sort)+"()[s_int]", "(new [7]"+sort+")[1]")
	}
	if sort == "r" {
		l = append(l, "s_r.y", "s__2_r[1].y.y")
	}
	if sort != "int" {
		l = append(l, "new "+sort)
	}
	return append(l, named("s_", sort), named("l_", sort), "s_all."+named("f_", sort))
}

func typeFault(wrong bool) api.Errno {
	if wrong {
		return api.ErrType
	}
	return api.OK
}

// testInFunction holds what is found in a statement that stands behind locals of all types.
func testInFunction(t *testing.T, result, stmt string, want api.Errno) {
	t.Helper()
	s := sortThings() + "func in() " + result + " { "
	for _, sort := range sorts() {
		if isType(sort) {
			s += "var " + named("l_", sort) + " " + sort + "; "
		}
	}
	if want != api.OK {
		s += "#"
	}
	p, place := read(t, s+stmt+" }")
	testTree(t, result+": "+stmt, p, place, want)
}

// mayBe says whether a value of a sort may be used as one of a type.
func mayBe(sort, as string) bool { return sort == as || sort == "nil" && as != "int" }

// TestWhereOneValueStands holds values of all sorts at each place that asks for one of some sort.
func TestWhereOneValueStands(t *testing.T) {
	test := func(stmt, x string, want api.Errno) {
		t.Helper()
		testInFunction(t, "", strings.ReplaceAll(stmt, "$", x), want)
	}
	for _, sort := range sorts() {
		for _, x := range values(sort) {
			for _, s := range []string{"print $;", "if $ { }", "while $ { }", "print -$;", "print !$;", "print s__2_int[$];", "s__2_int[$] = 1;", "print - - !$;"} {
				test(s, x, typeFault(sort != "int"))
			}
			for _, s := range []string{"$[0] = $[1];", "var x int = $[s_int] == $[0];"} {
				test(s, "("+x+")", typeFault(!strings.HasPrefix(sort, "[")))
			}
			record := typeFault(sort != "r" && sort != "q")
			if sort == "all" {
				record = api.ErrGone
			}
			test("print $.x;", "("+x+")", record)
			test("$.x = 1;", "("+x+")", record)
			test("return $;", x, api.ErrType)
			for _, result := range sorts() {
				if isType(result) {
					testInFunction(t, result, "return "+x+";", typeFault(!mayBe(sort, result)))
				}
			}
		}
	}
}

// TestWhereTwoValuesMeet holds values of all sorts beside values, variables and parameters of all sorts.
func TestWhereTwoValuesMeet(t *testing.T) {
	for _, a := range sorts() {
		for _, b := range sorts() {
			x, y := values(a), values(b)
			for i := range max(len(x), len(y)) {
				testBeside(t, a, b, x[i%len(x)], y[i%len(y)])
			}
			if isType(a) {
				for _, one := range y {
					testInto(t, a, b, one)
				}
			}
		}
	}
}

func testBeside(t *testing.T, a, b, x, y string) {
	t.Helper()
	for _, sign := range []string{"+", "-", "*", "/", "%", "<", "<=", ">", ">=", "&&", "||"} {
		testInFunction(t, "", "print "+x+" "+sign+" "+y+";", typeFault(a != "int" || b != "int"))
	}
	alike := a != "none" && b != "none" && (mayBe(a, b) || mayBe(b, a))
	for _, sign := range []string{"==", "!="} {
		testInFunction(t, "", "print "+x+" "+sign+" "+y+";", typeFault(!alike))
	}
}

// testInto holds what is found where a value of a sort becomes that of something of a type.
func testInto(t *testing.T, as, sort, x string) {
	t.Helper()
	want := typeFault(!mayBe(sort, as))
	testInFunction(t, "", "var x "+as+" = "+x+";", want)
	testInFunction(t, "", named("take_", as)+"(1, "+x+");", want)
	for _, to := range []string{named("s_", as), named("l_", as), "s_all." + named("f_", as), "give_all()." + named("f_", as)} {
		testInFunction(t, "", to+" = "+x+";", want)
	}
	if as == "int" || as == "r" || as == "q" {
		testInFunction(t, "", "(new [9]"+as+")[1] = "+x+";", want)
	}
}
