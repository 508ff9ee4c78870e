package types_test

import (
	"testing"

	"turnstile/api"
)

func TestWhatFits(t *testing.T) {
	testTree(t, "the whole program", whole(t), 0, api.OK)
	testTree(t, "nothing", api.Program{}, 0, api.OK)
	testCheck(t, "thread { }", api.OK)
}

// TestChapter holds the chapter's examples, with the places' numbers.
func TestChapter(t *testing.T) {
	rows := []struct {
		text  string
		place int
		want  api.Errno
	}{
		{"record r { x int; } shared n int; thread { var p r = nil; print n; }", 0, api.OK},
		{"record r { x q; }", 0, api.ErrGone},
		{"record r { x int; x int; }", 0, api.ErrTwice},
		{"shared r int; record r { x int; }", 1, api.ErrTwice},
		{"thread { if 1 { var x int; } x = 1; }", 3, api.ErrGone},
		{"thread { var x int; if 1 { var x int; } }", 3, api.ErrTwice},
		{"shared x int; thread { var x int; }", 2, api.ErrTwice},
		{"thread { print nil; }", 1, api.ErrType},
		{"thread { if nil == nil { } }", 0, api.OK},
		{"thread { print 1 + nil; }", 1, api.ErrType},
		{"func f(a int) int { return a; } thread { f(1); print f(); }", 4, api.ErrType},
		{"func f() { return 1; }", 1, api.ErrType},
		{"func f() int { return; }", 1, api.ErrType},
		{"func f() { } thread { print f(); }", 2, api.ErrType},
	}
	for _, r := range rows {
		p, _ := read(t, r.text)
		testTree(t, r.text, p, r.place, r.want)
	}
	testTree(t, "an array of 65", api.Program{Shared: []api.Field{{Name: "a", Type: api.Type{Kind: api.TyArray, N: 65}}}}, 0, api.ErrArg)
}

func TestRecords(t *testing.T) {
	testRows(t, []row{
		{"record r { r r; x int; y [2]r; } record q { r r; x q; y [2]q; z [2]int; }", api.OK},
		{"record r { x q; y [2]q; } record q { x int; }", api.OK},
		{"record a { x int; } record b { x int; } #record a { x int; }", api.ErrTwice},
		{"record a { x int; } record b { x int; } #record b { x int; }", api.ErrTwice},
		{"record a { x int; } #record a { y int; } record a { y int; }", api.ErrTwice},
		{"#record r { x int; y int; z int; x int; }", api.ErrTwice},
		{"record q { x int; } #record r { x int; y q; y [2]int; }", api.ErrTwice},
		{"#record r { x int; y q; z int; }", api.ErrGone},
		{"record q { x int; } #record r { y int; x [2]w; }", api.ErrGone},
		{"#record r { x w; } shared w int; func w() { } thread { var w int; }", api.ErrGone},
	})
}

func TestSharedVariables(t *testing.T) {
	testRows(t, []row{
		{"shared a int; shared b r; shared c [2]int; shared d [2]r; record r { a int; b int; }", api.OK},
		{"shared a int; shared b int; #shared a int;", api.ErrTwice},
		{"shared a int; shared b int; #shared b [2]int; shared b int;", api.ErrTwice},
		{"record q { x int; } record r { x int; } #shared q int;", api.ErrTwice},
		{"#shared r int; record q { x int; } record r { x int; }", api.ErrTwice},
		{"shared a int; #shared b q; shared q int;", api.ErrGone},
		{"#shared a [2]q;", api.ErrGone},
		{"#shared b b;", api.ErrGone},
	})
}

func TestFunctions(t *testing.T) {
	testRows(t, []row{
		{"record r { f int; x int; } shared g int; func f(f int, r r, h [2]r, k [2]int) r { } func h(f r) [2]int { } func k() int { } func m() { }", api.OK},
		{"func f() { } func g() { } #func f() int { }", api.ErrTwice},
		{"func f() { } #func f() { } func f() { }", api.ErrTwice},
		{"func f() { } record q { x int; } record r { x int; } #func r() { }", api.ErrTwice},
		{"#func g() { } shared f int; shared g int;", api.ErrTwice},
		{"func f() { } #func g(a int, b int, a int) { }", api.ErrTwice},
		{"#func f(a int, b int, b [2]int) { }", api.ErrTwice},
		{"shared a int; #func f(b int, a int) { }", api.ErrTwice},
		{"func f() { } #func g(a int, b q) { }", api.ErrGone},
		{"#func f(a [2]q, b int) { }", api.ErrGone},
		{"#func f(f f) { }", api.ErrGone},
		{"record r { x int; } #func f(r r) q { }", api.ErrGone},
		{"#func f() [2]q { }", api.ErrGone},
		{"#func f() f { }", api.ErrGone},
		{"shared a int; func f(b int) { } #func g(b int) a { }", api.ErrGone},
	})
}

// things are what the statements below are about: records, shared variables and functions of all sorts of types.
const things = `record r { x int; r r; q q; e [2]int; l [3]r; } record q { x [2]int; y int; } record solo { z int; }
	shared i int; shared p r; shared o q; shared e [2]int; shared d [3]int; shared l [3]r; shared k [3]q; shared m [2]r;
	func none() { } func num() int { return 1; } func ref() r { return nil; } func arr() [3]r { return nil; }
	func take(n int, a r, b [2]int) { } func both(n int, a r) int { return n; } func void(n int) { }`

func TestLocals(t *testing.T) {
	testStmts(t, things, []row{
		{"var x int; var y r; var z [2]int; var w [2]r;", api.OK},
		{"var x int = 1; var y r = nil; var z [2]int = e; var w [2]r = m;", api.OK},
		{"var x int; var y int = x; x = y; if x { print x + y; y = x; } print x;", api.OK},
		// One name in lists that stand beside one another.
		{"if 1 { var x int; print x; } else { var x r; print x.x; } while 1 { var x q; print x.y; } atomic { var x [2]int; x[0] = 1; } var x int; print x;", api.OK},
		{"if 1 { while 1 { var x int; x = 1; } var x r; x = nil; } var x [3]r; x = nil;", api.OK},
		// A local may be called as a function or a record is.
		{"var none int = num(); none(); none = none + 1; var num r = nil; print num() + num.x; var r int = 2; var s r = ref(); r = s.x; var solo solo; solo.z = 1;", api.OK},

		{"var x int; #var x int;", api.ErrTwice},
		{"var x int; var y int; #var x r;", api.ErrTwice},
		{"var x int; var y int; if 1 { #var x int; }", api.ErrTwice},
		{"var x int; if 1 { } else { while 1 { var y int; #var y int; } }", api.ErrTwice},
		{"var x int; atomic { while 1 { #var x int; } }", api.ErrTwice},
		{"#var i int;", api.ErrTwice},
		{"if 1 { #var p r; }", api.ErrTwice},
		{"var none int; #var none int;", api.ErrTwice},

		{"#var x w;", api.ErrGone},
		{"#var x [2]w;", api.ErrGone},
		{"#var x none;", api.ErrGone},
		{"#var x p;", api.ErrGone},
		{"var s int; #var x s;", api.ErrGone},
		{"#var x w = nil;", api.ErrGone},

		// In its own StVar, behind its list, ahead of its StVar, in a list beside its own.
		{"#var x int = x;", api.ErrGone},
		{"#var x int = num() + -x;", api.ErrGone},
		{"#x = 1; var x int;", api.ErrGone},
		{"if 1 { #x = 1; } var x int;", api.ErrGone},
		{"if 1 { var x int; } #x = 1;", api.ErrGone},
		{"if 1 { var x int; x = 1; } else { #x = 1; }", api.ErrGone},
		{"if 1 { } else { var x int; x = 1; } #print x;", api.ErrGone},
		{"while 1 { var x int; x = 1; } #print x;", api.ErrGone},
		{"atomic { var x int; x = 1; } #print x;", api.ErrGone},
		{"if 1 { if 1 { var x int; } #x = 1; }", api.ErrGone},
		{"if 1 { var x int; } while 1 { #x = 1; }", api.ErrGone},
		{"var x int; if 1 { var y int; } #x = y;", api.ErrGone},
		{"#while x { var x int; }", api.ErrGone},
		{"#if x { } else { var x int; }", api.ErrGone},

		{"#var x int = nil;", api.ErrType},
		{"#var x r = 1;", api.ErrType},
		{"#var x int = none();", api.ErrType},
		{"#var x r = o;", api.ErrType},
	})
}

// TestWhereLocalsEnd holds that those of one function or thread are not there in another one.
func TestWhereLocalsEnd(t *testing.T) {
	testRows(t, []row{
		{"func f(a int) { a = 1; if a { while a { print a; var b int = a; } } print a; } func g(a int) { a = a; var b r; } thread { var a r; var b int; } thread { var a int; } record r { x int; }", api.OK},
		{"func f(a int) { } func g() { #a = 1; }", api.ErrGone},
		{"func f() { var a int; } func g() { #a = 1; }", api.ErrGone},
		{"func f(a int) { } thread { #a = 1; }", api.ErrGone},
		{"func f() { var a int; a = 1; } thread { #a = 1; }", api.ErrGone},
		{"thread { var a int; } thread { #a = 1; }", api.ErrGone},
		{"func f(a int, b r) { print 1; #var b int; } record r { x int; }", api.ErrTwice},
		{"func f(a int, b int) { if a { while b { #var a int; } } }", api.ErrTwice},
		{"func f(a int, b r) { print 1; if 1 { while a { print a; #print b; } } } record r { x int; }", api.ErrType},
	})
}

// TestWhatNamesStandFor holds that names of other sorts are not looked for.
func TestWhatNamesStandFor(t *testing.T) {
	testStmts(t, things, []row{
		{"#print w;", api.ErrGone},
		{"#print none;", api.ErrGone},
		{"#print num;", api.ErrGone},
		{"#print r;", api.ErrGone},
		{"#print x;", api.ErrGone},
		{"#w = 1;", api.ErrGone},
		{"#num = 1;", api.ErrGone},
		{"#w.x = 1;", api.ErrGone},
		{"#e[w] = 1;", api.ErrGone},
		{"#w();", api.ErrGone},
		{"#i();", api.ErrGone},
		{"#r();", api.ErrGone},
		{"var w int; #w();", api.ErrGone},
		{"#print w(1);", api.ErrGone},
		{"#p = new w;", api.ErrGone},
		{"#l = new [3]w;", api.ErrGone},
		{"#p = new num;", api.ErrGone},
		{"#p = new p;", api.ErrGone},
		{"var w int; #p = new w;", api.ErrGone},
		{"#print p.w;", api.ErrGone},
		{"#print p.y;", api.ErrGone},
		{"#print p.i;", api.ErrGone},
		{"#print p.q.r;", api.ErrGone},
		{"#o.z = 1;", api.ErrGone},
		{"var z int; #o.z = z;", api.ErrGone},
		// A name is that of the first thing found: the field of the record that is asked.
		{"print p.x + o.x[0] + o.y + (new solo).z; o.x = p.e; p.q = o;", api.OK},
		{"#print o.x;", api.ErrType},
	})
}

func TestCalls(t *testing.T) {
	testStmts(t, things, []row{
		{"none(); num(); ref(); take(1, nil, nil); take(num(), ref(), e); both(both(1, nil), p); void(i);", api.OK},
		{"print num() + both(1, ref().r) * both(i, nil); print arr()[0].x + ref().l[num()].x; p = arr()[1]; l = arr();", api.OK},
		{"if both(1, nil) { } while num() { } var x int = num(); var y r = ref(); e[num()] = num(); arr()[1] = ref(); ref().r = nil;", api.OK},

		{"#none(1);", api.ErrType},
		{"#none(nil);", api.ErrType},
		{"#void();", api.ErrType},
		{"#void(1, 2);", api.ErrType},
		{"#take(1, nil);", api.ErrType},
		{"#take();", api.ErrType},
		{"#take(1, nil, nil, nil);", api.ErrType},
		{"#take(nil, nil, nil);", api.ErrType},
		{"#take(1, 1, nil);", api.ErrType},
		{"#take(1, nil, 1);", api.ErrType},
		{"#take(p, nil, nil);", api.ErrType},
		{"#take(1, o, nil);", api.ErrType},
		{"#take(1, p, d);", api.ErrType},
		{"#take(1, p, m);", api.ErrType},
		{"#take(p, 1, e);", api.ErrType},
		{"#print both(1);", api.ErrType},
		{"#print both(1, nil, 1);", api.ErrType},
		{"#print both(nil, p);", api.ErrType},
		{"#print ref();", api.ErrType},
		{"#print arr();", api.ErrType},

		// A call of a function without a result, wherever a value is asked.
		{"none();", api.OK},
		{"#print none();", api.ErrType},
		{"#if none() { }", api.ErrType},
		{"#while none() { }", api.ErrType},
		{"#var x int = void(1);", api.ErrType},
		{"#i = none();", api.ErrType},
		{"#p = none();", api.ErrType},
		{"#return none();", api.ErrType},
		{"#print -none();", api.ErrType},
		{"#print !none();", api.ErrType},
		{"#print none() + 1;", api.ErrType},
		{"#print 1 && none();", api.ErrType},
		{"#print none() == none();", api.ErrType},
		{"#print none() != 1;", api.ErrType},
		{"#print nil == none();", api.ErrType},
		{"#print none().x;", api.ErrType},
		{"#print none()[0];", api.ErrType},
		{"#print e[none()];", api.ErrType},
		{"#none().x = 1;", api.ErrType},
		{"#none()[0] = 1;", api.ErrType},
		{"#e[void(1)] = 1;", api.ErrType},
		{"#void(none());", api.ErrType},
		{"#take(1, none(), nil);", api.ErrType},
		{"#print both(1, none());", api.ErrType},
		{"#none(none());", api.ErrType},
	})
}

// TestCallsAhead holds calls of functions that stand behind, or that have faults of their own behind the call.
func TestCallsAhead(t *testing.T) {
	testRows(t, []row{
		{"func f(a int) int { g(); return f(a) + h(nil); } func g() { f(1); g(); } func h(r r) int { return h(r.r); } record r { r r; }", api.OK},
		{"func f() { #g(1); } func g() { }", api.ErrType},
		{"func f() { #g(); } record g { x int; }", api.ErrGone},
		// Of two functions of one name the first one is meant.
		{"func f() { g(1); print g(2); } func g(a int) int { } #func g() { }", api.ErrTwice},
		{"func f() { #g(); } func g(a int) int { } func g() { }", api.ErrType},
		{"func f() { #print g(); } func g() { } func g() int { }", api.ErrType},
		{"func f(a int) { } #func f() { } thread { f(); }", api.ErrTwice},
		// A function that has the name of another thing is a function.
		{"func f() { g(1); print g(2); } #func g(a int) int { } shared g r; record r { x int; }", api.ErrTwice},
		{"func f() { #g(); } func g(a int) int { } shared g r; record r { x int; }", api.ErrType},
		{"func f() { #g(); } func g(a int) { } record g { x int; }", api.ErrType},
		// The Result, or a parameter, names no record.
		{"func f() { #print g().x; } func g() w { }", api.ErrGone},
		{"func f() { #g().x = 1; } func g() w { }", api.ErrGone},
		{"func f() { #print g()[0].x; } func g() [2]w { }", api.ErrGone},
		{"func f() { g(); h(g()); h(nil); print g() == g(); print nil != g(); } #func g() w { } func h(a w) { }", api.ErrGone},
		{"func f() { g()[0] = g()[1]; g()[0] = nil; } #func g() [2]w { }", api.ErrGone},
		{"func f() { #h(new w); } func h(a w) { }", api.ErrGone},
		{"record r { x int; } func f() { #h(new r); } func h(a w) { }", api.ErrType},
		{"func f() { #h(g()); } func g() w { } func h(a v) { }", api.ErrType},
		{"func f() { #print g(); } func g() w { }", api.ErrType},
		{"func f() { #print g().x; } func g() [2]w { }", api.ErrType},
		{"func f() { #print g()[0]; } func g() w { }", api.ErrType},
	})
}

func TestReturns(t *testing.T) {
	testRows(t, []row{
		{"func f() { return; } func g() int { return 1; } func h() r { return nil; } func k() r { return new r; } func m() [2]r { if 1 { return nil; } else { return new [2]r; } } thread { return; } record r { x int; }", api.OK},
		{"func f() int { } func g() r { } record r { x int; }", api.OK},
		{"func f() int { #return; }", api.ErrType},
		{"record r { x int; } func f() r { while 1 { #return; } }", api.ErrType},
		{"func f() int { #return nil; }", api.ErrType},
		{"record r { x int; } func f() int { #return new r; }", api.ErrType},
		{"record r { x int; } func f() r { #return 1; }", api.ErrType},
		{"record r { x int; } record q { x int; } func f() r { #return new q; }", api.ErrType},
		{"func f() [2]int { #return new [3]int; }", api.ErrType},
		{"func f() int { #return w; }", api.ErrGone},
		{"func v() { } func f() int { #return v(); }", api.ErrType},
		// Where there is no Result no value fits.
		{"func f() { #return 1; }", api.ErrType},
		{"func f() { if 1 { #return nil; } }", api.ErrType},
		{"func f() { #return new [2]int; }", api.ErrType},
		{"func f() { #return w; }", api.ErrGone},
		{"func v() { } func f() { #return v(); }", api.ErrType},
		{"thread { #return 1; }", api.ErrType},
		{"thread { atomic { #return nil; } }", api.ErrType},
		{"thread { #return w; }", api.ErrGone},
		{"func v() { } thread { #return v(); }", api.ErrType},
		// The Result is that of the function in which the statement stands.
		{"func f() int { return 1; } func g() { return; } func h() { #return 1; }", api.ErrType},
		{"func f() { } func g() int { return 1; } thread { return; } thread { #return 1; }", api.ErrType},
		{"func f() r { return new r; } func g() int { #return new r; } record r { x int; }", api.ErrType},
		{"func f() int { f(); return g().x; } func g() r { f(); #return f(); } record r { x int; }", api.ErrType},
	})
}
