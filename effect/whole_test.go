package effect_test

// wholeText has functions of each sort that may be, each kind of statement and of expression, and nothing in it is wrong.
const wholeText = `
record r { x int; n r; }
shared s int; shared g r; shared e [2]int; shared l [2]r;
func idle() { }
func num(a int) int { if a { return a * 2; } else { while a < 0 { a = -a; } } return half(a) % 3; }
func tell(a int, b r) { print a; print num(a) + half(1); if b == nil { return; } }
func touch(a int) int { s = s + a; var p r = g; while p != nil { p.x = p.x - 1; p = p.n; } return e[num(a)]; }
func open(a int) { if a { atomic { s = touch(a); tell(s, g); var b r = make(); b.n = l[0]; } } else { tell(a, nil); } atomic { put(1); } }
func make() r { if 1 { return new r; } else { return nil; } }
func put(a int) { touch(a); e = new [2]int; tell(a, make()); print !a; }
func half(a int) int { var x int = a / 2; return x; }
func opens() { var i int; while i <= 3 && !idle1() { i = i + 1; open(num(i)); if i == 2 || i != 1 { return; } } }
func idle1() int { var q [2]int = nil; return q == nil; }
thread {
  var x int = num(3);
  idle();
  atomic { s = x; if touch(1) > 2 { print s; } else { l = new [2]r; l[x] = g; } while x >= 1 { x = x - 1; } put(num(x)); }
  opens();
  while num(x) { atomic { var y int = get(); print y; tell(y, l[1]); } open(x); }
  tell(x, nil);
  if x { print x; } else { atomic { } }
}
thread { }
thread { var y r; var n int = 1; y = nil; half(n); }
func get() int { return s; }
`
