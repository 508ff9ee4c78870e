package lower_test

import (
	"slices"
	"strconv"
	"strings"
	"testing"

	"turnstile/api"
	"turnstile/ir"
	"turnstile/shape"
	"turnstile/walk"
)

// sharedWord is where shape says that a shared variable lies.
func sharedWord(t *testing.T, p api.Program, name string) int64 {
	t.Helper()
	n, e := shape.Shared(p, name)
	if e != api.OK {
		t.Fatalf("%s: shape finds the error %d", name, e)
	}
	return int64(n)
}

// by is a graph that is written out: it does what it is handed within a block, of a reference r0, which names a shared word, and a number r1, or another reference r1.
func by(reference bool, l ...api.Ins) api.Graph {
	all := append([]api.Ins{{Kind: api.InBegin}}, l...)
	return api.Graph{Refs: []bool{true, reference}, Blocks: []api.Block{{Ins: append(all, api.Ins{Kind: api.InEnd}), Last: api.LaHalt}}}
}

func names(word int64) api.Ins { return api.Ins{Kind: api.InShared, A: 0, N: word} }

func loads() api.Ins { return api.Ins{Kind: api.InLoad, A: 1, B: 0, C: -1} }

func stores() api.Ins { return api.Ins{Kind: api.InStore, A: 1, B: 0, C: -1} }

// telling is a graph that tells what a word has.
func telling(word int64) api.Graph {
	return by(false, names(word), loads(), api.Ins{Kind: api.InPrint, B: 1})
}

// setting is one that lays a number in a word.
func setting(word, n int64) api.Graph {
	return by(false, names(word), api.Ins{Kind: api.InConst, A: 1, N: n}, stores())
}

// laying is one that lays in a word what another one has: a reference.
func laying(word, from int64) api.Graph {
	return by(true, names(from), loads(), names(word), stores())
}

// beside answers what is told by graphs behind one that is written out, which is done first, by itself; or ahead of it.
func beside(t *testing.T, c api.Code, g api.Graph, picks ...int) string {
	t.Helper()
	both := api.Code{Words: c.Words, Threads: append(slices.Clone(c.Threads), g)}
	if thread, at, e := ir.Check(both); e != api.OK {
		t.Fatalf("ir finds the error %d in the thread %d at %v", e, thread, at)
	}
	w, e := walk.Run(both, picks, api.MaxFuel)
	if e != api.OK {
		t.Fatalf("walk answers the error %d", e)
	}
	return told(w.Seen, w.Short)
}

// TestNumbersLieAsShapeSays holds that each shared number has the word that shape says: one reads there what another one has written, and the other way round. (P11.2)
func TestNumbersLieAsShapeSays(t *testing.T) {
	for _, ahead := range []string{"", "record r { x int; } shared p r;", "record r { x int; n r; } shared p r; shared q [2]r; shared o [3]int;"} {
		for many := range 8 {
			text := ahead
			for i := range many {
				// Neither by their names nor by their use are they in this order.
				text += " shared v" + strconv.Itoa(i*5%8) + " int;"
				if i%3 == 1 {
					text += " shared w" + strconv.Itoa(i) + " [5]int;"
				}
			}
			for i := range many {
				name := "v" + strconv.Itoa(i*5%8)
				text := text + " thread { atomic { " + name + " = 70 + " + name + "; } atomic { print " + name + "; } }"
				p := read(t, text)
				word := sharedWord(t, p, name)
				c := lowered(t, text, p)
				if got := beside(t, c, telling(word), 0, 1, 1, 1, 0, 0, 0); got != "70 done | 70 done" {
					t.Errorf("%s: what is told of the word %d: %s", text, word, got)
				}
				if got := beside(t, c, setting(word, 5), 1, 1, 0, 0, 0, 0, 0); got != "75 done | done" {
					t.Errorf("%s: what is told of what the word %d has been made: %s", text, word, got)
				}
				for other := 1; other <= c.Words; other++ {
					if got := beside(t, c, telling(int64(other)), 0, 1, 1, 1); int64(other) != word && got != ".. | 0 done" {
						t.Errorf("%s: the word %d has become another one: %s", text, other, got)
					}
				}
			}
		}
	}
}

// TestReferencesLieAsShapeSays holds the same of references: what one has made is laid in another shared variable of its type by its word. (P11.2)
func TestReferencesLieAsShapeSays(t *testing.T) {
	const things = "record r { x int; n r; } record q { x int; } shared n int; shared a r; shared b r; shared c q; shared d q; shared e [2]int; shared m int; shared f [2]int; shared g [3]r; shared h [3]r; shared i [64]int; shared j [64]int; "
	for _, pair := range []struct{ from, to, thing string }{
		{"a", "b", "r"}, {"b", "a", "r"}, {"c", "d", "q"}, {"d", "c", "q"}, {"e", "f", "[2]int"}, {"f", "e", "[2]int"}, {"g", "h", "[3]r"}, {"h", "g", "[3]r"}, {"i", "j", "[64]int"}, {"j", "i", "[64]int"},
	} {
		text := things + "thread { atomic { print $ == nil; @ = new " + pair.thing + "; print $ == nil; } atomic { print $ == @; print $ == nil; $ = nil; print $ == @; print @ == nil; } }"
		text = strings.ReplaceAll(strings.ReplaceAll(text, "@", pair.from), "$", pair.to)
		p := read(t, text)
		c := lowered(t, text, p)
		g := laying(sharedWord(t, p, pair.to), sharedWord(t, p, pair.from))
		if got := beside(t, c, g, 0, 1, 1, 0, 0, 0, 0, 0, 0, 0, 0); got != "1 1 1 0 0 0 done | done" {
			t.Errorf("%s: %s", text, got)
		}
	}
}

// TestWordsAreOfShape holds how many words there are, with as many shared variables as there may be, and where the last ones of these lie. (P11.2)
func TestWordsAreOfShape(t *testing.T) {
	for _, many := range []int{0, 1, 2, 15, 16, 17, 255, 256, 1000, api.MaxItems - 1, api.MaxItems} {
		p := api.Program{}
		for i := range many {
			p.Shared = append(p.Shared, api.Field{Name: "v" + strconv.Itoa(many-i), Type: api.Type{Kind: api.TyInt}})
		}
		if many == 0 {
			p.Threads = [][]api.Stmt{{}}
			lowered(t, many, p)
			continue
		}
		for _, i := range []int{1, many/2 + 1, many} {
			v := api.Expr{Kind: api.ExName, Name: "v" + strconv.Itoa(i)}
			p.Threads = [][]api.Stmt{{{Kind: api.StAtomic, Body: []api.Stmt{{Kind: api.StSet, X: v, Y: numeral(8)}}}}}
			c := lowered(t, many, p)
			if c.Words != many {
				t.Errorf("%d shared variables: %d words", many, c.Words)
			}
			if got := beside(t, c, telling(sharedWord(t, p, v.Name)), 0, 1, 1); got != ".. | 8 .." {
				t.Errorf("%d shared variables: the word of %s: %s", many, v.Name, got)
			}
		}
	}
}

// TestAsManyThreads holds that there are as many threads, those with an empty list among them, each in its place. (P11.2)
func TestAsManyThreads(t *testing.T) {
	for many := range api.MaxThreads + 1 {
		for which := range 1 << many {
			text, want, picks := "", []string{}, ""
			for i := range many {
				if which>>i&1 == 0 {
					text += "thread { } "
					want = append(want, "done")
				} else {
					text += "thread { print " + strconv.Itoa(i) + "; } "
					want = append(want, strconv.Itoa(i)+" done")
				}
				picks += " " + strconv.Itoa(i) + "*2"
			}
			testTold(t, text, picks, strings.Join(want, " | "))
			testTold(t, "shared n int; func f() { } "+text, "", strings.Join(slices.Repeat([]string{".."}, many), " | "))
		}
	}
	c := lowered(t, "nothing", api.Program{})
	if c.Words != 0 || len(c.Threads) != 0 {
		t.Errorf("of nothing: %v", c)
	}
	c = lowered(t, "empty lists", api.Program{Threads: make([][]api.Stmt, api.MaxThreads)})
	if len(c.Threads) != api.MaxThreads {
		t.Errorf("of empty lists: %v", c)
	}
	c = lowered(t, "no thread", read(t, things))
	if c.Words != 8 || len(c.Threads) != 0 {
		t.Errorf("without a thread: %v", c)
	}
}
