package ir_test

import (
	"fmt"
	"math"
	"regexp"
	"strconv"
	"strings"

	"turnstile/api"
)

// words are the chapter's, written out for one graph.
type words struct {
	api.Graph
	shared int
}

func (w words) reference(r int) bool { return r >= 0 && r < len(w.Refs) && w.Refs[r] }

func (w words) number(r int) bool { return r >= 0 && r < len(w.Refs) && !w.Refs[r] }

func (w words) register(r int) bool { return w.reference(r) || w.number(r) }

// may says what the chapter says of an instruction by itself, but for sites that stand twice.
func (w words) may(i api.Ins) bool {
	switch i.Kind {
	case api.InConst:
		return i == constant(i.A, i.N) && w.register(i.A) && (w.number(i.A) || i.N == 0)
	case api.InMove:
		return i == move(i.A, i.B) && (w.number(i.A) && w.number(i.B) || w.reference(i.A) && w.reference(i.B))
	case api.InCalc:
		numbers := i.Calc > api.CalcNone && i.Calc <= api.CalcLe && w.number(i.B) && w.number(i.C)
		references := (i.Calc == api.CalcEq || i.Calc == api.CalcNe) && w.reference(i.B) && w.reference(i.C)
		return i == calc(i.Calc, i.A, i.B, i.C) && w.number(i.A) && (numbers || references)
	case api.InNil:
		return i == isNil(i.B) && w.reference(i.B)
	case api.InIndex:
		return i == index(i.B, i.N) && w.number(i.B) && 1 <= i.N && i.N <= 64
	case api.InShared:
		return i == shared(i.A, i.N) && w.reference(i.A) && 1 <= i.N && i.N <= int64(w.shared)
	case api.InNew:
		return i == made(i.A, i.N, i.C) && w.reference(i.A) && 1 <= i.N && i.N <= 64 && 0 <= i.C && i.C < w.Sites
	case api.InLoad, api.InStore, api.InOwnLoad, api.InOwnStore:
		return i == access(i.Kind, i.A, i.B, i.C, i.N) && w.register(i.A) && w.reference(i.B) && (i.C == -1 || w.number(i.C)) && 0 <= i.N && i.N <= 64
	case api.InPrint:
		return i == tell(i.B) && w.number(i.B)
	}
	return i == begin() || i == end()
}

func (w words) block(n int) bool { return n >= 0 && n < len(w.Blocks) }

func (w words) mayEnd(b api.Block) bool {
	switch b.Last {
	case api.LaJump:
		return w.block(b.Yes) && b.Reg == 0 && b.No == 0
	case api.LaBranch:
		return w.number(b.Reg) && w.block(b.Yes) && w.block(b.No)
	}
	return b.Last == api.LaHalt && b.Reg == 0 && b.Yes == 0 && b.No == 0
}

func (w words) firstByItself() (api.Spot, bool) {
	had := map[int]int{}
	for n, b := range w.Blocks {
		for k, i := range b.Ins {
			if !w.may(i) || i.Kind == api.InNew && had[i.C] > 0 {
				return api.Spot{Block: n, Ins: k}, true
			}
			if i.Kind == api.InNew {
				had[i.C]++
			}
		}
		if !w.mayEnd(b) {
			return api.Spot{Block: n, Ins: len(b.Ins)}, true
		}
	}
	return api.Spot{}, false
}

// begins says of each block whether it may begin on the outside, and on the inside: what follows of block 0 and of what is known is added, till nothing is new.
func (w words) begins() map[string]map[int]int {
	known := map[string]map[int]int{"outside": {0: 1}, "inside": {}}
	for size := 0; size != len(known["outside"])+len(known["inside"]); {
		size = len(known["outside"]) + len(known["inside"])
		for n, b := range w.Blocks {
			for _, on := range []string{"outside", "inside"} {
				if known[on][n] == 0 {
					continue
				}
				for _, i := range b.Ins {
					on = goesOn(on, i)
				}
				if b.Last == api.LaJump || b.Last == api.LaBranch {
					known[on][b.Yes] = 1
				}
				if b.Last == api.LaBranch {
					known[on][b.No] = 1
				}
			}
		}
	}
	return known
}

func goesOn(on string, i api.Ins) string {
	switch i.Kind {
	case api.InBegin:
		return "inside"
	case api.InEnd:
		return "outside"
	}
	return on
}

func (w words) firstWrongSide() (api.Spot, bool) {
	begins := w.begins()
	for n := range w.Blocks {
		if begins["outside"][n]+begins["inside"][n] == 2 {
			return api.Spot{Block: n}, true
		}
	}
	alone := map[api.InsKind]string{
		api.InNew: "inside", api.InLoad: "inside", api.InStore: "inside", api.InOwnLoad: "inside", api.InOwnStore: "inside", api.InEnd: "inside", api.InBegin: "outside",
	}
	for n, b := range w.Blocks {
		for _, on := range []string{"outside", "inside"} {
			if begins[on][n] == 0 {
				continue
			}
			for k, i := range b.Ins {
				if side := alone[i.Kind]; side != "" && side != on {
					return api.Spot{Block: n, Ins: k}, true
				}
				on = goesOn(on, i)
			}
			if b.Last == api.LaHalt && on != "outside" {
				return api.Spot{Block: n, Ins: len(b.Ins)}, true
			}
			break
		}
	}
	return api.Spot{}, false
}

func (w words) found() (api.Spot, api.Errno) {
	ins := 0
	for _, b := range w.Blocks {
		ins += len(b.Ins)
	}
	if len(w.Refs) > 1024 || len(w.Blocks) > 4096 || ins > 8192 || w.Sites > 8192 {
		return api.Spot{}, api.ErrLimit
	}
	if len(w.Blocks) == 0 || w.Sites < 0 {
		return api.Spot{}, api.ErrGraph
	}
	if at, wrong := w.firstByItself(); wrong {
		return at, api.ErrGraph
	}
	if at, wrong := w.firstWrongSide(); wrong {
		return at, api.ErrGraph
	}
	return api.Spot{}, api.OK
}

// foundByWords is what Check answers by the chapter's words.
func foundByWords(c api.Code) found {
	if c.Words > 65536 || len(c.Threads) > 4 {
		return found{e: api.ErrLimit}
	}
	if c.Words < 0 {
		return found{e: api.ErrGraph}
	}
	for thread, g := range c.Threads {
		if at, e := (words{g, c.Words}).found(); e != api.OK {
			return found{thread, at, e}
		}
	}
	return found{}
}

func calcNames() []string {
	return []string{"add", "sub", "mul", "div", "mod", "and", "or", "xor", "shl", "shr", "eq", "ne", "lt", "le"}
}

// kindNames are the words of instructions, in the order of their kinds.
func kindNames() []string {
	return []string{"const", "move", "calc", "nil", "index", "shared", "new", "load", "store", "ownload", "ownstore", "print", "begin", "end"}
}

func lastNames() []string { return []string{"jump", "branch", "halt"} }

// textByWords is the text of graphs, be they as they may: of those that Check takes it is what Text tells.
func textByWords(c api.Code) string {
	s := fmt.Sprintf("words %d\n", c.Words)
	for _, g := range c.Threads {
		s += fmt.Sprintf("thread %d %d", len(g.Refs), g.Sites)
		for r, holds := range g.Refs {
			if holds {
				s += fmt.Sprintf(" r%d", r)
			}
		}
		s += "\n"
		for _, b := range g.Blocks {
			s += "block\n"
			for _, i := range b.Ins {
				s += insText(i) + "\n"
			}
			s += lastText(b) + "\n"
		}
	}
	return s
}

func insText(i api.Ins) string {
	name := "none"
	if i.Kind >= api.InConst && i.Kind <= api.InEnd {
		name = kindNames()[i.Kind-api.InConst]
	}
	switch i.Kind {
	case api.InConst, api.InShared:
		return fmt.Sprintf("%s r%d %d", name, i.A, i.N)
	case api.InMove:
		return fmt.Sprintf("%s r%d r%d", name, i.A, i.B)
	case api.InCalc:
		of := "none"
		if i.Calc >= api.CalcAdd && i.Calc <= api.CalcLe {
			of = calcNames()[i.Calc-api.CalcAdd]
		}
		return fmt.Sprintf("%s %s r%d r%d r%d", name, of, i.A, i.B, i.C)
	case api.InNil, api.InPrint:
		return fmt.Sprintf("%s r%d", name, i.B)
	case api.InIndex:
		return fmt.Sprintf("%s r%d %d", name, i.B, i.N)
	case api.InNew:
		return fmt.Sprintf("%s r%d %d %d", name, i.A, i.N, i.C)
	case api.InLoad, api.InStore, api.InOwnLoad, api.InOwnStore:
		c := fmt.Sprintf("r%d", i.C)
		if i.C == -1 {
			c = "-"
		}
		return fmt.Sprintf("%s r%d r%d %s %d", name, i.A, i.B, c, i.N)
	}
	return name
}

func lastText(b api.Block) string {
	switch b.Last {
	case api.LaJump:
		return fmt.Sprintf("jump %d", b.Yes)
	case api.LaBranch:
		return fmt.Sprintf("branch r%d %d %d", b.Reg, b.Yes, b.No)
	case api.LaHalt:
		return "halt"
	}
	return "none"
}

// linePattern is what a line is by the chapter's words: R stands for a register, C for one that may be none, N for a number.
func linePattern(text string) *regexp.Regexp {
	text = strings.NewReplacer("R", "r(0|[1-9][0-9]{0,8})", "C", "(?:r(0|[1-9][0-9]{0,8})|-)", "N", "(0|-?[1-9][0-9]*)", "OP", "("+strings.Join(calcNames(), "|")+")").Replace(text)
	return regexp.MustCompile(`\A` + text + `\z`)
}

var (
	wordsLine     = linePattern("words N")
	threadLine    = linePattern("thread N N((?: r[0-9]+)*)")
	threadAhead   = linePattern("thread N N(?: (?s:.*))?")
	referencePart = linePattern("R")
	insLines      = patterns("const R N", "move R R", "calc OP R R R", "nil R", "index R N", "shared R N", "new R N N", "load R R C N", "store R R C N", "ownload R R C N", "ownstore R R C N", "print R", "begin", "end")
	lastLines     = patterns("jump N", "branch R N N", "halt")
)

func patterns(texts ...string) (l []*regexp.Regexp) {
	for _, text := range texts {
		l = append(l, linePattern(text))
	}
	return l
}

// numbers are those that a pattern has found; false, if one is too great for 64 bits.
func numbers(l []string) (n []int64, ok bool) {
	for _, s := range l {
		if s == "" {
			s = "-1"
		}
		k, err := strconv.ParseInt(s, 10, 64)
		if err != nil {
			return nil, false
		}
		n = append(n, k)
	}
	return n, true
}

func readIns(l string) (api.Ins, bool) {
	for k, pattern := range insLines {
		m := pattern.FindStringSubmatch(l)
		if m == nil {
			continue
		}
		var of api.Calc
		m = m[1:]
		if k == 2 {
			for n, name := range calcNames() {
				if name == m[0] {
					of = api.CalcAdd + api.Calc(n)
				}
			}
			m = m[1:]
		}
		n, ok := numbers(m)
		if !ok {
			return api.Ins{}, false
		}
		return insOf(api.InConst+api.InsKind(k), of, n), true
	}
	return api.Ins{}, false
}

// insOf is the instruction of a kind whose line tells these numbers.
func insOf(kind api.InsKind, of api.Calc, n []int64) api.Ins {
	at := func(k int) int { return int(n[k]) }
	switch kind {
	case api.InConst:
		return constant(at(0), n[1])
	case api.InMove:
		return move(at(0), at(1))
	case api.InCalc:
		return calc(of, at(0), at(1), at(2))
	case api.InNil:
		return isNil(at(0))
	case api.InIndex:
		return index(at(0), n[1])
	case api.InShared:
		return shared(at(0), n[1])
	case api.InNew:
		return made(at(0), n[1], at(2))
	case api.InPrint:
		return tell(at(0))
	case api.InBegin:
		return begin()
	case api.InEnd:
		return end()
	}
	return access(kind, at(0), at(1), at(2), n[3])
}

func readLast(l string, b *api.Block) bool {
	for k, pattern := range lastLines {
		m := pattern.FindStringSubmatch(l)
		if m == nil {
			continue
		}
		n, ok := numbers(m[1:])
		b.Last = api.LaJump + api.LastKind(k)
		switch {
		case ok && k == 0:
			b.Yes = int(n[0])
		case ok && k == 1:
			b.Reg, b.Yes, b.No = int(n[0]), int(n[1]), int(n[2])
		}
		return ok
	}
	return false
}

// readThread answers the thread of a line, or by which error that is refused.
func readThread(l string) (g api.Graph, e api.Errno) {
	m := threadAhead.FindStringSubmatch(l)
	if m == nil {
		return g, api.ErrForm
	}
	n, ok := numbers(m[1:])
	if !ok || n[0] < 0 {
		return g, api.ErrForm
	}
	if n[0] > 1024 {
		return g, api.ErrLimit
	}
	if m = threadLine.FindStringSubmatch(l); m == nil {
		return g, api.ErrForm
	}
	g = api.Graph{Refs: make([]bool, n[0]), Sites: int(n[1])}
	last := int64(-1)
	for _, part := range strings.Fields(m[3]) {
		r := int64(math.MaxInt64)
		if one := referencePart.FindStringSubmatch(part); one != nil {
			l, _ := numbers(one[1:])
			r = l[0]
		}
		if r <= last || r >= n[0] {
			return g, api.ErrForm
		}
		g.Refs[r] = true
		last = r
	}
	return g, api.OK
}

// readByWords is what Parse answers by the chapter's words.
func readByWords(s string) (c api.Code, line int, e api.Errno) {
	if len(s) > 65536 {
		return api.Code{}, 0, api.ErrLimit
	}
	var threads []int
	places := map[[3]int]int{}
	open := false
	all := strings.Split(s, "\n")
	for line, l := range all[:len(all)-1] {
		e := api.ErrForm
		at := len(c.Threads) - 1
		switch {
		case line == 0:
			if m := wordsLine.FindStringSubmatch(l); m != nil {
				if n, ok := numbers(m[1:]); ok {
					c.Words, e = int(n[0]), api.OK
				}
			}
		case open:
			blocks := c.Threads[at].Blocks
			b := &blocks[len(blocks)-1]
			places[[3]int{at, len(blocks) - 1, len(b.Ins)}] = line
			if i, ok := readIns(l); ok {
				b.Ins, e = append(b.Ins, i), api.OK
			} else if readLast(l, b) {
				open, e = false, api.OK
			}
		case l == "block" && at >= 0:
			open, e = true, api.OK
			c.Threads[at].Blocks = append(c.Threads[at].Blocks, api.Block{})
		case strings.HasPrefix(l, "thread "):
			var g api.Graph
			g, e = readThread(l)
			c.Threads, threads = append(c.Threads, g), append(threads, line)
		}
		if e != api.OK {
			return api.Code{}, line, e
		}
	}
	if len(all) == 1 || all[len(all)-1] != "" || open {
		return api.Code{}, len(all) - 1, api.ErrForm
	}
	f := foundByWords(c)
	if f.e == api.OK {
		return c, 0, api.OK
	}
	if line, ok := places[[3]int{f.thread, f.at.Block, f.at.Ins}]; ok {
		return api.Code{}, line, f.e
	}
	if f.thread < len(threads) {
		return api.Code{}, threads[f.thread], f.e
	}
	return api.Code{}, 0, f.e
}
