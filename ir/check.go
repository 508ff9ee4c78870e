package ir

import "turnstile/api"

// checkGraph answers the first thing that is wrong with one thread's graph.
func checkGraph(g api.Graph, words int) (api.Spot, api.Errno) {
	if e := checkSizes(g); e != api.OK {
		return api.Spot{}, e
	}
	if at, wrong := newChecker(g, words).firstWrong(); wrong {
		return at, api.ErrGraph
	}
	begins := beginnings(g)
	if at, wrong := firstOnBoth(begins); wrong {
		return at, api.ErrGraph
	}
	if at, wrong := firstMisplaced(g, begins); wrong {
		return at, api.ErrGraph
	}
	return api.Spot{}, api.OK
}

func checkSizes(g api.Graph) api.Errno {
	switch {
	case len(g.Refs) > api.MaxRegs || len(g.Blocks) > api.MaxBlocks || g.Sites > api.MaxIns:
		return api.ErrLimit
	case tooLong(g):
		return api.ErrLimit
	case len(g.Blocks) == 0 || g.Sites < 0:
		return api.ErrGraph
	}
	return api.OK
}

// tooLong says whether a graph has more instructions, in all, than there may be.
func tooLong(g api.Graph) bool {
	left := api.MaxIns
	for _, b := range g.Blocks {
		if len(b.Ins) > left {
			return true
		}
		left -= len(b.Ins)
	}
	return false
}

// checker goes through the instructions and the ends of a graph, each by itself.
type checker struct {
	api.Graph
	words int
	// made are the sites for which an InNew stands ahead.
	made []bool
}

func newChecker(g api.Graph, words int) *checker {
	return &checker{g, words, make([]bool, g.Sites)}
}

// firstWrong answers the first spot that may not be by itself.
func (c *checker) firstWrong() (at api.Spot, wrong bool) {
	for n, b := range c.Blocks {
		for k, i := range b.Ins {
			if !c.ins(i) {
				return api.Spot{Block: n, Ins: k}, true
			}
		}
		if !c.last(b) {
			return api.Spot{Block: n, Ins: len(b.Ins)}, true
		}
	}
	return api.Spot{}, false
}

func (c *checker) ins(i api.Ins) bool {
	name, has := insLine(i.Kind)
	return name != "" && c.shaped(i, has) && c.fits(i)
}

func (c *checker) last(b api.Block) bool {
	name, has := lastLine(b.Last)
	return name != "" && c.shaped(ending(b), has) && c.leads(b)
}

// shaped says whether the registers that an instruction has are there, and what it does not have is 0.
func (c *checker) shaped(i api.Ins, has string) bool {
	i.Kind = api.InNone
	for _, letter := range has {
		switch letter {
		case 'o':
			i.Calc = api.CalcNone
		case 'n':
			i.N = 0
		case 'b', 'c':
			*slot(&i, letter) = 0
		case '-':
			if i.C == none {
				i.C = 0
				break
			}
			fallthrough
		default:
			r := slot(&i, letter)
			if *r < 0 || *r >= len(c.Refs) {
				return false
			}
			*r = 0
		}
	}
	return i == api.Ins{}
}

// fits says whether registers hold what an instruction wants of them, and its numbers are those that it may have. Its registers are there.
func (c *checker) fits(i api.Ins) bool {
	switch i.Kind {
	case api.InConst:
		return !c.Refs[i.A] || i.N == 0
	case api.InMove:
		return c.Refs[i.A] == c.Refs[i.B]
	case api.InCalc:
		return c.calc(i)
	case api.InNil:
		return c.Refs[i.B]
	case api.InIndex:
		return !c.Refs[i.B] && within(i.N, 1, api.MaxArray)
	case api.InShared:
		return c.Refs[i.A] && within(i.N, 1, c.words)
	case api.InNew:
		return c.Refs[i.A] && within(i.N, 1, api.MaxArray) && c.makes(i.C)
	case api.InLoad, api.InStore, api.InOwnLoad, api.InOwnStore:
		return c.Refs[i.B] && (i.C == none || !c.Refs[i.C]) && within(i.N, 0, api.MaxArray)
	case api.InPrint:
		return !c.Refs[i.B]
	}
	return true
}

func (c *checker) calc(i api.Ins) bool {
	if calcName(i.Calc) == "" || c.Refs[i.A] || c.Refs[i.B] != c.Refs[i.C] {
		return false
	}
	return !c.Refs[i.B] || i.Calc == api.CalcEq || i.Calc == api.CalcNe
}

// makes says whether a site is one for which no InNew stands ahead; now one does.
func (c *checker) makes(site int) bool {
	if site < 0 || site >= len(c.made) || c.made[site] {
		return false
	}
	c.made[site] = true
	return true
}

// leads says whether an end asks a number's register and names blocks. Its register is there.
func (c *checker) leads(b api.Block) bool {
	switch b.Last {
	case api.LaJump:
		return c.block(b.Yes)
	case api.LaBranch:
		return !c.Refs[b.Reg] && c.block(b.Yes) && c.block(b.No)
	}
	return true
}

func (c *checker) block(n int) bool { return n >= 0 && n < len(c.Blocks) }

func within(n int64, from, to int) bool { return n >= int64(from) && n <= int64(to) }
