package live_test

import (
	"slices"
	"testing"

	"turnstile/api"
)

// TestInIsAtTheBeginning holds that In of a block is At of its beginning. (P13.4)
func TestInIsAtTheBeginning(t *testing.T) {
	each(133, 2000, func(m maker, g api.Graph) {
		l := in(t, g)
		if len(l) != len(g.Blocks) {
			t.Fatalf("%s: In has %d elements", textOf(g), len(l))
		}
		for n := range g.Blocks {
			if got := at(t, g, spot(n, 0)); !slices.Equal(got, l[n]) {
				t.Errorf("%s: At %d's beginning: %v, In: %v", textOf(g), n, got, l[n])
			}
		}
	})
}

// TestWhatNoneAsks holds that a register that no instruction and no end asks is live nowhere. (P13.4)
func TestWhatNoneAsks(t *testing.T) {
	c := tally{}
	each(134, 2000, func(m maker, g api.Graph) {
		asked := make([]bool, len(g.Refs))
		for _, b := range g.Blocks {
			for _, i := range b.Ins {
				for r := range asked {
					asked[r] = asked[r] || asks(i, r)
				}
				if changes(i, i.A) && !asked[i.A] {
					c["changed"]++
				}
			}
			if b.Last == api.LaBranch {
				asked[b.Reg] = true
			}
		}
		for _, s := range spots(g) {
			for _, r := range at(t, g, s) {
				c.count("asked", asked[r])
				if !asked[r] {
					t.Errorf("%s: %d is live at %v", textOf(g), r, s)
				}
			}
		}
	})
	c.wants(t, 300, "asked", "changed")
}

// TestNothingAtHalts holds that at a halt nothing is live. (P13.4)
func TestNothingAtHalts(t *testing.T) {
	c := tally{}
	each(135, 2000, func(m maker, g api.Graph) {
		for n, b := range g.Blocks {
			if b.Last != api.LaHalt {
				continue
			}
			c["halts"]++
			if l := at(t, g, spot(n, len(b.Ins))); len(l) > 0 {
				t.Errorf("%s: %v are live at the halt of %d", textOf(g), l, n)
			}
		}
	})
	c.wants(t, 1000, "halts")
}

// TestAheadOfAnInstruction holds that what is live there is what is live behind it, less what it changes, and what it asks; and at a block's end what is live at the beginnings to which it leads, and what it asks. (P13.4)
func TestAheadOfAnInstruction(t *testing.T) {
	each(136, 2000, func(m maker, g api.Graph) {
		begins := in(t, g)
		for _, s := range spots(g) {
			b := g.Blocks[s.Block]
			var behind, want []int
			if s.Ins < len(b.Ins) {
				behind = at(t, g, spot(s.Block, s.Ins+1))
			}
			for _, to := range leadsTo(b) {
				if s.Ins == len(b.Ins) {
					behind = append(behind, begins[to]...)
				}
			}
			for r := range g.Refs {
				is := slices.Contains(behind, r)
				if s.Ins < len(b.Ins) {
					is = is && !changes(b.Ins[s.Ins], r) || asks(b.Ins[s.Ins], r)
				} else {
					is = is || b.Last == api.LaBranch && b.Reg == r
				}
				if is {
					want = append(want, r)
				}
			}
			if got := at(t, g, s); !slices.Equal(got, want) {
				t.Errorf("%s: At %v: %v, not %v", textOf(g), s, got, want)
			}
		}
	})
}

// TestWhatIsSavedIsLive holds that Saved's registers are some of those that are live at the InBegin, and behind it. (P13.3)
func TestWhatIsSavedIsLive(t *testing.T) {
	c := tally{}
	each(137, 2000, func(m maker, g api.Graph) {
		for _, s := range spots(g) {
			if !isBegin(g, s) {
				continue
			}
			before, behind := at(t, g, s), at(t, g, spot(s.Block, s.Ins+1))
			if !slices.Equal(before, behind) {
				t.Errorf("%s: %v: %v are live ahead, %v behind", textOf(g), s, before, behind)
			}
			for _, r := range saved(t, g, s) {
				c["saved"]++
				if !slices.Contains(behind, r) {
					t.Errorf("%s: %d is saved at %v, where %v are live", textOf(g), r, s, behind)
				}
			}
		}
	})
	c.wants(t, 300, "saved")
}

// TestNotReachedMakesNoDifference holds that what stands in blocks which are not reached changes nothing of what is said of those that are. (P13.1 to P13.3)
func TestNotReachedMakesNoDifference(t *testing.T) {
	c := tally{}
	each(138, 2000, func(m maker, g api.Graph) {
		other := copied(g)
		is := reached(g)
		for n := range g.Blocks {
			if is[n] {
				continue
			}
			c["changed"]++
			other.Blocks[n] = api.Block{Last: api.LaJump, Yes: m.Intn(len(g.Blocks))}
			for r, ref := range g.Refs {
				if !ref {
					other.Blocks[n].Ins = append(other.Blocks[n].Ins, one(m, api.Ins{Kind: api.InPrint, B: r}, api.Ins{Kind: api.InConst, A: r}))
				}
			}
			if len(other.Blocks[n].Ins) > 100 {
				other.Blocks[n].Ins = other.Blocks[n].Ins[:100]
			}
		}
		for _, s := range spots(g) {
			if !is[s.Block] {
				continue
			}
			if was, now := at(t, g, s), at(t, other, s); !slices.Equal(was, now) {
				t.Errorf("%s, then %s: At %v: %v, then %v", textOf(g), textOf(other), s, was, now)
			}
			if !isBegin(g, s) {
				continue
			}
			if was, now := saved(t, g, s), saved(t, other, s); !slices.Equal(was, now) {
				t.Errorf("%s, then %s: Saved %v: %v, then %v", textOf(g), textOf(other), s, was, now)
			}
		}
	})
	c.wants(t, 300, "changed")
}
