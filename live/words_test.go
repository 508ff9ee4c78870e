package live_test

import (
	"slices"
	"strings"
	"testing"

	"turnstile/api"
)

// The chapter's words, and those of chapter 9 on what is asked and changed, written out once more: as plainly as they stand there.

// asks says whether an instruction asks a register.
func asks(i api.Ins, r int) bool {
	hasB := []api.InsKind{api.InMove, api.InCalc, api.InNil, api.InIndex, api.InLoad, api.InStore, api.InOwnLoad, api.InOwnStore, api.InPrint}
	hasC := []api.InsKind{api.InCalc, api.InLoad, api.InStore, api.InOwnLoad, api.InOwnStore}
	store := i.Kind == api.InStore || i.Kind == api.InOwnStore
	return slices.Contains(hasB, i.Kind) && i.B == r || slices.Contains(hasC, i.Kind) && i.C == r || store && i.A == r
}

// changes says whether an instruction changes a register.
func changes(i api.Ins, r int) bool {
	l := []api.InsKind{api.InConst, api.InMove, api.InCalc, api.InShared, api.InNew, api.InLoad, api.InOwnLoad}
	return slices.Contains(l, i.Kind) && i.A == r
}

// words are a graph's spots, and what the words say of each.
type words struct {
	api.Graph
	spots []api.Spot
	// on are the places, among the spots, of those to which one leads.
	on [][]int
	// asks and changes say of each register whether what stands at each spot does so.
	asks, changes [][]bool
}

func wordsOf(g api.Graph) words {
	w := words{Graph: g, spots: spots(g)}
	place := map[api.Spot]int{}
	for n, s := range w.spots {
		place[s] = n
	}
	for n, s := range w.spots {
		b := g.Blocks[s.Block]
		var on []int
		switch {
		case s.Ins < len(b.Ins):
			on = []int{n + 1}
		case b.Last == api.LaJump:
			on = []int{place[spot(b.Yes, 0)]}
		case b.Last == api.LaBranch:
			on = []int{place[spot(b.Yes, 0)], place[spot(b.No, 0)]}
		}
		w.on = append(w.on, on)
	}
	for r := range g.Refs {
		asked, changed := make([]bool, len(w.spots)), make([]bool, len(w.spots))
		for n, s := range w.spots {
			if b := g.Blocks[s.Block]; s.Ins < len(b.Ins) {
				asked[n], changed[n] = asks(b.Ins[s.Ins], r), changes(b.Ins[s.Ins], r)
			} else {
				asked[n] = b.Last == api.LaBranch && b.Reg == r
			}
		}
		w.asks, w.changes = append(w.asks, asked), append(w.changes, changed)
	}
	return w
}

// some says whether there is a way on from a spot to one that is sought, through none that ends it.
func (w words) some(from int, sought, ends func(n int) bool) bool {
	met := make([]bool, len(w.spots))
	for open := []int{from}; len(open) > 0; {
		n := open[len(open)-1]
		open = open[:len(open)-1]
		if met[n] {
			continue
		}
		met[n] = true
		if sought(n) {
			return true
		}
		if !ends(n) {
			open = append(open, w.on[n]...)
		}
	}
	return false
}

// live are the registers that are live at a spot.
func (w words) live(n int) (l []int) {
	for r := range w.Refs {
		if w.some(n, func(n int) bool { return w.asks[r][n] }, func(n int) bool { return w.changes[r][n] }) {
			l = append(l, r)
		}
	}
	return l
}

func (w words) isEnd(n int) bool {
	s := w.spots[n]
	l := w.Blocks[s.Block].Ins
	return s.Ins < len(l) && l[s.Ins].Kind == api.InEnd
}

// saved are the registers that are live straight behind the InBegin at a spot, and changed on a way on from there.
func (w words) saved(n int) (l []int) {
	for _, r := range w.live(n + 1) {
		if w.some(n+1, func(n int) bool { return w.changes[r][n] }, w.isEnd) {
			l = append(l, r)
		}
	}
	return l
}

// testByWords holds all three calls' answers of a graph against the words.
func testByWords(t *testing.T, g api.Graph) {
	t.Helper()
	w := wordsOf(g)
	var begins []string
	for n, s := range w.spots {
		want := w.live(n)
		if s.Ins == 0 {
			begins = append(begins, numbers(want))
		}
		if got := at(t, g, s); !slices.Equal(got, want) {
			t.Errorf("%s: At %v: %v, not %v", textOf(g), s, got, want)
		}
		if !isBegin(g, s) {
			testNoBegin(t, g, s)
			continue
		}
		if got, want := saved(t, g, s), w.saved(n); !slices.Equal(got, want) {
			t.Errorf("%s: Saved %v: %v, not %v", textOf(g), s, got, want)
		}
	}
	testIn(t, g, strings.Join(begins, "; "))
}
