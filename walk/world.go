package walk

import "turnstile/api"

// world is what the threads of a run have in common.
type world struct {
	// words are all that there are, by their numbers; the word 0, which is none, is among them.
	words []int64
	// fuel is how many steps may still be taken.
	fuel    int
	strange bool
	deeds   [api.InEnd + 1]deed
}

func newWorld(shared, fuel int) *world {
	return &world{words: make([]int64, 1+shared), fuel: fuel, deeds: deeds()}
}

// step answers whether there is fuel for one more.
func (w *world) step() bool {
	if w.fuel == 0 {
		return false
	}
	w.fuel--
	return true
}

// makes answers the first one of so many new words; false, if there would be too many.
func (w *world) makes(many int64) (first int64, ok bool) {
	first = int64(len(w.words))
	if first-1+many > api.MaxHeap {
		return 0, false
	}
	w.words = append(w.words, make([]int64, many)...)
	return first, true
}

// has says whether there is a word of this number.
func (w *world) has(at int64) bool { return at > 0 && at < int64(len(w.words)) }
