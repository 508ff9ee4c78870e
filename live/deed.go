package live

import (
	"slices"

	"turnstile/api"
)

// deed is what a stretch of a block does to registers: which ones it asks ahead of changing them, and which ones it changes.
type deed struct{ asks, changes set }

// deedFrom is what a block does from an instruction on, its end too.
func deedFrom(b api.Block, k int) (d deed) {
	if b.Last == api.LaBranch {
		d.asks.put(b.Reg)
	}
	for _, i := range slices.Backward(b.Ins[k:]) {
		d.changes.put(changed(i))
		d.asks.take(changed(i))
		// Behind the change, as an instruction asks ahead of changing.
		for _, r := range asked(i) {
			d.asks.put(r)
		}
	}
	return d
}

// ahead is what is live ahead of a stretch behind which so much is live.
func (d deed) ahead(behind set) set { return behind.less(d.changes).with(d.asks) }

// changed is the register that an instruction changes, or none.
func changed(i api.Ins) int {
	switch i.Kind {
	case api.InConst, api.InMove, api.InCalc, api.InShared, api.InNew, api.InLoad, api.InOwnLoad:
		return i.A
	}
	return none
}

// asked are the registers that an instruction asks, filled up by none. A load's or store's C may be none itself.
func asked(i api.Ins) [3]int {
	switch i.Kind {
	case api.InMove, api.InNil, api.InIndex, api.InPrint:
		return [...]int{i.B, none, none}
	case api.InCalc, api.InLoad, api.InOwnLoad:
		return [...]int{i.B, i.C, none}
	case api.InStore, api.InOwnStore:
		return [...]int{i.A, i.B, i.C}
	}
	return [...]int{none, none, none}
}
