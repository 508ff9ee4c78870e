package tidy

import "turnstile/api"

// none is no register, no block.
const none = -1

// changed is the register that an instruction changes, or none.
func changed(i api.Ins) int {
	switch i.Kind {
	case api.InConst, api.InMove, api.InCalc, api.InShared, api.InNew, api.InLoad, api.InOwnLoad:
		return i.A
	}
	return none
}

// asks are the registers that an instruction asks, filled up by none. A load's or store's C may be none itself.
func asks(i api.Ins) [3]int {
	switch i.Kind {
	case api.InMove, api.InNil, api.InIndex, api.InPrint:
		return [...]int{i.B, none, none}
	case api.InCalc, api.InLoad, api.InOwnLoad:
		return [...]int{i.B, i.C, none}
	case api.InStore, api.InOwnStore:
		return [...]int{i.A, i.B, i.C}
	}
	return [...]int{none, none, none}
}

// spare says whether an instruction does nothing but change its register. One that may end the thread does more, and so does one that makes words.
func spare(i api.Ins) bool {
	switch i.Kind {
	case api.InConst, api.InMove, api.InShared:
		return true
	case api.InCalc:
		return i.Calc != api.CalcDiv && i.Calc != api.CalcMod
	}
	return false
}

// idle says whether an instruction does nothing at all.
func idle(i api.Ins) bool { return i.Kind == api.InMove && i.A == i.B }
