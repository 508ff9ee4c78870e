package ir

import "turnstile/api"

// none is the C of a load or a store that has no such register.
const none = -1

// insLine is the line of an instruction: its word, and a letter for each thing that it has, in order: o for Calc; A, B and C for registers; - for a register C that may be none; c for a C that is a number; n for N. A kind that is none has no word.
func insLine(kind api.InsKind) (name, has string) {
	switch kind {
	case api.InConst:
		return "const", "An"
	case api.InMove:
		return "move", "AB"
	case api.InCalc:
		return "calc", "oABC"
	case api.InNil:
		return "nil", "B"
	case api.InIndex:
		return "index", "Bn"
	case api.InShared:
		return "shared", "An"
	case api.InNew:
		return "new", "Anc"
	case api.InLoad:
		return "load", "AB-n"
	case api.InStore:
		return "store", "AB-n"
	case api.InOwnLoad:
		return "ownload", "AB-n"
	case api.InOwnStore:
		return "ownstore", "AB-n"
	case api.InPrint:
		return "print", "B"
	case api.InBegin:
		return "begin", ""
	case api.InEnd:
		return "end", ""
	}
	return "", ""
}

// lastLine is the line of an end, likewise: it is gone through as what ending makes of it, so b and c are numbers of blocks.
func lastLine(kind api.LastKind) (name, has string) {
	switch kind {
	case api.LaJump:
		return "jump", "b"
	case api.LaBranch:
		return "branch", "Abc"
	case api.LaHalt:
		return "halt", ""
	}
	return "", ""
}

// ending is an end as an instruction of no kind, so that one way goes through the things of both.
func ending(b api.Block) api.Ins {
	return api.Ins{A: b.Reg, B: b.Yes, C: b.No}
}

// slot is where an instruction keeps the register or the number for which a letter stands.
func slot(i *api.Ins, letter rune) *int {
	switch letter {
	case 'A':
		return &i.A
	case 'B', 'b':
		return &i.B
	}
	return &i.C
}

func calcName(c api.Calc) string {
	switch c {
	case api.CalcAdd:
		return "add"
	case api.CalcSub:
		return "sub"
	case api.CalcMul:
		return "mul"
	case api.CalcDiv:
		return "div"
	case api.CalcMod:
		return "mod"
	case api.CalcAnd:
		return "and"
	case api.CalcOr:
		return "or"
	case api.CalcXor:
		return "xor"
	case api.CalcShl:
		return "shl"
	case api.CalcShr:
		return "shr"
	case api.CalcEq:
		return "eq"
	case api.CalcNe:
		return "ne"
	case api.CalcLt:
		return "lt"
	case api.CalcLe:
		return "le"
	}
	return ""
}
