package show

import "turnstile/api"

// exprWants is what an expression's kind wants of its own form: the fields that it does not name are zero.
type exprWants struct {
	args   int
	number bool
	name   bool
	made   bool
	// sign is what stands between two operands; empty, if the kind is none of theirs.
	sign string
}

// anyArgs is wanted by a kind that has any number of Args.
const anyArgs = -1

func exprKinds() map[api.ExprKind]exprWants {
	return map[api.ExprKind]exprWants{
		api.ExNumber: {number: true},
		api.ExNil:    {},
		api.ExName:   {name: true},
		api.ExField:  {args: 1, name: true},
		api.ExIndex:  {args: 2},
		api.ExNew:    {made: true},
		api.ExCall:   {args: anyArgs, name: true},
		api.ExNeg:    {args: 1},
		api.ExNot:    {args: 1},
		api.ExAdd:    {args: 2, sign: "+"},
		api.ExSub:    {args: 2, sign: "-"},
		api.ExMul:    {args: 2, sign: "*"},
		api.ExDiv:    {args: 2, sign: "/"},
		api.ExMod:    {args: 2, sign: "%"},
		api.ExEq:     {args: 2, sign: "=="},
		api.ExNe:     {args: 2, sign: "!="},
		api.ExLt:     {args: 2, sign: "<"},
		api.ExLe:     {args: 2, sign: "<="},
		api.ExGt:     {args: 2, sign: ">"},
		api.ExGe:     {args: 2, sign: ">="},
		api.ExAnd:    {args: 2, sign: "&&"},
		api.ExOr:     {args: 2, sign: "||"},
	}
}

// stmtWants is what a statement's kind wants of its own form: the fields that it does not name are zero.
type stmtWants struct {
	variable bool
	x        xWants
	y        bool
	body     bool
	other    bool
}

// xWants says what a statement's X may be.
type xWants uint8

const (
	xNone xWants = iota
	xAnyOrNone
	xAny
	xPlace
	xCall
)

func stmtKinds() map[api.StmtKind]stmtWants {
	return map[api.StmtKind]stmtWants{
		api.StVar:    {variable: true, x: xAnyOrNone},
		api.StSet:    {x: xPlace, y: true},
		api.StIf:     {x: xAny, body: true, other: true},
		api.StWhile:  {x: xAny, body: true},
		api.StAtomic: {body: true},
		api.StPrint:  {x: xAny},
		api.StReturn: {x: xAnyOrNone},
		api.StCall:   {x: xCall},
	}
}

// none says whether an X or a Y is left out.
func none(x api.Expr) bool {
	return x.Kind == api.ExNone && x.N == 0 && x.Name == "" && x.Type == api.Type{} && len(x.Args) == 0
}
