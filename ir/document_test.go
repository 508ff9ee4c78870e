package ir_test

import (
	"strings"
	"testing"

	"turnstile/api"
)

// TestDocument holds the chapter's examples.
func TestDocument(t *testing.T) {
	testTaken(t, "words 0/", api.Code{})
	const stores = "words 1/thread 2 0 r1/block/begin/shared r1 1/const r0 5/store r0 r1 - 0/end/halt/"
	testTaken(t, stores, api.Code{Words: 1, Threads: []api.Graph{{Refs: sorts("nr"), Blocks: []api.Block{
		halt(begin(), shared(1, 1), constant(0, 5), access(api.InStore, 0, 1, -1, 0), end()),
	}}}})
	testRefused(t, strings.NewReplacer("begin/", "", "end/", "").Replace(stores), 5, api.ErrGraph)
	testRefused(t, "words 0/thread 1 0/block/begin/halt/", 4, api.ErrGraph)
	testRefused(t, "words 0/thread 1 0/block/jump 1/", 3, api.ErrGraph)
	testRefused(t, "", 0, api.ErrForm)
	testRefused(t, "words 0", 0, api.ErrForm)
	testRefused(t, "words 0/thread 1 0/", 1, api.ErrGraph)
	testRefused(t, "words 0/block/", 1, api.ErrForm)
	testRefused(t, "words 0/thread 1 0/block/print  r0/", 3, api.ErrForm)
	testRefused(t, "words 0/thread 1025 0/", 1, api.ErrLimit)
	testRefused(t, "words 65537/", 0, api.ErrLimit)
	testRefused(t, "words 0/thread 1 0/block/branch r0 1 0/block/begin/jump 1/", 5, api.ErrGraph)
}

// everyKind has each kind of instruction with each shape of its fields, each operation, each end, blocks that are not reached, and threads of all sorts.
func everyKind() (api.Code, string) {
	text := `words 7/` +
		`thread 6 3 r3 r4 r5/` +
		`block/const r0 -9223372036854775808/const r2 9223372036854775807/const r5 0/move r0 r1/move r3 r5/calc add r0 r1 r2/calc sub r0 r0 r0/calc mul r2 r1 r0/calc div r0 r1 r2/calc mod r0 r1 r2/calc and r0 r1 r2/calc or r0 r1 r2/calc xor r0 r1 r2/calc shl r0 r1 r2/calc shr r0 r1 r2/calc eq r0 r1 r2/calc eq r0 r3 r5/calc ne r0 r1 r2/calc ne r2 r4 r4/calc lt r0 r1 r2/calc le r0 r1 r2/print r2/branch r1 1 2/` +
		`block/begin/nil r3/index r1 1/index r0 64/shared r3 1/shared r5 7/new r3 1 2/new r4 64 0/load r0 r3 - 0/load r5 r4 r2 64/store r1 r5 r0 1/store r3 r4 - 63/print r0/ownload r2 r3 r1 5/ownload r4 r3 - 0/ownstore r0 r5 - 64/ownstore r5 r5 r1 0/end/jump 0/` +
		`block/halt/` +
		`block/end/begin/new r5 2 1/begin/branch r0 3 3/` +
		`thread 0 0/block/halt/` +
		`thread 3 8192 r0 r2/block/jump 0/` +
		`thread 1 0 r0/block/jump 2/block/halt/block/begin/jump 3/block/nil r0/end/jump 1/`
	c := code(
		graph(
			branch(1, 1, 2, constant(0, -1<<63), constant(2, 1<<63-1), constant(5, 0), move(0, 1), move(3, 5),
				calc(api.CalcAdd, 0, 1, 2), calc(api.CalcSub, 0, 0, 0), calc(api.CalcMul, 2, 1, 0), calc(api.CalcDiv, 0, 1, 2), calc(api.CalcMod, 0, 1, 2), calc(api.CalcAnd, 0, 1, 2), calc(api.CalcOr, 0, 1, 2), calc(api.CalcXor, 0, 1, 2), calc(api.CalcShl, 0, 1, 2), calc(api.CalcShr, 0, 1, 2),
				calc(api.CalcEq, 0, 1, 2), calc(api.CalcEq, 0, 3, 5), calc(api.CalcNe, 0, 1, 2), calc(api.CalcNe, 2, 4, 4), calc(api.CalcLt, 0, 1, 2), calc(api.CalcLe, 0, 1, 2), tell(2)),
			jump(0, begin(), isNil(3), index(1, 1), index(0, 64), shared(3, 1), shared(5, 7), made(3, 1, 2), made(4, 64, 0),
				access(api.InLoad, 0, 3, -1, 0), access(api.InLoad, 5, 4, 2, 64), access(api.InStore, 1, 5, 0, 1), access(api.InStore, 3, 4, -1, 63), tell(0),
				access(api.InOwnLoad, 2, 3, 1, 5), access(api.InOwnLoad, 4, 3, -1, 0), access(api.InOwnStore, 0, 5, -1, 64), access(api.InOwnStore, 5, 5, 1, 0), end()),
			halt(),
			branch(0, 3, 3, end(), begin(), made(5, 2, 1), begin()),
		),
		atOnce(),
		api.Graph{Refs: sorts("rnr"), Sites: 8192, Blocks: []api.Block{jump(0)}},
		api.Graph{Refs: sorts("r"), Blocks: []api.Block{jump(2), halt(), jump(3, begin()), jump(1, isNil(0), end())}},
	)
	return c, text
}

func TestEveryKind(t *testing.T) {
	c, text := everyKind()
	testCheck(t, "every kind", c, nothing())
	testTaken(t, text, c)
}
