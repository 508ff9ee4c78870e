// Package frame holds that every layer offers the calls that the document's chapters list, and that errors have the numbers of its table.
package frame

import (
	"testing"

	"turnstile/api"
	"turnstile/asm"
	"turnstile/barrier"
	"turnstile/buffer"
	"turnstile/compile"
	"turnstile/desk"
	"turnstile/effect"
	"turnstile/elide"
	"turnstile/escape"
	"turnstile/flow"
	"turnstile/gen"
	"turnstile/history"
	"turnstile/image"
	"turnstile/ir"
	"turnstile/isa"
	"turnstile/lex"
	"turnstile/litmus"
	"turnstile/live"
	"turnstile/lower"
	"turnstile/opaque"
	"turnstile/parse"
	"turnstile/plan"
	"turnstile/play"
	"turnstile/serial"
	"turnstile/shape"
	"turnstile/show"
	"turnstile/source"
	"turnstile/tidy"
	"turnstile/tl2"
	"turnstile/tso"
	"turnstile/types"
	"turnstile/walk"
	"turnstile/word"
)

// Calls of the language: chapters 1 to 8.
var (
	_ func(api.Calc, int64, int64) (int64, api.Errno)             = word.Do
	_ func(int64) string                                          = word.Text
	_ func(string) (int64, api.Errno)                             = word.Parse
	_ func(string) ([]api.Token, int, api.Errno)                  = lex.Tokens
	_ func(string) bool                                           = lex.Word
	_ func(string) bool                                           = lex.Name
	_ func(api.Program) api.Errno                                 = show.Check
	_ func(api.Program) (string, api.Errno)                       = show.Program
	_ func(api.Expr) (string, api.Errno)                          = show.Expr
	_ func(api.Type) (string, api.Errno)                          = show.Type
	_ func(api.Program) int                                       = show.Items
	_ func(string) (api.Program, []int, int, api.Errno)           = parse.Program
	_ func(string) (api.Expr, api.Errno)                          = parse.Expr
	_ func(api.Program) (int, api.Errno)                          = types.Check
	_ func(api.Program) int                                       = types.Places
	_ func(api.Program) (int, api.Errno)                          = effect.Check
	_ func(api.Program) ([]api.Effect, api.Errno)                 = effect.Of
	_ func(api.Program) (int, api.Errno)                          = shape.Words
	_ func(api.Program, string) (int, api.Errno)                  = shape.Shared
	_ func(api.Program, api.Type) (int, api.Errno)                = shape.Size
	_ func(api.Program, string, string) (int, api.Errno)          = shape.Offset
	_ func(api.Program, []int, int) ([]api.Seen, bool, api.Errno) = source.Run
)

// Calls of graphs: chapters 9 to 16.
var (
	_ func(api.Code) (int, api.Spot, api.Errno)          = ir.Check
	_ func(api.Code) (string, api.Errno)                 = ir.Text
	_ func(string) (api.Code, int, api.Errno)            = ir.Parse
	_ func(api.Code, []int, int) (api.Walked, api.Errno) = walk.Run
	_ func(api.Program) (api.Code, api.Errno)            = lower.Lower
	_ func(api.Graph) ([]bool, api.Errno)                = flow.Reach
	_ func(api.Graph) ([][]int, api.Errno)               = flow.Ahead
	_ func(api.Graph) ([]int, api.Errno)                 = flow.Dom
	_ func(api.Graph) ([]bool, api.Errno)                = flow.Inside
	_ func(api.Graph) ([][]int, api.Errno)               = live.In
	_ func(api.Graph, api.Spot) ([]int, api.Errno)       = live.At
	_ func(api.Graph, api.Spot) ([]int, api.Errno)       = live.Saved
	_ func(api.Code) (api.Code, api.Errno)               = tidy.Tidy
	_ func(api.Graph) ([]bool, api.Errno)                = escape.Escaped
	_ func(api.Graph) ([]api.Spot, api.Errno)            = escape.Own
	_ func(api.Code) (api.Code, int, api.Errno)          = elide.Elide
	_ func(api.Code) (api.Code, api.Errno)               = elide.Plain
)

// Calls of the machine: chapters 17 to 22.
var (
	_ func(api.Op) api.Errno                                    = isa.Check
	_ func([]api.Op) (string, api.Errno)                        = isa.Encode
	_ func(string) ([]api.Op, int, api.Errno)                   = isa.Decode
	_ func([]api.Op) (string, api.Errno)                        = asm.Text
	_ func(string) ([]api.Op, int, api.Errno)                   = asm.Parse
	_ func() *buffer.Buffer                                     = buffer.New
	_ func(*buffer.Buffer, int, int64) bool                     = (*buffer.Buffer).Put
	_ func(*buffer.Buffer) (api.Cell, bool)                     = (*buffer.Buffer).Take
	_ func(*buffer.Buffer, int) (int64, bool)                   = (*buffer.Buffer).Find
	_ func(*buffer.Buffer) int                                  = (*buffer.Buffer).Len
	_ func(*buffer.Buffer) []api.Cell                           = (*buffer.Buffer).All
	_ func(api.Image) api.Errno                                 = tso.Check
	_ func(api.Image) (*tso.Machine, api.Errno)                 = tso.New
	_ func(*tso.Machine, int) bool                              = (*tso.Machine).Step
	_ func(*tso.Machine, int) bool                              = (*tso.Machine).Flush
	_ func(*tso.Machine) []api.Seen                             = (*tso.Machine).Seen
	_ func(*tso.Machine) []api.Event                            = (*tso.Machine).Events
	_ func(*tso.Machine, int) (int64, bool)                     = (*tso.Machine).Word
	_ func(*tso.Machine, int) []api.Cell                        = (*tso.Machine).Waiting
	_ func(*tso.Machine, int, int) (int64, bool)                = (*tso.Machine).Register
	_ func(*tso.Machine, int) (int, bool)                       = (*tso.Machine).At
	_ func(*tso.Machine) *tso.Machine                           = (*tso.Machine).Copy
	_ func(api.Image, []api.Pick) (api.Trace, api.Errno)        = play.Run
	_ func([]api.Pick) (int, api.Errno)                         = play.Length
	_ func([]api.Pick, int) ([]api.Pick, []api.Pick, api.Errno) = play.Tail
	_ func(api.Image, int) ([][]api.Seen, api.Errno)            = litmus.Outcomes
	_ func(api.Image, int) ([][]api.Seen, api.Errno)            = litmus.Strict
	_ func(api.Image) (api.Image, api.Errno)                    = litmus.Fenced
)

// Calls of transactions, and of the whole: chapters 23 to 32.
var (
	_ func(int, []int) (api.Plan, api.Errno)                       = plan.Make
	_ func(api.Plan) int                                           = plan.Clock
	_ func(api.Plan, int) int                                      = plan.Lock
	_ func(int) int                                                = plan.Stripe
	_ func(int64) (bool, int, int64)                               = plan.Locked
	_ func(int, int, []api.TxOp) ([]api.Event, []int64, api.Errno) = tl2.Run
	_ func(api.Plan, int, [][]api.TxOp) ([]api.Op, api.Errno)      = barrier.Straight
	_ func(int, [][][]api.TxOp) (api.Image, api.Errno)             = barrier.Image
	_ func(api.Graph) (int, api.Errno)                             = gen.Frame
	_ func(api.Graph, api.Plan, int) ([]api.Op, api.Errno)         = gen.Thread
	_ func(api.Code) (api.Image, api.Plan, api.Errno)              = image.Link
	_ func(api.Image) (string, api.Errno)                          = image.Encode
	_ func(string) (api.Image, api.Errno)                          = image.Decode
	_ func([]api.Event) ([]api.Attempt, int, api.Errno)            = history.Of
	_ func([]api.Event, int) ([]int, api.Errno)                    = history.Locals
	_ func([]api.Attempt) ([]int, api.Errno)                       = serial.Order
	_ func([]api.Attempt) (int, api.Errno)                         = serial.Check
	_ func([]api.Attempt) ([]api.Cell, api.Errno)                  = serial.Words
	_ func([]api.Attempt) (int, api.Errno)                         = opaque.Check
	_ func([]api.Attempt) (int, api.Errno)                         = opaque.Own
	_ func(string, bool) (api.Image, int, api.Errno)               = compile.Compile
	_ func(string) (api.Program, int, api.Errno)                   = compile.Tree
	_ func(api.Trace) ([]int, api.Errno)                           = compile.Replay
	_ func() *desk.Desk                                            = desk.New
	_ func(*desk.Desk, string) (string, api.Errno)                 = (*desk.Desk).Do
	_ func(string) (string, api.Errno)                             = desk.Run
)

func TestErrorsTellTheirNumbers(t *testing.T) {
	table := []api.Errno{
		api.OK, api.ErrArg, api.ErrNil, api.ErrLimit, api.ErrZero, api.ErrToken, api.ErrSyntax, api.ErrName, api.ErrTwice, api.ErrGone,
		api.ErrType, api.ErrEffect, api.ErrRing, api.ErrForm, api.ErrGraph, api.ErrEvent, api.ErrOrder, api.ErrStale, api.ErrLine,
	}
	for n, e := range table {
		if int(e) != n || e.Error() != "turnstile: "+word.Text(int64(n)) {
			t.Errorf("the error %d is %d, and tells %q", n, e, e.Error())
		}
	}
}
