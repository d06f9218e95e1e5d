// Package faces_test holds the calls, types and constants of all layers against their chapters.
package faces_test

import (
	"iter"
	"testing"

	"rushlight/alias"
	"rushlight/alloc"
	"rushlight/api"
	"rushlight/asm"
	"rushlight/bound"
	"rushlight/check"
	"rushlight/compile"
	"rushlight/dead"
	"rushlight/device"
	"rushlight/flow"
	"rushlight/fold"
	"rushlight/frame"
	"rushlight/gen"
	"rushlight/hazard"
	"rushlight/image"
	"rushlight/inline"
	"rushlight/inst"
	"rushlight/interp"
	"rushlight/ir"
	"rushlight/irrun"
	"rushlight/kind"
	"rushlight/lex"
	"rushlight/listing"
	"rushlight/lower"
	"rushlight/pack"
	"rushlight/play"
	"rushlight/power"
	"rushlight/record"
	"rushlight/region"
	"rushlight/rts"
	"rushlight/shape"
	"rushlight/store"
	"rushlight/tree"
	"rushlight/wear"
	"rushlight/word"
)

// The calls that the chapters list: what does not have these types does not compile.
var (
	_ func(a, b uint32) uint32          = word.Add
	_ func(a, b uint32) uint32          = word.Sub
	_ func(a, b uint32) uint32          = word.Mul
	_ func(a, b uint32) uint32          = word.High
	_ func(a, b uint32) uint32          = word.HighU
	_ func(a, b uint32) uint32          = word.HighSU
	_ func(a, b uint32) uint32          = word.Div
	_ func(a, b uint32) uint32          = word.DivU
	_ func(a, b uint32) uint32          = word.Rem
	_ func(a, b uint32) uint32          = word.RemU
	_ func(a, b uint32) uint32          = word.Left
	_ func(a, b uint32) uint32          = word.Right
	_ func(a, b uint32) uint32          = word.RightS
	_ func(a, b uint32) uint32          = word.Less
	_ func(a, b uint32) uint32          = word.LessU
	_ func(a uint32, bits int) uint32   = word.Sign
	_ func(a uint32) (high, low uint32) = word.Parts
	_ func(high, low uint32) uint32     = word.Whole

	_ func(i api.Inst) bool                = inst.Right
	_ func(i api.Inst) (uint32, api.Errno) = inst.Encode
	_ func(w uint32) (api.Inst, api.Errno) = inst.Decode
	_ func(op int) string                  = inst.Name
	_ func(op int) byte                    = inst.Form

	_ func(code []uint32, data []byte, inputs []uint32) (*device.Machine, api.Errno) = device.New

	_ func(l []api.Record) []api.Record       = record.First
	_ func(l []api.Record) bool               = record.Orderly
	_ func(l []api.Record) int                = record.Replays
	_ func(l []api.Record) []uint32           = record.Values
	_ func(l []api.Record, out []uint32) bool = record.Begins
	_ func(l []api.Record, out []uint32) bool = record.Whole

	_ func(x api.Item) bool                           = asm.Right
	_ func(rd int, n uint32) api.Item                 = asm.Const
	_ func(op, rd, rs1, rs2, imm int) api.Item        = asm.Inst
	_ func(n int) api.Item                            = asm.Label
	_ func(op, rs1, rs2, label int) api.Item          = asm.Branch
	_ func(rd, label int) api.Item                    = asm.Jump
	_ func(l []api.Item) ([]uint32, []int, api.Errno) = asm.Assemble
	_ func(op int) int                                = asm.Contrary

	_ func(i api.Inst) (string, api.Errno) = listing.Line
	_ func(s string) (api.Inst, api.Errno) = listing.Read
	_ func(l []uint32) (string, api.Errno) = listing.Text
	_ func(s string) ([]uint32, api.Errno) = listing.Words

	_ func(s string) ([]api.Token, api.Pos, api.Errno) = lex.Lex
	_ func(s string) bool                              = lex.Word
	_ func(s string) bool                              = lex.Name
	_ func(l []api.Token) string                       = lex.Text

	_ func() *kind.Table = kind.New

	_ func(s string) (api.Program, api.Pos, api.Errno) = tree.Read
	_ func(p api.Program) string                       = tree.Print
	_ func(p api.Program) api.Program                  = tree.Plain

	_ func(p api.Program) (api.Unit, api.Pos, api.Errno) = check.Check
	_ func(t api.Term) (uint32, api.Errno)               = check.Fold
	_ func(fn int, a, b uint32) (uint32, api.Errno)      = check.Apply

	_ func() *store.Store = store.New

	_ func(u api.Unit, inputs []uint32, fuel int) api.Outcome = interp.Run

	_ func(m api.Module) api.Errno        = ir.Check
	_ func(m api.Module, n int) api.Errno = ir.Proc
	_ func(i api.Ins) int                 = ir.Def
	_ func(i api.Ins) []int               = ir.Uses
	_ func(i api.Ins) bool                = ir.Pure
	_ func(b api.Block) []int             = ir.Outs
	_ func(p api.Proc) int                = ir.Size
	_ func(p api.Proc) string             = ir.Text

	_ func(m api.Module, inputs []uint32, fuel int) api.Outcome = irrun.Run
	_ func(fn int, a, b uint32) uint32                          = irrun.Fn
	_ func(l []api.Slot) ([]int, int)                           = irrun.Place

	_ func(u api.Unit) (api.Module, api.Errno) = lower.Lower
	_ func(c api.Code) []bool                  = lower.Plain

	_ func(p api.Proc) [][]int                                     = flow.Preds
	_ func(p api.Proc) []bool                                      = flow.Reach
	_ func(p api.Proc) []int                                       = flow.Order
	_ func(p api.Proc) [][2]int                                    = flow.Back
	_ func(p api.Proc) (in, out [][]bool)                          = flow.Live
	_ func(p api.Proc, n int, out []bool) iter.Seq2[int, flow.Row] = flow.Each

	_ func(p api.Proc) []map[int]uint32 = fold.Consts
	_ func(p api.Proc) api.Proc         = fold.Known
	_ func(p api.Proc) api.Proc         = fold.Values
	_ func(p api.Proc) api.Proc         = fold.Fold

	_ func(p api.Proc) [][]int  = dead.Idle
	_ func(p api.Proc) api.Proc = dead.Drop
	_ func(p api.Proc) [][]int  = dead.Stores
	_ func(p api.Proc) api.Proc = dead.Dead

	_ func(p api.Proc) api.Proc = shape.Thread
	_ func(p api.Proc) api.Proc = shape.Merge
	_ func(p api.Proc) api.Proc = shape.Prune
	_ func(p api.Proc) api.Proc = shape.Tidy

	_ func(p api.Proc) bool              = inline.Small
	_ func(m api.Module, n int) api.Proc = inline.Inline
	_ func(m api.Module) api.Module      = inline.All

	_ func(m api.Module, n int) (*alias.View, api.Errno) = alias.New

	_ func(m api.Module, n int, spilled []bool) ([][]int, api.Errno) = hazard.Find
	_ func(i api.Ins, spilled []bool) bool                           = hazard.Writes

	_ func(p api.Proc) api.Proc                                                  = region.Base
	_ func(p api.Proc) (int, api.Errno)                                          = region.Most
	_ func(m api.Module, n int, spilled []bool, notes int) (api.Proc, api.Errno) = region.Plan
	_ func(p api.Proc) api.Proc                                                  = region.Bare
	_ func(m api.Module, n int, spilled []bool, notes int) bool                  = region.Valid

	_ func(p api.Proc, r int) (from, to int, is bool)         = alloc.Range
	_ func(p api.Proc, regs int) ([]api.Seat, int, api.Errno) = alloc.Assign
	_ func(l []api.Seat) []bool                               = alloc.Spilled
	_ func(l []api.Seat) []int                                = alloc.Given

	_ func(p api.Proc, seats []api.Seat, slots int) (api.Frame, api.Errno) = frame.Lay
	_ func(f api.Frame, n int) int                                         = frame.Slot
	_ func(f api.Frame, k int) int                                         = frame.Kept

	_ func(top uint32, main int) []api.Item = rts.Items
	_ func() []api.Item                     = rts.Mark
	_ func(reg int) []api.Item              = rts.Note
	_ func() []int                          = rts.Kept

	_ func(m api.Module, n int, seats []api.Seat, f api.Frame, first int) ([]api.Item, int) = gen.Proc
	_ func(n int) int                                                                       = gen.Label
	_ func(m api.Module) int                                                                = gen.Limit
	_ func(m api.Module, n int) uint32                                                      = gen.Global

	_ func(o api.Options) bool                                        = image.Right
	_ func(m api.Module, o api.Options) ([]image.Part, api.Errno)     = image.Parts
	_ func(m api.Module, o api.Options) (api.Image, api.Errno)        = image.Link
	_ func(g api.Image, inputs []uint32) (*device.Machine, api.Errno) = image.Load

	_ func(s string, o api.Options) (api.Module, api.Pos, api.Errno) = compile.Module
	_ func(m api.Module) api.Module                                  = compile.Better
	_ func(s string, o api.Options) (api.Image, api.Pos, api.Errno)  = compile.Compile

	_ func(g api.Image) (int, api.Errno) = bound.Region
	_ func(g api.Image) int              = bound.Boot
	_ func(g api.Image) (int, api.Errno) = bound.Bound

	_ func(g api.Image, inputs []uint32, fails []int, n int) (api.Play, api.Errno)              = play.Run
	_ func(g api.Image, inputs []uint32, first, gap, n int) (api.Play, api.Errno)               = play.Often
	_ func(s string, o api.Options, inputs []uint32, gap, n int) (api.Play, api.Pos, api.Errno) = play.Text
	_ func(p api.Play) api.Outcome                                                              = play.Told
	_ func(p api.Play, want api.Outcome) bool                                                   = play.Agrees

	_ func(g api.Image) ([]byte, api.Errno) = pack.Encode
	_ func(b []byte) (api.Image, api.Errno) = pack.Decode

	_ func(s power.Supply) bool                                                          = power.Right
	_ func(s power.Supply) bool                                                          = power.Steady
	_ func(s power.Supply, time int) ([]int, int, api.Errno)                             = power.Fails
	_ func(s power.Supply, g api.Image) bool                                             = power.Enough
	_ func(s power.Supply, g api.Image, inputs []uint32, time int) (api.Play, api.Errno) = power.Play

	_ func(g api.Image, at int) int                                                  = wear.Part
	_ func(g api.Image, inputs []uint32, fails []int, n int) (wear.Tally, api.Errno) = wear.Count
	_ func(a, b wear.Tally) wear.Tally                                               = wear.Add
	_ func(t wear.Tally, k int) []int                                                = wear.Hot
)

// The methods that the chapters list.
var (
	_ interface {
		Step() int
		Fail()
		Run(n int, fails []int) int
		State() int
		Exit() uint32
		Steps() int
		Pc() uint32
		Reg(i int) uint32
		Log() []api.Record
		Data() []byte
	} = (*device.Machine)(nil)
	_ interface {
		Type(n int) (api.Type, api.Errno)
		Count() int
		Ptr(n int) (int, api.Errno)
		Array(n, long int) (int, api.Errno)
		Struct(name string, fields []api.Field) (int, api.Errno)
		Open(name string) (int, api.Errno)
		Find(name string) (int, api.Errno)
		Size(n int) int
		Align(n int) int
		Field(n int, name string) (api.Field, api.Errno)
		Scalar(n int) bool
	} = (*kind.Table)(nil)
	_ interface {
		Make(size int) (store.Ptr, api.Errno)
		Fill(obj int, data []byte) api.Errno
		Unset(obj int) api.Errno
		Drop(obj int) api.Errno
		Load(p store.Ptr, size int, ptr bool) (store.Value, api.Errno)
		Put(p store.Ptr, size int, v store.Value) api.Errno
		Move(p store.Ptr, by int64) (store.Ptr, api.Errno)
		Part(p store.Ptr, at, size int) (store.Ptr, api.Errno)
		Count() int
	} = (*store.Store)(nil)
	_ interface {
		Things(r int) []int
		Out() []int
		Exact(r int) (thing, off int, is bool)
		Meet(a, b api.Ins) bool
	} = (*alias.View)(nil)
)

// The types that the chapters list, with their fields in order.
var (
	_ = store.Ptr(struct{ Obj, Lo, Hi, Off int }{})
	_ = store.Value(struct {
		Num uint32
		Ptr store.Ptr
		Is  bool
	}{})
	_ = flow.Row([]bool{})
	_ = image.Part(struct {
		Seats []api.Seat
		Slots int
		Plan  api.Proc
		Frame api.Frame
	}{})
	_ = power.Supply(struct {
		Ticks    []int
		Room, On int
	}{})
	_ = wear.Tally(struct {
		Part               [7]int
		Words              []int
		Most, Steps, Fails int
	}{})
)

func TestConstants(t *testing.T) {
	for _, x := range []struct {
		name      string
		got, want int
	}{
		{"device.MaxCode", device.MaxCode, 32768},
		{"device.MaxData", device.MaxData, 65536},
		{"asm.MaxItems", asm.MaxItems, 32768},
		{"asm.MaxLabels", asm.MaxLabels, 4096},
		{"listing.MaxLines", listing.MaxLines, 40000},
		{"kind.Void", kind.Void, 0},
		{"kind.Int", kind.Int, 1},
		{"kind.Char", kind.Char, 2},
		{"kind.MaxSize", kind.MaxSize, 32768},
		{"kind.MaxTypes", kind.MaxTypes, 400},
		{"tree.MaxDepth", tree.MaxDepth, 200},
		{"check.MaxNames", check.MaxNames, 200},
		{"check.MaxParams", check.MaxParams, 6},
		{"interp.MaxFuel", interp.MaxFuel, 10000000},
		{"ir.MaxRegs", ir.MaxRegs, 8000},
		{"ir.MaxBlocks", ir.MaxBlocks, 4000},
		{"ir.MaxIns", ir.MaxIns, 20000},
		{"irrun.MemSize", irrun.MemSize, 65536},
		{"irrun.MaxFuel", irrun.MaxFuel, 10000000},
		{"irrun.MaxDeep", irrun.MaxDeep, 5000},
		{"inline.MaxSmall", inline.MaxSmall, 24},
		{"inline.MaxSize", inline.MaxSize, 2000},
		{"region.MaxNotes", region.MaxNotes, 64},
		{"alloc.MaxRegs", alloc.MaxRegs, 12},
		{"frame.MaxFrame", frame.MaxFrame, 2000},
		{"rts.Selector", rts.Selector, api.Base},
		{"rts.Seq", rts.Seq, api.Base + 4},
		{"rts.Index", rts.Index, api.Base + 8},
		{"rts.Keeps", rts.Keeps, api.Base + 128},
		{"rts.Log", rts.Log, api.Base + 384},
		{"rts.MaxNotes", rts.MaxNotes, 64},
		{"rts.Globals", rts.Globals, api.Base + 1152},
		{"rts.FullCode", rts.FullCode, 256},
		{"rts.BootLabel", rts.BootLabel, 0},
		{"rts.MarkLabel", rts.MarkLabel, 1},
		{"rts.StartLabel", rts.StartLabel, 2},
		{"rts.FullLabel", rts.FullLabel, 3},
		{"rts.FirstLabel", rts.FirstLabel, 16},
		{"play.MaxSteps", play.MaxSteps, 20000000},
		{"pack.MaxBytes", pack.MaxBytes, 262144},
		{"power.MaxTicks", power.MaxTicks, 4096},
		{"power.MaxTime", power.MaxTime, 4000000},
		{"wear.Parts", wear.Parts, 7},
	} {
		if x.got != x.want {
			t.Errorf("%s: %d, not %d", x.name, x.got, x.want)
		}
	}
}

func TestErrorNames(t *testing.T) {
	names := []string{"ok", "arg", "long", "form", "none", "type", "twice", "range", "full", "rule", "fault", "zero", "bound", "unset", "nil", "dead", "fuel"}
	for n, want := range names {
		if got := api.Errno(n).Error(); got != want {
			t.Errorf("Errno %d: %q, not %q", n, got, want)
		}
	}
	for _, n := range []api.Errno{-1, api.Errno(len(names)), 1 << 31} {
		if got := n.Error(); got != "unknown" {
			t.Errorf("Errno %d: %q", int(n), got)
		}
	}
}
