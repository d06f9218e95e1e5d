// Package procs is no layer: it copies and compares procedures for the layers that make new ones of them.
package procs

import (
	"slices"

	"rushlight/api"
)

// Clone is a procedure that shares nothing with the given one, so that it may be changed.
func Clone(p api.Proc) api.Proc {
	p.Objects = slices.Clone(p.Objects)
	p.Blocks = slices.Clone(p.Blocks)
	for n := range p.Blocks {
		b := &p.Blocks[n]
		b.Ins = slices.Clone(b.Ins)
		for k := range b.Ins {
			b.Ins[k].Args = slices.Clone(b.Ins[k].Args)
		}
	}
	return p
}

// Equal reports whether two procedures are the same in all their fields.
func Equal(a, b api.Proc) bool {
	return a.Name == b.Name && a.Void == b.Void && a.Params == b.Params && a.Regs == b.Regs &&
		slices.Equal(a.Objects, b.Objects) && slices.EqualFunc(a.Blocks, b.Blocks, equalBlocks)
}

// equalBlocks reports whether two blocks are the same.
func equalBlocks(a, b api.Block) bool {
	return a.End == b.End && a.A == b.A && a.To == b.To && a.Else == b.Else && slices.EqualFunc(a.Ins, b.Ins, equalIns)
}

// equalIns reports whether two instructions are the same.
func equalIns(a, b api.Ins) bool {
	return a.Op == b.Op && a.D == b.D && a.A == b.A && a.B == b.B && a.Fn == b.Fn && a.Obj == b.Obj &&
		a.Off == b.Off && a.Size == b.Size && a.Num == b.Num && a.Log == b.Log && slices.Equal(a.Args, b.Args)
}
