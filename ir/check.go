package ir

import (
	"slices"

	"rushlight/api"
)

// The bounds of modules for which package api and the chapter have no names.
const (
	maxProcs   = 200
	maxGlobals = 200
	maxObjects = 400
	maxParams  = 6
	maxSize    = 32768 // of a global or an object
	maxOff     = 32768
)

// Check is api.ErrForm if a module is not valid.
func Check(m api.Module) api.Errno {
	if !outlineFits(m) {
		return api.ErrForm
	}
	for n := range m.Procs {
		if e := Proc(m, n); e != api.OK {
			return e
		}
	}
	return api.OK
}

// outlineFits reports whether a module is valid but for its procedures, of which only main is looked at.
func outlineFits(m api.Module) bool {
	return len(m.Data) == len(m.Globals) && len(m.Globals) <= maxGlobals &&
		within(len(m.Procs), 1, maxProcs) && isIndex(m.Main, len(m.Procs)) &&
		m.Procs[m.Main].Params == 0 && !m.Procs[m.Main].Void &&
		slotsFit(m.Globals) && dataFits(m)
}

// dataFits reports whether each global has as many bytes of data as it is long.
func dataFits(m api.Module) bool {
	for n, d := range m.Data {
		if len(d) != m.Globals[n].Size {
			return false
		}
	}
	return true
}

// slotsFit reports whether globals or objects have sizes and alignments that may be.
func slotsFit(l []api.Slot) bool {
	return !slices.ContainsFunc(l, func(s api.Slot) bool {
		return !within(s.Size, 1, maxSize) || s.Align != 1 && s.Align != 4
	})
}

// Proc is api.ErrNone if there is no procedure n, and api.ErrForm if it is not valid.
func Proc(m api.Module, n int) api.Errno {
	if !isIndex(n, len(m.Procs)) {
		return api.ErrNone
	}
	v := view{module: m, proc: m.Procs[n]}
	if !v.outlineFits() || slices.ContainsFunc(v.proc.Blocks, func(b api.Block) bool { return !v.blockFits(b) }) {
		return api.ErrForm
	}
	return api.OK
}

// view is a procedure, with the module in which it stands.
type view struct {
	module api.Module
	proc   api.Proc
}

// outlineFits reports whether the procedure is valid but for its blocks.
func (v view) outlineFits() bool {
	p := v.proc
	return within(p.Params, 0, maxParams) && within(p.Regs, p.Params, MaxRegs) &&
		len(p.Objects) <= maxObjects && slotsFit(p.Objects) &&
		within(len(p.Blocks), 1, MaxBlocks) && instructions(p) <= MaxIns
}

// blockFits reports whether a block is valid.
func (v view) blockFits(b api.Block) bool {
	return v.endFits(b) && !slices.ContainsFunc(b.Ins, func(i api.Ins) bool { return !v.insFits(i) })
}

// endFits reports whether the end of a block is valid: what it does not use is 0 as well, and its register api.None.
func (v view) endFits(b api.Block) bool {
	switch b.End {
	case api.EndJump:
		return v.registerFits(b.A, false) && v.isBlock(b.To) && b.Else == 0
	case api.EndBranch:
		return v.registerFits(b.A, true) && v.isBlock(b.To) && v.isBlock(b.Else)
	case api.EndRet:
		return v.registerFits(b.A, !v.proc.Void) && b.To == 0 && b.Else == 0
	}
	return false
}

// insFits reports whether an instruction is valid.
func (v view) insFits(i api.Ins) bool {
	f := fieldsOf(i.Op)
	if !f.known || f.obj && !isIndex(i.Obj, v.objects(i.Op)) {
		return false
	}
	return v.registerFits(i.D, f.d && !v.callsVoid(i)) && v.registerFits(i.A, f.a) && v.registerFits(i.B, f.b) &&
		v.argsFit(i, f.args) && (!i.Log || f.storeLog || Def(i) != api.None) &&
		fnFits(i.Op, i.Fn) && (f.obj || i.Obj == 0) && (f.num || i.Num == 0) &&
		(f.off && within(i.Off, -maxOff, maxOff) || i.Off == 0) &&
		(f.size && (i.Size == 1 || i.Size == 4) || !f.size && i.Size == 0)
}

// objects is how many there are of what Obj numbers in an operation.
func (v view) objects(op int) int {
	switch op {
	case api.IrFrame:
		return len(v.proc.Objects)
	case api.IrGlobal:
		return len(v.module.Globals)
	}
	return len(v.module.Procs)
}

// callsVoid reports whether an instruction is a call that has no result. What it calls is there.
func (v view) callsVoid(i api.Ins) bool {
	return i.Op == api.IrCall && v.module.Procs[i.Obj].Void
}

// argsFit reports whether an instruction has the arguments that it must have. What it calls is there.
func (v view) argsFit(i api.Ins, used bool) bool {
	if !used {
		return len(i.Args) == 0
	}
	return len(i.Args) == v.module.Procs[i.Obj].Params && !slices.ContainsFunc(i.Args, func(r int) bool { return !v.isRegister(r) })
}

// fnFits reports whether a function may stand in an instruction of an operation.
func fnFits(op, fn int) bool {
	switch op {
	case api.IrBin:
		return within(fn, api.FnAdd, api.FnGe)
	case api.IrUn:
		return within(fn, api.FnNeg, api.FnZero)
	}
	return fn == 0
}

// registerFits reports whether a number may stand in a register's field, used or not.
func (v view) registerFits(r int, used bool) bool {
	if !used {
		return r == api.None
	}
	return v.isRegister(r)
}

// isRegister reports whether the procedure has a register.
func (v view) isRegister(r int) bool { return isIndex(r, v.proc.Regs) }

// isBlock reports whether the procedure has a block.
func (v view) isBlock(n int) bool { return isIndex(n, len(v.proc.Blocks)) }

// isIndex reports whether n is a number of one of so many things.
func isIndex(n, count int) bool { return n >= 0 && n < count }

// within reports whether n is from least to most.
func within(n, least, most int) bool { return n >= least && n <= most }
