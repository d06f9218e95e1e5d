package rts

import (
	"rushlight/api"
	"rushlight/asm"
	"rushlight/ops"
)

// begin is the first code: it leads to the start of the program in the epoch 0.
func begin() []api.Item {
	return []api.Item{
		asm.Label(BootLabel),
		asm.Const(ops.T0, Selector),
		ops.Load(ops.Epoch, ops.T0, 0),
		asm.Branch(api.OpBeq, ops.Epoch, ops.Zero, StartLabel),
	}
}

// find sets T0 to the end of the notes of the epoch. There may be some behind those that were made last: when a region is executed again it makes
// the same notes again, and may have come less far.
func find() []api.Item {
	return []api.Item{
		asm.Const(ops.T0, Log),
		asm.Const(ops.T1, Globals),
		asm.Label(findLabel),
		asm.Branch(api.OpBeq, ops.T0, ops.T1, undoLabel),
		ops.Load(ops.T2, ops.T0, noteEpoch),
		asm.Branch(api.OpBne, ops.T2, ops.Epoch, undoLabel),
		ops.Add(ops.T0, ops.T0, noteSize),
		ops.Goto(findLabel),
	}
}

// undo writes the notes back, the last one first: of several of one word, the first one has what was there at the mark.
func undo() []api.Item {
	return joined([]api.Item{asm.Label(undoLabel)}, noNotes(), []api.Item{
		asm.Label(backLabel),
		asm.Branch(api.OpBeq, ops.T0, ops.Notes, resumeLabel),
		ops.Add(ops.T0, ops.T0, -noteSize),
		ops.Load(ops.T1, ops.T0, noteAddress),
		ops.Load(ops.T2, ops.T0, noteWord),
		ops.Store(ops.T2, ops.T1, 0),
		ops.Goto(backLabel),
	})
}
