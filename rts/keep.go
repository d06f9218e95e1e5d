package rts

import (
	"rushlight/api"
	"rushlight/asm"
	"rushlight/ops"
)

// keepBits is the binary logarithm of the size of a checkpoint.
const keepBits = 7

// keep is where marks lead: it makes a checkpoint and goes back. Until the store of the epoch the other checkpoint is valid, and so are the notes.
func keep() []api.Item {
	return joined(
		[]api.Item{asm.Label(MarkLabel), ops.Add(ops.Epoch, ops.Epoch, 1)},
		selected(),
		each(ops.Store),
		[]api.Item{asm.Const(ops.T2, Selector), ops.Store(ops.Epoch, ops.T2, 0)},
		noNotes(),
		[]api.Item{ops.Back(ops.T0)},
	)
}

// resume goes on where the valid checkpoint was made.
func resume() []api.Item {
	return joined([]api.Item{asm.Label(resumeLabel)}, selected(), each(ops.Load), []api.Item{ops.Back(ops.T0)})
}

// selected sets T1 to where the checkpoint of the epoch is.
func selected() []api.Item {
	return []api.Item{
		asm.Const(ops.T1, Keeps),
		ops.Two(api.OpAndi, ops.T2, ops.Epoch, 1),
		ops.Two(api.OpSlli, ops.T2, ops.T2, keepBits),
		ops.Three(api.OpAdd, ops.T1, ops.T1, ops.T2),
	}
}

// each accesses all words of the checkpoint in T1: the preserved registers, and where the mark was made.
func each(access func(r, base, off int) api.Item) []api.Item {
	var l []api.Item
	for k, r := range append(Kept(), ops.T0) {
		l = append(l, access(r, ops.T1, k*ops.Word))
	}
	return l
}

// noNotes makes the next note the first one.
func noNotes() []api.Item { return []api.Item{asm.Const(ops.Notes, Log)} }
