package wear

import (
	"rushlight/api"
	"rushlight/rts"
)

// The parts of the data.
const (
	epoch = iota
	numbers
	checkpoints
	notes
	globals
	stack
	other
)

// Part is the part to which an offset belongs.
func Part(g api.Image, at int) int {
	if at < 0 || at >= len(g.Data) {
		return other
	}
	// Where each part ends. What lies between the numbers and the checkpoints is used for nothing.
	for _, p := range [Parts]struct{ part, end int }{
		{epoch, rts.Seq}, {numbers, rts.Index + wordSize}, {other, rts.Keeps}, {checkpoints, rts.Log}, {notes, rts.Globals}, {globals, g.Limit},
		{stack, api.Base + len(g.Data)},
	} {
		if api.Base+at < p.end {
			return p.part
		}
	}
	return other
}
