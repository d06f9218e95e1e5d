package play

import (
	"slices"

	"rushlight/api"
	"rushlight/record"
	"rushlight/rts"
)

// Told is the outcome of a play.
func Told(p api.Play) api.Outcome {
	o := api.Outcome{Out: record.Values(p.Log), E: ending(p)}
	if o.E == api.OK {
		o.Exit = p.Exit
	}
	return o
}

// ending is how a play ended.
func ending(p api.Play) api.Errno {
	switch {
	case !record.Orderly(p.Log):
		return api.ErrFault
	case p.State == api.Running:
		return api.ErrFuel
	case p.State == api.Halted && p.Exit < rts.FullCode:
		return api.OK
	case p.State == api.Halted && p.Exit == rts.FullCode:
		return api.ErrFull
	}
	return api.ErrFault
}

// Agrees reports whether a play is what the outcome of a run of the program allows.
func Agrees(p api.Play, want api.Outcome) bool {
	if want.E != api.OK && want.E != api.ErrFuel {
		return true // something undefined was done
	}
	got := Told(p)
	short := got.E == api.ErrFull || got.E == api.ErrFuel
	switch {
	case got.E == api.ErrFault:
		return false
	case want.E == api.ErrFuel:
		return begins(want.Out, got.Out) || short && begins(got.Out, want.Out)
	case short:
		return begins(got.Out, want.Out)
	}
	return slices.Equal(got.Out, want.Out) && got.Exit == want.Exit
}

// begins reports whether one list is a prefix of another one.
func begins(first, all []uint32) bool {
	return len(first) <= len(all) && slices.Equal(first, all[:len(first)])
}
