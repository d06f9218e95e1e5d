package image

import (
	"rushlight/api"
	"rushlight/asm"
	"rushlight/device"
	"rushlight/gen"
	"rushlight/rts"
)

// minStack is how many bytes of the data the globals must leave at least.
const minStack = 1024

// failure is an error of linking, thrown from where it is found to Link.
type failure struct{ e api.Errno }

// require throws an error, unless something holds.
func require(holds bool, e api.Errno) {
	if !holds {
		panic(failure{e})
	}
}

// Link is the image of a module.
func Link(m api.Module, o api.Options) (g api.Image, e api.Errno) {
	defer func() {
		thrown := recover()
		if thrown == nil {
			return
		}
		f, known := thrown.(failure)
		if !known {
			panic(thrown) // no error of linking: a fault of the linker is not to look like one
		}
		g, e = api.Image{}, f.e
	}()
	return link(m, o), api.OK
}

// link is the image of a module, or throws. What takes long comes last.
func link(m api.Module, o api.Options) api.Image {
	e := accepted(m, o)
	require(e == api.OK, e)
	require(labels(m) <= asm.MaxLabels, api.ErrLong)
	limit := gen.Limit(m)
	require(limit-api.Base <= o.Data-minStack, api.ErrLong)
	parts, e := Parts(m, o)
	require(e == api.OK, e)
	words, _, e := asm.Assemble(items(m, o, parts))
	require(e == api.OK && len(words) <= device.MaxCode, api.ErrLong)
	return api.Image{Code: words, Data: data(m, o.Data), Limit: limit, Notes: o.Notes}
}

// firstBlock is the label of the first block of a module's procedures: it follows those of the procedures.
func firstBlock(m api.Module) int { return gen.Label(len(m.Procs)) }

// labels is how many labels there are, of the runtime and of a module.
func labels(m api.Module) int {
	n := firstBlock(m)
	for _, p := range m.Procs {
		n += len(p.Blocks)
	}
	return n
}

// items is the runtime and the code of all procedures; too much of it is found before all of it is there.
func items(m api.Module, o api.Options, parts []Part) []api.Item {
	planned := m
	planned.Procs = nil
	for _, p := range parts {
		planned.Procs = append(planned.Procs, p.Plan)
	}
	l := rts.Items(uint32(api.Base+o.Data), gen.Label(m.Main))
	next := firstBlock(m)
	for n, p := range parts {
		var code []api.Item
		code, next = gen.Proc(planned, n, p.Seats, p.Frame, next)
		l = append(l, code...)
		require(len(l) <= asm.MaxItems, api.ErrLong)
	}
	return l
}

// data is so many bytes, 0 except for those of the globals.
func data(m api.Module, size int) []byte {
	l := make([]byte, size)
	for n, d := range m.Data {
		copy(l[gen.Global(m, n)-api.Base:], d)
	}
	return l
}
