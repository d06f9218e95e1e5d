package kind

import (
	"slices"

	"rushlight/api"
)

// checkFields is the first error of a struct's fields. One that comes first is looked for in all fields ahead of the next.
func (t *Table) checkFields(fields []api.Field) api.Errno {
	switch {
	case len(fields) == 0 || slices.ContainsFunc(fields, isNameless):
		return api.ErrArg
	case slices.ContainsFunc(fields, t.isTypeless):
		return api.ErrNone
	case slices.ContainsFunc(fields, t.isSizeless):
		return api.ErrType
	case repeats(fields):
		return api.ErrTwice
	}
	return api.OK
}

// isNameless reports whether a field has no name.
func isNameless(f api.Field) bool { return f.Name == "" }

// isTypeless reports whether there is no such type as a field's.
func (t *Table) isTypeless(f api.Field) bool {
	_, e := t.entry(f.Type)
	return e != api.OK
}

// isSizeless reports whether a field's type has no size.
func (t *Table) isSizeless(f api.Field) bool { return t.Size(f.Type) == 0 }

// repeats reports whether two fields have the same name.
func repeats(fields []api.Field) bool {
	names := map[string]struct{}{}
	for _, f := range fields {
		names[f.Name] = struct{}{}
	}
	return len(names) < len(fields)
}

// lay is the struct of a name with its fields placed.
func (t *Table) lay(name string, fields []api.Field) entry {
	x := entry{Type: api.Type{Kind: api.TypeStruct, Name: name}}
	place := placer()
	for _, f := range fields {
		part, _ := t.entry(f.Type)
		f.At = place(part.size, part.align)
		x.Fields = append(x.Fields, f)
		x.align = max(x.align, part.align)
	}
	x.size = place(0, x.align) // what would stand behind the fields begins where the struct ends
	return x
}

// placer is a function that places one part behind the other: it is the offset of a part with a size and an alignment above 0.
func placer() func(size, align int) int {
	next := 0
	return func(size, align int) int {
		at := (next + align - 1) / align * align
		next = at + size
		return at
	}
}
