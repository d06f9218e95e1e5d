package store

import "rushlight/api"

// object is an object. Of a dead one nothing is kept.
type object struct {
	content
	dead bool
}

// content is the bytes of an object.
type content struct {
	size     int
	chunks   [][]cell    // the bytes in order; chunks come to be when one of their bytes is initialized, so that large objects of which little is used need little room
	pointers map[int]Ptr // the stored pointers that are intact, by their offsets
}

// cell is a byte of an object, and whether it is initialized.
type cell struct {
	value byte
	set   bool
}

// chunkSize is how many bytes a chunk has; the last one of an object has what is left.
const chunkSize = 512

// at is the byte at an offset.
func (c *content) at(off int) cell {
	if c.chunks == nil || c.chunks[off/chunkSize] == nil {
		return cell{}
	}
	return c.chunks[off/chunkSize][off%chunkSize]
}

// set initializes the byte at an offset.
func (c *content) set(off int, value byte) {
	if c.chunks == nil {
		c.chunks = make([][]cell, (c.size+chunkSize-1)/chunkSize)
	}
	chunk := &c.chunks[off/chunkSize]
	if *chunk == nil {
		start := off - off%chunkSize
		*chunk = make([]cell, min(chunkSize, c.size-start))
	}
	(*chunk)[off%chunkSize] = cell{value, true}
}

// keep notes the pointer that was stored at an offset. A null pointer needs no note: it is what is read where there is none.
func (c *content) keep(off int, p Ptr) {
	if p == (Ptr{}) {
		return
	}
	if c.pointers == nil {
		c.pointers = map[int]Ptr{}
	}
	c.pointers[off] = p
}

// forget is called ahead of overwriting bytes: a stored pointer that has one of them is no longer intact.
func (c *content) forget(off, size int) {
	for k := off - wordSize + 1; k < off+size && len(c.pointers) > 0; k++ {
		delete(c.pointers, k)
	}
}

// find is the object with a number; ErrArg if there is no store, ErrNone if there is no such object, ErrDead if it is dead.
func (s *Store) find(obj int) (*object, api.Errno) {
	switch {
	case s == nil:
		return nil, api.ErrArg
	case obj < 1 || obj > len(s.objects):
		return nil, api.ErrNone
	case s.objects[obj-1].dead:
		return nil, api.ErrDead
	}
	return &s.objects[obj-1], api.OK
}

// living is the object with a number, where a dead one counts as none.
func (s *Store) living(obj int) (*object, api.Errno) {
	o, e := s.find(obj)
	if e == api.ErrDead {
		e = api.ErrNone
	}
	return o, e
}

// pointee is the object that a pointer points to, or the error of the pointer's validity.
func (s *Store) pointee(p Ptr) (*object, api.Errno) {
	if s != nil && p.Obj == 0 {
		return nil, api.ErrNil
	}
	return s.find(p.Obj)
}

// reach is the object that a pointer points to, if so many bytes from there are within it and within what the pointer covers.
func (s *Store) reach(p Ptr, size int) (*object, api.Errno) {
	o, e := s.pointee(p)
	if e != api.OK {
		return nil, e
	}
	inObject := p.Off >= 0 && p.Off <= o.size-size
	if !inObject || p.Off < p.Lo || p.Off+size > p.Hi {
		return nil, api.ErrBound
	}
	return o, api.OK
}
