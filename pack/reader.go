package pack

import "rushlight/api"

// malformed is thrown where bytes are not the encoding of an image.
type malformed struct{}

// require throws, unless something holds.
func require(holds bool) {
	if !holds {
		panic(malformed{})
	}
}

// reader is bytes that have not been consumed yet.
type reader []byte

// take consumes so many bytes.
func (r *reader) take(n int) []byte {
	require(n <= len(*r))
	b := (*r)[:n]
	*r = (*r)[n:]
	return b
}

// word consumes a number.
func (r *reader) word() uint32 {
	b := r.take(4)
	return uint32(b[0]) | uint32(b[1])<<8 | uint32(b[2])<<16 | uint32(b[3])<<24
}

// number consumes a number that may not be greater than most.
func (r *reader) number(most int) int {
	n := r.word()
	require(uint64(n) <= uint64(most))
	return int(n)
}

// image consumes an image.
func (r *reader) image() api.Image {
	require(string(r.take(len(head))) == head)
	words, size := r.number(maxCode), r.number(maxData)
	g := api.Image{Limit: api.Base + r.number(maxData), Notes: r.number(maxNotes)}
	for range words {
		g.Code = append(g.Code, r.word())
	}
	for len(g.Data) < size {
		g.Data = append(g.Data, r.run()...)
	}
	return g
}

// run consumes a run.
func (r *reader) run() []byte {
	n := int(r.take(1)[0])
	require(n > 0)
	if n > maxOthers {
		return make([]byte, n-maxOthers)
	}
	return r.take(n)
}
