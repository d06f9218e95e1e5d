package pack_test

import (
	"bytes"
	"encoding/binary"
	"math"
	"reflect"
	"slices"
	"testing"

	"rushlight/api"
	"rushlight/compile"
	"rushlight/drawn"
	"rushlight/pack"
)

// with is an image with these data.
func with(data ...byte) api.Image {
	return api.Image{Code: []uint32{0x12345678}, Data: data, Limit: api.Base + 2, Notes: 7}
}

// encoded is the encoding of an image that Encode must accept.
func encoded(t *testing.T, g api.Image) []byte {
	t.Helper()
	b, e := pack.Encode(g)
	if e != api.OK {
		t.Fatalf("Encode: %v", e)
	}
	return b
}

// same reports whether two images are the same.
func same(a, b api.Image) bool {
	return slices.Equal(a.Code, b.Code) && bytes.Equal(a.Data, b.Data) && a.Limit == b.Limit && a.Notes == b.Notes
}

// runs is the data of an encoding of an image with one word of code.
func runs(b []byte) []byte { return b[4+4*4+4:] }

// Promise 32.1: an encoding, byte by byte.
func TestEncode(t *testing.T) {
	g := api.Image{Code: []uint32{0x00500093, 0xfedcba98}, Data: []byte{5, 0, 0, 0, 0, 9}, Limit: api.Base + 6, Notes: 64}
	want := []byte{'R', 'S', 'H', 1, 2, 0, 0, 0, 6, 0, 0, 0, 6, 0, 0, 0, 64, 0, 0, 0, 0x93, 0, 0x50, 0, 0x98, 0xba, 0xdc, 0xfe, 1, 5, 131, 1, 9}
	if b := encoded(t, g); !bytes.Equal(b, want) {
		t.Errorf("%v", b)
	}
	if got, e := pack.Decode(want); e != api.OK || !same(got, g) {
		t.Errorf("%v, %v", got, e)
	}
	large := api.Image{Code: make([]uint32, 0x1234), Data: make([]byte, 0xabcd), Limit: api.Base + 0x4321}
	b := encoded(t, large)
	if !bytes.Equal(b[:20], []byte{'R', 'S', 'H', 1, 0x34, 0x12, 0, 0, 0xcd, 0xab, 0, 0, 0x21, 0x43, 0, 0, 0, 0, 0, 0}) || len(b) != 20+4*0x1234+0xabcd/128+1 {
		t.Errorf("%v, %d bytes", b[:20], len(b))
	}
}

// of is so many bytes of one value.
func of(n int, b byte) []byte { return bytes.Repeat([]byte{b}, n) }

// join is lists joined to one.
func join(l ...[]byte) []byte { return slices.Concat(l...) }

// The examples of the chapter, and promise 32.1: the runs of data.
func TestRuns(t *testing.T) {
	for name, x := range map[string]struct{ data, want []byte }{
		"one, then four zeros":               {[]byte{5, 0, 0, 0, 0}, []byte{1, 5, 131}},
		"two zeros ahead of another":         {[]byte{0, 0, 7, 1}, []byte{4, 0, 0, 7, 1}},
		"one zero ahead of another":          {[]byte{0, 7, 1, 1}, []byte{4, 0, 7, 1, 1}},
		"three zeros ahead of another":       {[]byte{0, 0, 0, 1}, []byte{130, 1, 1}},
		"zeros alone":                        {[]byte{0, 0, 0, 0}, []byte{131}},
		"a zero at the end":                  {[]byte{1, 2, 3, 0}, []byte{3, 1, 2, 3, 128}},
		"two zeros at the end":               {[]byte{1, 2, 3, 0, 0}, []byte{3, 1, 2, 3, 129}},
		"three zeros at the end":             {[]byte{1, 2, 3, 0, 0, 0}, []byte{3, 1, 2, 3, 130}},
		"no zeros":                           {[]byte{1, 2, 3, 4}, []byte{4, 1, 2, 3, 4}},
		"two zeros amid others":              {[]byte{1, 0, 0, 2}, []byte{4, 1, 0, 0, 2}},
		"zeros amid others, twice":           {[]byte{1, 0, 0, 2, 0, 0, 0, 3, 0, 0}, []byte{4, 1, 0, 0, 2, 130, 1, 3, 129}},
		"127 others":                         {of(127, 9), join([]byte{127}, of(127, 9))},
		"128 others":                         {of(128, 9), join([]byte{127}, of(127, 9), []byte{1, 9})},
		"255 others":                         {of(255, 9), join([]byte{127}, of(127, 9), []byte{127}, of(127, 9), []byte{1, 9})},
		"127 others, and a zero at the end":  {join(of(127, 9), of(1, 0)), join([]byte{127}, of(127, 9), []byte{128})},
		"126 others, and two zeros amid":     {join(of(126, 9), of(2, 0), of(1, 9)), join([]byte{127}, of(126, 9), []byte{0, 2, 0, 9})},
		"126 others, and three zeros":        {join(of(126, 9), of(3, 0), of(1, 9)), join([]byte{126}, of(126, 9), []byte{130, 1, 9})},
		"125 others, two zeros at the end":   {join(of(125, 9), of(2, 0)), join([]byte{125}, of(125, 9), []byte{129})},
		"128 zeros":                          {of(128, 0), []byte{255}},
		"129 zeros":                          {of(129, 0), []byte{255, 128}},
		"130 zeros":                          {of(130, 0), []byte{255, 129}},
		"131 zeros":                          {of(131, 0), []byte{255, 130}},
		"257 zeros":                          {of(257, 0), []byte{255, 255, 128}},
		"128 zeros ahead of another":         {join(of(128, 0), of(1, 9)), []byte{255, 1, 9}},
		"129 zeros ahead of another":         {join(of(129, 0), of(1, 9)), []byte{255, 2, 0, 9}},
		"130 zeros ahead of another":         {join(of(130, 0), of(1, 9)), []byte{255, 3, 0, 0, 9}},
		"131 zeros ahead of another":         {join(of(131, 0), of(1, 9)), []byte{255, 130, 1, 9}},
		"130 zeros, another, zeros":          {join(of(130, 0), of(1, 9), of(5, 0)), []byte{255, 3, 0, 0, 9, 132}},
		"130 zeros, 125 others, and a third": {join(of(130, 0), of(125, 9), of(1, 8)), join([]byte{255, 127, 0, 0}, of(125, 9), []byte{1, 8})},
	} {
		b := encoded(t, with(x.data...))
		if !bytes.Equal(runs(b), x.want) {
			t.Errorf("%s: %v", name, runs(b))
		}
		if g, e := pack.Decode(b); e != api.OK || !same(g, with(x.data...)) {
			t.Errorf("%s: Decode: %v", name, e)
		}
	}
}

// Promise 32.1: which images can be encoded.
func TestEncodeErrors(t *testing.T) {
	for _, x := range []struct {
		code, data, limit, notes int
		want                     api.Errno
	}{
		{1, 4, 0, 0, api.OK}, {1, 4, 4, 64, api.OK}, {32768, 65536, 65536, 64, api.OK}, {1, 5, 5, 1, api.OK}, {1, 4097, 1, 1, api.OK},
		{0, 4, 0, 0, api.ErrArg}, {32769, 4, 0, 0, api.ErrArg}, {1, 3, 0, 0, api.ErrArg}, {1, 0, 0, 0, api.ErrArg}, {1, 65537, 0, 0, api.ErrArg},
		{1, 4, -1, 0, api.ErrArg}, {1, 4, 5, 0, api.ErrArg}, {1, 4, -api.Base, 0, api.ErrArg}, {1, 4, math.MaxInt - api.Base, 0, api.ErrArg}, {1, 4, math.MinInt, 0, api.ErrArg},
		{1, 4, 0, -1, api.ErrArg}, {1, 4, 0, 65, api.ErrArg}, {1, 4, 0, math.MaxInt, api.ErrArg}, {1, 4, 0, math.MinInt, api.ErrArg},
	} {
		g := api.Image{Code: make([]uint32, x.code), Data: make([]byte, x.data), Limit: api.Base + x.limit, Notes: x.notes}
		b, e := pack.Encode(g)
		if e != x.want || e != api.OK && len(b) > 0 {
			t.Errorf("%v: %v, %d bytes", x, e, len(b))
		}
		if e != api.OK {
			continue
		}
		if got, e := pack.Decode(b); e != api.OK || !same(got, g) {
			t.Errorf("%v: Decode: %v", x, e)
		}
	}
	if b, e := pack.Encode(api.Image{}); e != api.ErrArg || len(b) > 0 {
		t.Errorf("nothing: %v, %v", b, e)
	}
}

// numbers is bytes that begin as an encoding does, with these numbers.
func numbers(l ...uint32) []byte {
	b := []byte{'R', 'S', 'H', 1}
	for _, n := range l {
		b = binary.LittleEndian.AppendUint32(b, n)
	}
	return b
}

// Promise 32.1: what is not the encoding of an image, and what is too long.
func TestDecodeErrors(t *testing.T) {
	code, data := of(4, 1), []byte{4, 1, 2, 3, 4}
	if g, e := pack.Decode(join(numbers(1, 4, 4, 64), code, data)); e != api.OK || !same(g, api.Image{Code: []uint32{0x01010101}, Data: []byte{1, 2, 3, 4}, Limit: api.Base + 4, Notes: 64}) {
		t.Fatalf("%v, %v", g, e)
	}
	for name, b := range map[string][]byte{
		"nothing":                   nil,
		"one byte":                  {'R'},
		"the head alone":            {'R', 'S', 'H', 1},
		"another head":              join([]byte("RSH1"), numbers(1, 4, 4, 64)[4:], code, data),
		"another letter":            join([]byte{'r', 'S', 'H', 1}, numbers(1, 4, 4, 64)[4:], code, data),
		"another version":           join([]byte{'R', 'S', 'H', 2}, numbers(1, 4, 4, 64)[4:], code, data),
		"half a number":             numbers(1, 4, 4, 64)[:18],
		"no code":                   join(numbers(0, 4, 4, 64), data),
		"less code":                 join(numbers(2, 4, 4, 64), code),
		"code that ends in a word":  join(numbers(1, 4, 4, 64), code[:3]),
		"too much code":             join(numbers(32769, 4, 4, 64), of(4*32769, 1), data),
		"far too much code":         join(numbers(1<<32-1, 4, 4, 64), code, data),
		"no data":                   join(numbers(1, 0, 0, 64), code),
		"three bytes of data":       join(numbers(1, 3, 0, 64), code, []byte{3, 1, 2, 3}),
		"too much data":             join(numbers(1, 65537, 0, 64), code, of(512, 255), []byte{1, 7}),
		"far too much data":         join(numbers(1, 1<<32-1, 0, 64), code, of(600, 255)),
		"a limit behind the data":   join(numbers(1, 4, 5, 64), code, data),
		"a limit ahead of the data": join(numbers(1, 4, 1<<32-1, 64), code, data),
		"too many notes":            join(numbers(1, 4, 4, 65), code, data),
		"far too many notes":        join(numbers(1, 4, 4, 1<<31), code, data),
		"less data":                 join(numbers(1, 5, 4, 64), code, data),
		"more data":                 join(numbers(1, 4, 4, 64), code, []byte{5, 1, 2, 3, 4, 5}),
		"more zeros":                join(numbers(1, 4, 4, 64), code, []byte{132}),
		"a run that is cut off":     join(numbers(1, 4, 4, 64), code, []byte{4, 1, 2, 3}),
		"a run without bytes":       join(numbers(1, 4, 4, 64), code, []byte{0}, data),
		"a byte behind the end":     join(numbers(1, 4, 4, 64), code, data, []byte{0}),
		"a run behind the end":      join(numbers(1, 4, 4, 64), code, data, data),
		"two runs instead of one":   join(numbers(1, 4, 4, 64), code, []byte{2, 1, 2, 2, 3, 4}),
		"zeros as others":           join(numbers(1, 4, 4, 64), code, []byte{4, 0, 0, 0, 0}),
		"zeros as two runs":         join(numbers(1, 4, 4, 64), code, []byte{129, 129}),
		"two zeros as a run":        join(numbers(1, 4, 4, 64), code, []byte{129, 2, 1, 1}),
		"a zero at the end":         join(numbers(1, 4, 4, 64), code, []byte{4, 1, 1, 1, 0}),
		"zeros behind one":          join(numbers(1, 5, 4, 64), code, []byte{2, 1, 0, 130}),
	} {
		if g, e := pack.Decode(b); e != api.ErrForm || !reflect.DeepEqual(g, api.Image{}) {
			t.Errorf("%s: %v, %v", name, e, g)
		}
	}
	for n, want := range map[int]api.Errno{pack.MaxBytes: api.ErrForm, pack.MaxBytes + 1: api.ErrLong, 2 * pack.MaxBytes: api.ErrLong} {
		for _, b := range [][]byte{make([]byte, n), append(encoded(t, with(1, 2, 3, 4)), make([]byte, n)...)[:n]} {
			if g, e := pack.Decode(b); e != want || !reflect.DeepEqual(g, api.Image{}) {
				t.Errorf("%d bytes: %v", n, e)
			}
		}
	}
}

// drawnData is data with many zeros, some of them few in a row and some many.
func drawnData(d *drawn.Dice) []byte {
	var l []byte
	for range 1 + d.Roll(12) {
		l = append(l, of(1+d.Roll([]int{2, 5, 140, 300}[d.Roll(4)]), 0)...)
		for range 1 + d.Roll([]int{2, 5, 140, 300}[d.Roll(4)]) {
			l = append(l, byte(d.Roll(3)*d.Roll(128)))
		}
	}
	l = append(l, of(d.Roll(4), 0)...)
	return append(l, of(max(0, 4-len(l)), 1)...)
}

// isRuns reports whether bytes are the runs of data as the chapter words it.
func isRuns(b, data []byte) bool {
	tail := len(data) // where the zeros begin that extend to the end
	for tail > 0 && data[tail-1] == 0 {
		tail--
	}
	at, i := 0, 0
	for at < len(data) && i < len(b) {
		n := int(b[i])
		i++
		rest := data[at:]
		if n > 127 {
			n -= 127
			if n > len(rest) || !bytes.Equal(rest[:n], of(n, 0)) || n < 128 && n < len(rest) && rest[n] == 0 || n < 3 && n < len(rest) {
				return false
			}
		} else {
			end := min(127, len(rest)) // where the run must end
			if k := bytes.Index(rest, of(3, 0)); k >= 0 {
				end = min(end, k)
			}
			end = min(end, tail-at)
			if n == 0 || n != end || i+n > len(b) || !bytes.Equal(rest[:n], b[i:i+n]) {
				return false
			}
			i += n
		}
		at += n
	}
	return at == len(data) && i == len(b)
}

// Promises 32.1 and 32.2: drawn images, there and back again; without the last byte, or with another one, it is no encoding.
func TestInverse(t *testing.T) {
	for n := range 2000 {
		d := drawn.Dice(n)
		g := api.Image{Data: drawnData(&d), Notes: d.Roll(65)}
		g.Limit = api.Base + d.Roll(len(g.Data)+1)
		for range 1 + d.Roll(5) {
			g.Code = append(g.Code, uint32(d.Roll(1<<31)*2+d.Roll(2)))
		}
		b := encoded(t, g)
		if !isRuns(b[20+4*len(g.Code):], g.Data) {
			t.Fatalf("%d: %v is not %v", n, b[20+4*len(g.Code):], g.Data)
		}
		if got, e := pack.Decode(b); e != api.OK || !same(got, g) {
			t.Fatalf("%d: %v", n, e)
		}
		for _, l := range [][]byte{b[:len(b)-1], append(slices.Clone(b), 0), append(slices.Clone(b), 1), append(slices.Clone(b), 128), append(slices.Clone(b), byte(d.Roll(256)))} {
			if _, e := pack.Decode(l); e != api.ErrForm {
				t.Fatalf("%d: %d bytes instead of %d: %v", n, len(l), len(b), e)
			}
		}
	}
}

// Promise 32.2: what is decoded from changed bytes is encoded as these again.
func TestChanged(t *testing.T) {
	images, errors := 0, 0
	for n := range 20000 {
		d := drawn.Dice(n)
		b := encoded(t, with(drawnData(&d)...))
		for range 1 + d.Roll(2) {
			switch at := d.Roll(len(b)); d.Roll(4) {
			case 0:
				b[at] = byte(d.Roll(256))
			case 1:
				b[at]++
			case 2:
				b[8+d.Roll(12)] ^= 1 << d.Roll(8)
			case 3:
				b = append(b, slices.Clone(b[at:])...)
			}
		}
		g, e := pack.Decode(b)
		if e != api.OK {
			errors++
			if e != api.ErrForm || !reflect.DeepEqual(g, api.Image{}) {
				t.Fatalf("%d: %v", n, e)
			}
			continue
		}
		images++
		if again := encoded(t, g); !bytes.Equal(again, b) {
			t.Fatalf("%d: %v, not %v", n, again, b)
		}
	}
	if images < 2000 || errors < 5000 {
		t.Errorf("%d images, %d errors", images, errors)
	}
}

// Promise 32.2: compiled images, and the greatest ones that there may be.
func TestImages(t *testing.T) {
	var l []api.Image
	for n := range 20 {
		if g, _, e := compile.Compile(drawn.Tame(n), api.Options{Data: 65536, Regs: 12, Notes: 16}); e == api.OK {
			l = append(l, g)
		}
	}
	full := api.Image{Code: slices.Repeat([]uint32{1<<32 - 1}, 32768), Data: of(65536, 9), Limit: api.Base + 65536, Notes: 64}
	for k := 0; k < len(full.Data); k += 128 {
		full.Data[k] = 0
	}
	for _, g := range append(l, full) {
		b := encoded(t, g)
		if got, e := pack.Decode(b); e != api.OK || !same(got, g) || len(b) > pack.MaxBytes {
			t.Errorf("%v, %d bytes", e, len(b))
		}
	}
	if len(l) < 10 {
		t.Errorf("%d images", len(l))
	}
}

// Rule R3: arguments are not changed, and answers share nothing.
func TestNothingIsShared(t *testing.T) {
	g := with(1, 2, 3, 0, 0, 0, 0)
	kept := api.Image{Code: slices.Clone(g.Code), Data: slices.Clone(g.Data), Limit: g.Limit, Notes: g.Notes}
	b := encoded(t, g)
	was := slices.Clone(b)
	x, _ := pack.Decode(b)
	clear(x.Code)
	clear(x.Data)
	if !same(g, kept) || !bytes.Equal(b, was) {
		t.Errorf("changed, or shared with the image")
	}
	x, _ = pack.Decode(b)
	clear(b)
	if !same(x, kept) || !bytes.Equal(encoded(t, g), was) {
		t.Errorf("shared with the bytes")
	}
}
