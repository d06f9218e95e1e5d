package listing_test

import (
	"math"
	"slices"
	"strconv"
	"strings"
	"testing"

	"rushlight/api"
	"rushlight/inst"
	"rushlight/listing"
)

// hex is eight hexadecimal digits.
func hex(w uint32) string {
	s := ""
	for k := range 8 {
		s += string("0123456789abcdef"[w>>(28-4*k)&15])
	}
	return s
}

// text is the lines of bodies, at their addresses.
func text(bodies ...string) string {
	var b strings.Builder
	for k, s := range bodies {
		b.WriteString(hex(uint32(4*k)) + ": " + s + "\n")
	}
	return b.String()
}

// Promises 6.2 and 6.3.
func TestTextAndWords(t *testing.T) {
	var sampled, lines = []uint32{}, []string{}
	for _, x := range samples() {
		w, e := inst.Encode(x.i)
		if e != api.OK {
			t.Fatalf("%v: %v", x.i, e)
		}
		sampled, lines = append(sampled, w), append(lines, x.line)
	}
	for _, x := range []struct {
		name string
		l    []uint32
		want string
	}{
		{"nil", nil, ""},
		{"no words", []uint32{}, ""},
		{"the chapter's instruction", []uint32{0x00500093}, "00000000: addi x1, x0, 5\n"},
		{"the chapter's word", []uint32{0}, "00000000: .word 0x00000000\n"},
		{"no instructions", []uint32{0, 1, math.MaxUint32, 0x80000000, 0xabcdef12}, text(".word 0x00000000", ".word 0x00000001", ".word 0xffffffff", ".word 0x80000000", ".word 0xabcdef12")},
		{"all instructions", sampled, text(lines...)},
		{"both", []uint32{0x00500093, 0, 0x0020a423, 0xffffffff}, text("addi x1, x0, 5", ".word 0x00000000", "sw x2, 8(x1)", ".word 0xffffffff")},
	} {
		if got, e := listing.Text(x.l); got != x.want || e != api.OK {
			t.Errorf("%s: Text: %q, %v", x.name, got, e)
		}
		if got, e := listing.Words(x.want); !slices.Equal(got, x.l) || e != api.OK {
			t.Errorf("%s: Words: %#x, %v", x.name, got, e)
		}
	}
}

// Promise 6.2: texts of no words.
func TestWordsInvalid(t *testing.T) {
	good := text("addi x1, x0, 5", ".word 0x00000000", "sw x2, 8(x1)")
	for name, s := range map[string]string{
		"a line feed":                "\n",
		"a space":                    " ",
		"no line feed at the end":    strings.TrimSuffix(good, "\n"),
		"an empty line at the end":   good + "\n",
		"an empty line ahead":        "\n" + good,
		"a space at the end":         good + " ",
		"a zero at the end":          good + "\x00",
		"carriage returns":           strings.ReplaceAll(good, "\n", "\r\n"),
		"an empty line between":      strings.Replace(good, "\n", "\n\n", 1),
		"spaces at the ends":         strings.ReplaceAll(good, "\n", " \n"),
		"no lines at all":            strings.ReplaceAll(good, "\n", " "),
		"from 4 on":                  "00000004: addi x1, x0, 5\n",
		"an address again":           "00000000: addi x1, x0, 5\n00000000: addi x1, x0, 5\n",
		"addresses by 1":             "00000000: addi x1, x0, 5\n00000001: addi x1, x0, 5\n",
		"addresses by 8":             "00000000: addi x1, x0, 5\n00000008: addi x1, x0, 5\n",
		"addresses from -4 on":       "fffffffc: addi x1, x0, 5\n00000000: addi x1, x0, 5\n",
		"a short address":            "0: addi x1, x0, 5\n",
		"a long address":             "000000000: addi x1, x0, 5\n",
		"no address":                 "addi x1, x0, 5\n",
		"no colon":                   "00000000 addi x1, x0, 5\n",
		"no space":                   "00000000:addi x1, x0, 5\n",
		"two spaces":                 "00000000:  addi x1, x0, 5\n",
		"a space ahead":              " 00000000: addi x1, x0, 5\n",
		"no instruction":             "00000000: \n",
		"an unknown instruction":     "00000000: addu x1, x0, 5\n",
		"an invalid instruction":     "00000000: addi x1, x0, 2048\n",
		"another form":               "00000000: addi x1, x0, 05\n",
		"the word of an instruction": "00000000: .word 0x00500093\n",
		"a short word":               "00000000: .word 0x0\n",
		"a long word":                "00000000: .word 0x000000000\n",
		"a word beyond":              "00000000: .word 0x100000000\n",
		"an upper-case word":         "00000000: .word 0xFFFFFFFF\n",
		"an upper-case mark":         "00000000: .word 0Xffffffff\n",
		"a word without a mark":      "00000000: .word ffffffff\n",
		"a decimal word":             "00000000: .word 0\n",
		"no word":                    "00000000: .word \n",
		"a word of a mark":           "00000000: .word 0x\n",
		"a signed word":              "00000000: .word 0x+0000000\n",
		"a negative word":            "00000000: .word -0x00000001\n",
		"two spaces in a word":       "00000000: .word  0x00000000\n",
		"no point":                   "00000000: word 0x00000000\n",
		"two words in a line":        "00000000: .word 0x00000000, 0x00000000\n",
		"an upper-case address":      strings.Replace(text(slices.Repeat([]string{".word 0x00000000"}, 4)...), "0000000c", "0000000C", 1),
		"no text":                    "\xff\xfe\x00",
	} {
		if got, e := listing.Words(s); got != nil || e != api.ErrForm {
			t.Errorf("%s: %#x, %v", name, got, e)
		}
	}
}

// Promise 6.3: a text next to that of some words is read only if it is the text of words itself.
func TestChangedTexts(t *testing.T) {
	for _, s := range changes(text("addi x1, x0, 5", ".word 0x10000000", "sw x2, 8(x1)")) {
		l, e := listing.Words(s)
		if e == api.ErrForm && l == nil {
			continue
		}
		if back, te := listing.Text(l); e != api.OK || te != api.OK || back != s {
			t.Errorf("%q is read as %#x, %v, which is %q, %v", s, l, e, back, te)
		}
	}
}

// Promise 6.2: the limits.
func TestLimits(t *testing.T) {
	longest, e := inst.Encode(api.Inst{Op: api.OpSltiu, Rd: 31, Rs1: 30, Imm: -2048})
	if e != api.OK {
		t.Fatal(e)
	}
	l := slices.Repeat([]uint32{longest}, listing.MaxLines)
	s, e := listing.Text(l)
	want := text(slices.Repeat([]string{"sltiu x31, x30, -2048"}, listing.MaxLines)...)
	if s != want || e != api.OK {
		t.Fatalf("Text of %d words: %d bytes, %v", len(l), len(s), e)
	}
	if got, e := listing.Words(s); !slices.Equal(got, l) || e != api.OK {
		t.Errorf("Words of %d lines: %d words, %v", len(l), len(got), e)
	}
	if got, e := listing.Text(append(l, 0)); got != "" || e != api.ErrLong {
		t.Errorf("Text of one word more: %d bytes, %v", len(got), e)
	}
	more := s + hex(4*listing.MaxLines) + ": .word 0x00000000\n"
	if got, e := listing.Words(more); got != nil || e != api.ErrForm {
		t.Errorf("Words of one line more: %d words, %v", len(got), e)
	}
	for n, want := range map[int]api.Errno{1 << 21: api.ErrForm, 1<<21 + 1: api.ErrLong} {
		for name, s := range map[string]string{
			"line feeds":      strings.Repeat("\n", n),
			"zeros":           strings.Repeat("\x00", n),
			"words and zeros": s + strings.Repeat("\x00", n-len(s)),
		} {
			if got, e := listing.Words(s); got != nil || e != want {
				t.Errorf("%d bytes, %s: %d words, %v", n, name, len(got), e)
			}
		}
	}
}

// Promise 6.3: words of all kinds come back from their text, line by line as their instructions have it.
func TestInverse(t *testing.T) {
	var l []uint32
	w := uint32(7)
	for range 20000 {
		w = w*1664525 + 1013904223
		l = append(l, w^w>>16)
	}
	s, e := listing.Text(l)
	if e != api.OK {
		t.Fatal(e)
	}
	if got, e := listing.Words(s); !slices.Equal(got, l) || e != api.OK {
		t.Errorf("%d words, %v", len(got), e)
	}
	lines := strings.SplitAfter(s, "\n")
	if len(lines) != len(l)+1 || lines[len(l)] != "" {
		t.Fatalf("%d lines", len(lines))
	}
	for k, w := range l {
		body := ".word 0x" + hex(w)
		if i, e := inst.Decode(w); e == api.OK {
			body, _ = listing.Line(i)
		}
		if want := hex(uint32(4*k)) + ": " + body + "\n"; lines[k] != want {
			t.Fatalf("line %s: %q, not %q", strconv.Itoa(k), lines[k], want)
		}
	}
}

// Rule R3: the words stay as they are, and results share no memory.
func TestSharing(t *testing.T) {
	l := []uint32{0x00500093, 0}
	s, _ := listing.Text(l)
	got, _ := listing.Words(s)
	clear(got)
	if again, _ := listing.Words(s); !slices.Equal(l, []uint32{0x00500093, 0}) || !slices.Equal(again, l) {
		t.Errorf("%#x, and again %#x", l, again)
	}
}
