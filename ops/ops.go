// Package ops is no layer: it writes instructions of the machine as items of assembly, for the layers that make code.
package ops

import (
	"rushlight/api"
	"rushlight/asm"
)

// The machine's registers, by their use.
const (
	Zero  = 0 // is always 0
	Link  = 1 // where a call was made
	Stack = 2 // where the frame of the procedure lies
	Notes = 3 // where the next note goes
	Epoch = 4
	T0    = 5 // a temporary one, and where a mark was made
	T1    = 6
	T2    = 7
	A0    = 10 // the first argument, and the result
	T3    = 28
)

// Word is how many bytes a word has.
const Word = 4

// Three is an instruction of three registers.
func Three(op, rd, a, b int) api.Item { return asm.Inst(op, rd, a, b, 0) }

// Two is an instruction of two registers and a number.
func Two(op, rd, a, n int) api.Item { return asm.Inst(op, rd, a, 0, n) }

// Add sets a register to the sum of another one and a number.
func Add(rd, a, n int) api.Item { return Two(api.OpAddi, rd, a, n) }

// Load loads a word that lies off behind a register.
func Load(rd, base, off int) api.Item { return Two(api.OpLw, rd, base, off) }

// Store stores a register as the word that lies off behind another one.
func Store(r, base, off int) api.Item { return StoreAs(api.OpSw, r, base, off) }

// StoreAs stores a register off behind another one, as so many bytes as the Op of a store does.
func StoreAs(op, r, base, off int) api.Item { return asm.Inst(op, 0, base, r, off) }

// Back jumps to the address in a register.
func Back(r int) api.Item { return Two(api.OpJalr, Zero, r, 0) }

// Goto jumps to a label.
func Goto(label int) api.Item { return asm.Jump(Zero, label) }
