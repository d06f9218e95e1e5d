package fold

import (
	"slices"

	"rushlight/api"
	"rushlight/ir"
	"rushlight/irrun"
	"rushlight/procs"
)

// Values is a procedure of which no block reckons anything twice.
func Values(p api.Proc) api.Proc {
	q := procs.Clone(p)
	objects, _ := irrun.Place(p.Objects)
	for n := range q.Blocks {
		v := numbering{objects: objects, numbers: map[key]int{}, held: map[int]int{}}
		v.block(&q.Blocks[n])
	}
	return q
}

// key is what tells the values that instructions compute apart: where the keys are equal, the values are.
type key struct {
	op, fn, a, b int // a and b are values
	obj, off     int
	num          uint32
}

// value is a value that registers may hold in a block.
type value struct {
	cell          // its number, if that is known
	place         // what lies there, if it is an address
	holders []int // the registers that hold it, in the order in which they came to
}

// numbering goes through the instructions of a block and numbers the values that they compute and read.
type numbering struct {
	objects []int // where each object lies in the frame
	values  []value
	numbers map[key]int // of the values that were computed
	held    map[int]int // the value of each register that was read or set
	memory  memory
}

// block makes copies and numbers of what need not be computed in a block.
func (n *numbering) block(b *api.Block) {
	for k := range b.Ins {
		n.instruction(&b.Ins[k])
	}
	if c := n.cellOf(b.A); b.End == api.EndBranch && c.known {
		settle(b, c.num)
	}
	if b.End == api.EndBranch || b.End == api.EndRet {
		b.A = n.first(b.A)
	}
}

// instruction goes through an instruction.
func (n *numbering) instruction(i *api.Ins) {
	i.A, i.B = n.first(i.A), n.first(i.B)
	for k, r := range i.Args {
		i.Args[k] = n.first(r)
	}
	n.touch(*i)
	d := ir.Def(*i)
	if d == api.None {
		return
	}
	v := n.result(*i)
	switch c, holders := n.values[v].cell, n.values[v].holders; {
	case c.known && i.Op != api.IrConst:
		*i = constant(d, c.num)
	case !c.known && len(holders) > 0 && i.Op != api.IrCopy:
		*i = api.Ins{Op: api.IrCopy, D: d, A: holders[0], B: api.None}
	}
	n.set(d, v)
}

// touch goes through what an instruction may write to memory.
func (n *numbering) touch(i api.Ins) {
	switch i.Op {
	case api.IrStore:
		s := n.span(i)
		n.memory.overwrite(s)
		if i.Size == 4 {
			n.memory.learn(s, n.of(i.B))
		}
	case api.IrCall:
		n.memory = nil
	}
}

// result is the value to which an instruction sets its register.
func (n *numbering) result(i api.Ins) int {
	switch i.Op {
	case api.IrConst:
		return n.constant(i.Num)
	case api.IrCopy:
		return n.of(i.A)
	case api.IrUn:
		return n.function(i.Op, i.Fn, n.of(i.A), n.constant(0))
	case api.IrBin:
		return n.function(i.Op, i.Fn, n.of(i.A), n.of(i.B))
	case api.IrFrame, api.IrGlobal:
		v := n.number(key{op: i.Op, obj: i.Obj, off: i.Off})
		n.values[v].place = n.where(i)
		return v
	case api.IrLoad:
		s := n.span(i)
		if v, is := n.memory.at(s); is {
			return v
		}
		v := n.fresh()
		n.memory.learn(s, v)
		return v
	}
	return n.fresh() // of a call or an input
}

// function is the value of a function of values.
func (n *numbering) function(op, fn, a, b int) int {
	if c := apply(fn, n.values[a].cell, n.values[b].cell); c.known {
		return n.constant(c.num)
	}
	fn, a, b = ordered(fn, a, b)
	return n.number(key{op: op, fn: fn, a: a, b: b})
}

// ordered is a function of operands that yields the same, and is the same whichever way round it was written.
func ordered(fn, a, b int) (int, int, int) {
	switch fn {
	case api.FnAdd, api.FnMul, api.FnAnd, api.FnOr, api.FnXor, api.FnEq, api.FnNe:
		return fn, min(a, b), max(a, b)
	case api.FnGt:
		return api.FnLt, b, a
	case api.FnGe:
		return api.FnLe, b, a
	}
	return fn, a, b
}

// constant is the value of a number.
func (n *numbering) constant(num uint32) int {
	v := n.number(key{op: api.IrConst, num: num})
	n.values[v].cell = cell{true, num}
	return v
}

// number is the value of a key.
func (n *numbering) number(k key) int {
	v, is := n.numbers[k]
	if !is {
		v = n.fresh()
		n.numbers[k] = v
	}
	return v
}

// fresh is a new value, of which nothing is known.
func (n *numbering) fresh() int {
	v := len(n.values)
	n.values = append(n.values, value{place: place{kind: behindValue, number: v}})
	return v
}

// of is the value of a register; a new one, if that was not read or set yet.
func (n *numbering) of(r int) int {
	v, is := n.held[r]
	if !is {
		v = n.fresh()
		n.set(r, v)
	}
	return v
}

// cellOf is what is known of a register.
func (n *numbering) cellOf(r int) cell {
	if r == api.None {
		return cell{}
	}
	return n.values[n.of(r)].cell
}

// first is the register that has held the value of a register for longest.
func (n *numbering) first(r int) int {
	if r == api.None {
		return r
	}
	return n.values[n.of(r)].holders[0]
}

// set makes a register hold a value.
func (n *numbering) set(r, v int) {
	old, is := n.held[r]
	if is && old == v {
		return
	}
	if is {
		n.values[old].holders = slices.DeleteFunc(n.values[old].holders, func(x int) bool { return x == r })
	}
	n.held[r] = v
	n.values[v].holders = append(n.values[v].holders, r)
}

// where is the address that an IrFrame or IrGlobal yields.
func (n *numbering) where(i api.Ins) place {
	if i.Op == api.IrGlobal {
		return place{kind: inGlobal, number: i.Obj, at: i.Off}
	}
	if i.Obj < 0 || i.Obj >= len(n.objects) {
		return place{kind: inFrame, at: i.Off} // of no valid procedure
	}
	return place{kind: inFrame, at: n.objects[i.Obj] + i.Off}
}

// span is the bytes that a load or store accesses.
func (n *numbering) span(i api.Ins) span {
	s := span{place: n.values[n.of(i.A)].place, size: i.Size}
	s.at += i.Off
	return s
}
