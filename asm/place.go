package asm

import "rushlight/api"

// wordBytes is how many bytes a word has.
const wordBytes = 4

// farWords is how many words a far branch has.
const farWords = 2

// The offsets that the word of a branch and that of a jump can hold.
const (
	minBranch = -1 << 12
	maxBranch = 1<<12 - 2
	minJump   = -1 << 20
	maxJump   = 1<<20 - 2
)

// define is the index of the item that defines each label.
func define(l []api.Item) (map[int]int, api.Errno) {
	labels := map[int]int{}
	for k, x := range l {
		if x.Kind != api.ItemLabel {
			continue
		}
		if _, twice := labels[x.Label]; twice {
			return nil, api.ErrTwice
		}
		labels[x.Label] = k
	}
	return labels, api.OK
}

// resolve is, for each item that leads to a label, the index of the item that defines the label.
func resolve(l []api.Item, labels map[int]int) ([]int, api.Errno) {
	goals := make([]int, len(l))
	for k, x := range l {
		if x.Kind != api.ItemBranch && x.Kind != api.ItemJump {
			continue
		}
		goal, defined := labels[x.Label]
		if !defined {
			return nil, api.ErrNone
		}
		goals[k] = goal
	}
	return goals, api.OK
}

// placement is items with what is known of each, by its index.
type placement struct {
	items []api.Item
	goals []int // the index of the label that it leads to
	sizes []int // how many words it has
	at    []int // its address
}

// settle places the items; branches grow until each near one reaches its label.
// All branches of a round are held against the same placement: which are far does not depend on their order.
func settle(l []api.Item, goals []int) placement {
	p := placement{items: l, goals: goals, sizes: leastSizes(l), at: make([]int, len(l))}
	near := branches(l)
again:
	p.place()
	rest := p.grow(near)
	if len(rest) < len(near) {
		near = rest
		goto again
	}
	return p
}

// leastSizes is how many words each item has while all branches are near.
func leastSizes(l []api.Item) []int {
	sizes := make([]int, len(l))
	for k, x := range l {
		switch x.Kind {
		case api.ItemInst, api.ItemJump, api.ItemBranch:
			sizes[k] = 1
		case api.ItemConst:
			sizes[k] = len(constant(x.Inst))
		}
	}
	return sizes
}

// branches is the indices of all branches.
func branches(l []api.Item) []int {
	var indices []int
	for k, x := range l {
		if x.Kind == api.ItemBranch {
			indices = append(indices, k)
		}
	}
	return indices
}

// place gives each item its address.
func (p placement) place() {
	next := 0
	for k, size := range p.sizes {
		p.at[k] = next
		next += size * wordBytes
	}
}

// grow makes those of the near branches far that do not reach their labels, and returns the others.
func (p placement) grow(near []int) []int {
	var rest []int
	for _, k := range near {
		if offset := p.offset(k); offset >= minBranch && offset <= maxBranch {
			rest = append(rest, k)
		} else {
			p.sizes[k] = farWords
		}
	}
	return rest
}

// offset is how far the label that item k leads to is from its first word.
func (p placement) offset(k int) int { return p.at[p.goals[k]] - p.at[k] }

// addresses is the address of each label up to the greatest defined one; -1 for one that is not defined.
func (p placement) addresses(labels map[int]int) []int {
	var addresses []int
	for n := range MaxLabels {
		k, defined := labels[n]
		if !defined {
			continue
		}
		for len(addresses) < n {
			addresses = append(addresses, -1)
		}
		addresses = append(addresses, p.at[k])
	}
	return addresses
}
