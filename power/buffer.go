package power

import "iter"

// arrivals yields the energy that arrives at each of so many ticks.
func (s Supply) arrivals(time int) iter.Seq[int] {
	return func(yield func(energy int) bool) {
		for t := range time {
			if !yield(s.Ticks[t%len(s.Ticks)]) {
				return
			}
		}
	}
}

// buffer is an energy buffer, and what the machine has done that it feeds.
type buffer struct {
	level    int
	on       bool
	executed int
	fails    []int
}

// tick is a tick at which so much energy arrives.
func (b *buffer) tick(s Supply, energy int) {
	b.level = min(b.level+energy, s.Room)
	if !b.on && b.level >= s.On {
		b.switchOn()
	}
	if b.on {
		b.executed++
		b.level--
		b.on = b.level > 0
	}
}

// switchOn switches the machine on. What it has lost since it was on before, it finds out now.
func (b *buffer) switchOn() {
	b.on = true
	if b.executed > 0 {
		b.fails = append(b.fails, b.executed)
	}
}
