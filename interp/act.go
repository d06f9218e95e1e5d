package interp

import (
	"rushlight/api"
	"rushlight/store"
)

// ending is how an act, or a task of one, ended.
type ending int

// The ways in which acts end.
const (
	onward    ending = iota // what is left to do follows
	broken                  // the loop or switch around it ends
	continued               // the loop around it goes on with its next round
	returned                // the call ends, with the last value
)

// duty is what kind of thing is left to do.
type duty int

// The kinds of tasks.
const (
	dutyList   duty = iota // to execute acts, one after the other
	dutyDrop               // to take a value that nothing asks for
	dutyBranch             // to choose by the value of a condition what an AcIf executes
	dutyAsk                // to begin the condition of an AcLoop, if it has one
	dutyDecide             // to choose by its value whether there is another round
	dutyRound              // to end a round; it waits below the body for as long as that is executed
	dutySelect             // to choose by a value the case with which an AcSwitch begins
	dutyCase               // to execute the next case; it waits below the statements of the one before it
	dutyReturn             // to end the call with a value
)

// task is what is left to do of an act when what it has begun has ended.
type task struct {
	duty duty
	next int       // dutyCase: which case
	act  *api.Act  // whose it is
	acts []api.Act // dutyList: those that are left
}

// plan adds a task of an act.
func (m *machine) plan(d duty, a *api.Act) { m.tasks = append(m.tasks, task{duty: d, act: a}) }

// follow plans acts that are executed one after the other.
func (m *machine) follow(l []api.Act) {
	if len(l) > 0 {
		m.tasks = append(m.tasks, task{acts: l})
	}
}

// evaluateFor begins a term, for whose value there is then a task.
func (m *machine) evaluateFor(d duty, a *api.Act, t *api.Term) {
	m.plan(d, a)
	m.begin(t)
}

// perform does the last task of the call that began last; a call without one has reached its end.
func (m *machine) perform() ending {
	last := len(m.tasks) - 1
	if last < m.current().tasks {
		m.push(m.nothing())
		return returned
	}
	t := m.tasks[last]
	m.tasks = m.tasks[:last]
	switch t.duty {
	case dutyList:
		m.follow(t.acts[1:])
		return m.execute(&t.acts[0])
	case dutyDrop:
		m.pop()
	case dutyBranch:
		if holds(m.pop()) {
			m.follow(t.act.Body)
		} else {
			m.follow(t.act.Else)
		}
	case dutyAsk:
		m.ask(t.act)
	case dutyDecide:
		if holds(m.pop()) {
			m.round(t.act)
		}
	case dutyRound:
		m.finishRound(t.act)
	case dutySelect:
		m.cases(t.act, first(t.act.Cases, m.pop().Num))
	case dutyCase:
		m.cases(t.act, t.next)
	case dutyReturn:
		return returned
	}
	return onward
}

// execute begins an act, if there is a step left.
func (m *machine) execute(a *api.Act) ending {
	if !m.step() {
		return onward
	}
	switch a.Kind {
	case api.AcExpr:
		m.evaluateFor(dutyDrop, a, &a.A[0])
	case api.AcIf:
		m.evaluateFor(dutyBranch, a, &a.A[0])
	case api.AcLoop:
		if a.First {
			m.round(a)
		} else {
			m.ask(a)
		}
	case api.AcSwitch:
		m.evaluateFor(dutySelect, a, &a.A[0])
	case api.AcReturn:
		if len(a.A) == 0 {
			m.push(m.nothing())
			return returned
		}
		m.evaluateFor(dutyReturn, a, &a.A[0])
	case api.AcBreak:
		return broken
	case api.AcContinue:
		return continued
	case api.AcBlock:
		m.follow(a.Body)
	case api.AcNew:
		m.must(m.memory.Unset(m.place(a.Var, false).Obj))
	}
	return onward
}

// ask begins the condition of a loop; without one there is always another round.
func (m *machine) ask(a *api.Act) {
	switch {
	case len(a.A) > 0:
		m.evaluateFor(dutyDecide, a, &a.A[0])
	case len(a.Body)+len(a.Post) > 0:
		m.round(a)
	default:
		m.must(api.ErrFuel) // a round without a step: no fuel would ever be enough
	}
}

// round begins a round of a loop.
func (m *machine) round(a *api.Act) {
	m.plan(dutyRound, a)
	m.follow(a.Body)
}

// finishRound does what a loop does between the body and its condition.
func (m *machine) finishRound(a *api.Act) {
	m.plan(dutyAsk, a)
	if len(a.Post) > 0 {
		m.evaluateFor(dutyDrop, a, &a.Post[0])
	}
}

// cases executes the statements of a switch from a case on.
func (m *machine) cases(a *api.Act, from int) {
	if from < len(a.Cases) {
		m.tasks = append(m.tasks, task{duty: dutyCase, act: a, next: from + 1})
		m.follow(a.Cases[from].Body)
	}
}

// first is the case that has a number, or else default, or else the end.
func first(l []api.Choice, n uint32) int {
	other := len(l)
	for k, c := range l {
		switch {
		case c.Default:
			other = k
		case c.Num == n:
			return k
		}
	}
	return other
}

// nothing is the result of a call that returns no value.
func (m *machine) nothing() store.Value { return store.Value{Is: m.current().ptr} }

// unwind gives up the tasks of the acts that an ending ends too.
func (m *machine) unwind(how ending) {
	if how == returned {
		m.leave()
		return
	}
around:
	for how != onward {
		last := len(m.tasks) - 1
		switch m.tasks[last].duty {
		case dutyRound:
			if how == continued {
				break around // and the task is what is done next
			}
			how = onward
		case dutyCase:
			if how == broken {
				how = onward
			}
		}
		m.tasks = m.tasks[:last]
	}
}
