package saga

import (
	"slices"
	"strings"

	"entente/api"
	"entente/ident"
	"entente/record"
)

const toCommitted = 1 // the Step by which MoveForce commits a saga; by the other one it compensates it

// turn is a saga that a move changes, in new memory, and what the move finds there.
type turn struct {
	api.Saga
	move    api.Move
	current int      // the saga's current step
	step    api.Step // that of the move's number, an empty one if the saga has none
	part    api.Part // how it stands ahead of the move
}

// turnOf begins the turn of a move that can be made.
func turnOf(s api.Saga, m api.Move) (turn, api.Errno) {
	if e := May(s); e != api.OK {
		return turn{}, e
	}
	if record.Move(m) != api.OK || ident.Cmp(m.Id, s.Id) != 0 {
		return turn{}, api.ErrMove
	}
	t := turn{Saga: copied(s), move: m, current: currentOf(s)}
	if m.Step < len(t.Parts) {
		t.step, t.part = t.Def.Steps[m.Step], t.Parts[m.Step]
	}
	if !t.can() {
		return turn{}, api.ErrMove
	}
	return t, api.OK
}

// copied has a saga whose lists and texts are new memory.
func copied(s api.Saga) api.Saga {
	s.Id.Hops = slices.Clone(s.Id.Hops)
	s.Def.Name = strings.Clone(s.Def.Name)
	s.Def.Steps = slices.Clone(s.Def.Steps)
	for i := range s.Def.Steps {
		step := &s.Def.Steps[i]
		step.Sub = strings.Clone(step.Sub)
		step.Act.Account = strings.Clone(step.Act.Account)
	}
	s.Parts = slices.Clone(s.Parts)
	return s
}

// is tells whether the saga's Status is one of some.
func (t *turn) is(statuses ...int) bool { return slices.Contains(statuses, t.Status) }

func (t *turn) undecided() bool {
	return t.is(api.Running, api.Held, api.Undoing, api.Stuck)
}

func (t *turn) atCurrent() bool { return t.move.Step == t.current }

// atOwn tells whether the move is of the current step, and that is one of its own.
func (t *turn) atOwn() bool { return t.atCurrent() && !asks(t.step) }

// allDone tells whether a running saga has done all, and lost nothing of it: a part that is gone would be its current one.
func (t *turn) allDone() bool { return all(t.is(api.Running), t.current == noStep) }

// can tells whether the move can be made.
func (t *turn) can() bool {
	switch t.move.Kind {
	case api.MoveFail:
		return t.atOwn() && t.part.Tries < t.mostTries()
	case api.MoveDo:
		return all(t.is(api.Running), t.atOwn())
	case api.MoveAsk:
		return all(t.is(api.Running), t.atCurrent(), asks(t.step), t.part.State == api.PartNone)
	case api.MoveGot:
		return all(t.is(api.Running), t.atCurrent(), t.part.State == api.PartAsk)
	case api.MoveLost:
		return all(t.undecided() || t.Forced, asks(t.step), t.part.State == api.PartAsk || t.part.State == api.PartDone)
	case api.MoveHold:
		return all(t.allDone(), isChild(t.Saga))
	case api.MoveCommit:
		held := all(t.is(api.Held), !anyIs(t.Parts, api.PartGone))
		return held || all(t.allDone(), !isChild(t.Saga))
	case api.MoveBack:
		return t.is(api.Running) || all(t.is(api.Held), t.freed())
	case api.MoveUndo:
		return all(t.is(api.Undoing), t.atOwn())
	case api.MoveJam:
		return all(t.is(api.Undoing), t.atOwn(), t.part.Tries == api.MaxTries)
	case api.MoveAgain:
		return t.is(api.Stuck)
	case api.MoveEnd:
		return all(t.is(api.Undoing), t.current == noStep)
	case api.MoveKept:
		return all(t.is(api.Committed), asks(t.step), t.part.State == api.PartDone)
	case api.MoveForce:
		return t.undecided()
	}
	return false
}

// mostTries tells how often the move's step can be tried in vain: none at all, where nothing is tried.
func (t *turn) mostTries() int {
	switch t.Status {
	case api.Running:
		return t.step.Tries
	case api.Undoing:
		return api.MaxTries
	}
	return 0
}

// freed tells whether the move's Why is one for which a saga that is held goes back.
func (t *turn) freed() bool {
	switch t.move.Why {
	case api.WhyParent:
		return true
	case api.WhyChild:
		return anyIs(t.Parts, api.PartGone)
	}
	return false
}

// take makes the move, which can be made.
func (t *turn) take() {
	at := t.move.Step
	switch t.move.Kind {
	case api.MoveFail:
		t.Parts[at].Tries++
	case api.MoveDo:
		t.Parts[at] = api.Part{State: api.PartDone}
	case api.MoveAsk:
		t.Parts[at].State = api.PartAsk
	case api.MoveGot:
		t.Parts[at].State = api.PartDone
	case api.MoveLost:
		t.Parts[at].State = api.PartGone
	case api.MoveHold:
		t.Status = api.Held
	case api.MoveCommit:
		t.Status = api.Committed
		t.decide(api.PartKept)
	case api.MoveBack:
		t.Status, t.Why = api.Undoing, t.move.Why
		t.forgetTries()
	case api.MoveUndo:
		t.Parts[at] = api.Part{State: api.PartGone}
	case api.MoveJam:
		t.Status = api.Stuck
	case api.MoveAgain:
		t.Status = api.Undoing
		t.Parts[t.current].Tries = 0
	case api.MoveEnd:
		t.Status = api.Compensated
	case api.MoveKept:
		t.Parts[at].State = api.PartKept
	case api.MoveForce:
		t.force()
	}
}

func (t *turn) force() {
	t.Forced = true
	if t.move.Step == toCommitted {
		t.Status = api.Committed
		t.decide(api.PartKept)
	} else {
		t.Status = api.Compensated
		t.decide(api.PartGone)
	}
	t.forgetTries()
}

// pending has the steps of its own that are done, but neither kept nor undone yet.
func (t *turn) pending() []int {
	var steps []int
	for i, p := range t.Parts {
		if p.State == api.PartDone && !asks(t.Def.Steps[i]) {
			steps = append(steps, i)
		}
	}
	return steps
}

// decide brings all that is pending to a state.
func (t *turn) decide(state int) {
	for _, i := range t.pending() {
		t.Parts[i].State = state
	}
}

func (t *turn) forgetTries() {
	for i := range t.Parts {
		t.Parts[i].Tries = 0
	}
}

// effects has what the move does in the ledger.
func (t *turn) effects() []Effect {
	switch t.move.Kind {
	case api.MoveDo:
		return t.marks(api.MarkDone, t.move.Step)
	case api.MoveUndo:
		return t.marks(api.MarkUndone, t.move.Step)
	case api.MoveCommit:
		// What can be committed has done each step of its own: all of them are pending.
		return t.marks(api.MarkKept, t.pending()...)
	case api.MoveForce:
		if t.move.Step == toCommitted {
			return t.marks(api.MarkKept, t.pending()...)
		}
		return t.marks(api.MarkUndone, t.pending()...)
	}
	return nil
}

func (t *turn) marks(what int, steps ...int) []Effect {
	var l []Effect
	for _, i := range steps {
		key, _ := Key(t.Id, i) // a saga's id, and a step of its definition: there is no error
		l = append(l, Effect{What: what, Key: key, Act: t.Def.Steps[i].Act})
	}
	return l
}
