package saga

import (
	"slices"

	"entente/api"
	"entente/def"
	"entente/ident"
)

const noStep = -1

func within(n, low, high int) bool { return low <= n && n <= high }

// all tells whether all is so that must be so.
func all(must ...bool) bool { return !slices.Contains(must, false) }

// anyIs tells whether a part is in one of some states.
func anyIs(l []api.Part, states ...int) bool {
	return slices.ContainsFunc(l, func(p api.Part) bool { return slices.Contains(states, p.State) })
}

func isReason(why int) bool { return within(why, api.WhyLedger, api.WhyFull) }

func isChild(s api.Saga) bool { return len(s.Id.Hops) > 0 }

// asks tells whether a step of a definition that may be is one that asks.
func asks(s api.Step) bool { return s.Sub != "" }

func mayBe(s api.Saga) bool {
	switch {
	case ident.Check(s.Id) != api.OK:
		return false
	case s.Status == api.Refused:
		return refusedMayBe(s)
	case def.Check(s.Def) != api.OK || !partsMayBe(s):
		return false
	case s.Forced:
		return forcedMayBe(s)
	}
	return freeMayBe(s)
}

func refusedMayBe(s api.Saga) bool {
	noDef := s.Def.Name == "" && len(s.Def.Steps) == 0
	return all(noDef, len(s.Parts) == 0, isReason(s.Why), !s.Forced, isChild(s))
}

// partsMayBe tells whether there is a part for each step that can stand so, whatever the saga's Status.
func partsMayBe(s api.Saga) bool {
	if len(s.Parts) != len(s.Def.Steps) {
		return false
	}
	for i, p := range s.Parts {
		mayAsk := p.State != api.PartAsk || asks(s.Def.Steps[i])
		if !all(within(p.State, api.PartNone, api.PartKept), within(p.Tries, 0, api.MaxTries), mayAsk) {
			return false
		}
	}
	return true
}

// forcedMayBe is of a saga that was forced: what it asked for may stand in any way.
func forcedMayBe(s api.Saga) bool {
	if !within(s.Why, api.WhyNone, api.WhyFull) {
		return false
	}
	switch s.Status {
	case api.Committed:
		return each(s, func(asking bool, state int) bool { return asking || state != api.PartDone })
	case api.Compensated:
		return each(s, func(asking bool, state int) bool { return asking || state != api.PartDone && state != api.PartKept })
	}
	return false
}

// freeMayBe is of a saga that was not forced.
func freeMayBe(s api.Saga) bool {
	switch s.Status {
	case api.Running:
		return s.Why == api.WhyNone && runs(s)
	case api.Held:
		return s.Why == api.WhyNone && isChild(s) && each(s, isOver)
	case api.Committed:
		return s.Why == api.WhyNone && each(s, func(asking bool, state int) bool {
			return state == api.PartKept || asking && state == api.PartDone
		})
	case api.Undoing:
		return goesBack(s)
	case api.Stuck:
		return goesBack(s) && isJammed(s)
	case api.Compensated:
		return isReason(s.Why) && !anyIs(s.Parts, api.PartAsk, api.PartDone, api.PartKept)
	}
	return false
}

// each tells whether something holds of each part, whose step asks, or not, and which is in a state.
func each(s api.Saga, holds func(asking bool, state int) bool) bool {
	for i, p := range s.Parts {
		if !holds(asks(s.Def.Steps[i]), p.State) {
			return false
		}
	}
	return true
}

// isOver tells whether a part is one that lies behind a saga that runs: a child that it had may be gone since.
func isOver(asking bool, state int) bool {
	return state == api.PartDone || asking && state == api.PartGone
}

// runs tells whether the parts are first such that are over, then one that need not be, then such that were not begun.
func runs(s api.Saga) bool {
	at := 0
	for at < len(s.Parts) && isOver(asks(s.Def.Steps[at]), s.Parts[at].State) {
		at++
	}
	if at == len(s.Parts) {
		return true
	}
	begun := slices.ContainsFunc(s.Parts[at+1:], func(p api.Part) bool { return p != api.Part{} })
	return anyIs(s.Parts[at:at+1], api.PartNone, api.PartAsk) && !begun
}

func goesBack(s api.Saga) bool { return isReason(s.Why) && !anyIs(s.Parts, api.PartKept) }

func isJammed(s api.Saga) bool {
	at := currentOf(s)
	return at != noStep && !asks(s.Def.Steps[at]) && s.Parts[at].Tries == api.MaxTries
}

// currentOf tells the current step of a saga whose parts may be.
func currentOf(s api.Saga) int {
	switch s.Status {
	case api.Running:
		return slices.IndexFunc(s.Parts, func(p api.Part) bool { return p.State != api.PartDone })
	case api.Undoing, api.Stuck:
		for i, p := range slices.Backward(s.Parts) {
			if p.State == api.PartAsk || p.State == api.PartDone {
				return i
			}
		}
	}
	return noStep
}
