package saga

import (
	"fmt"
	"reflect"
	"slices"
	"strings"
	"testing"

	"entente/api"
	"entente/def"
	"entente/ident"
	"entente/record"
)

// This file reads the chapter a second time, by its words, and has a short way to write sagas and moves down.

// words has the words of the kinds of moves, from 1 on.
var words = strings.Split(" begin refuse fail do ask got lost hold commit back undo jam again end kept force", " ")

const (
	statusLetters = " RHCUSXF" // those of the seven statuses, from 1 on: X is Compensated, F Refused
	stateLetters  = "nadgk"    // those of the states of parts, from 0 on
)

// The ids that stand for one without a hop, and one with hops.
func rootId() api.Id { return api.Id{Root: 4, N: 7} }
func childId() api.Id {
	return api.Id{Root: 0, N: 7, Hops: []api.Hop{{Step: 2, Org: 3}, {Step: 0, Org: 5}}}
}

func own(tries, number int) api.Step {
	return api.Step{Act: api.Act{Kind: 1 + number%4, Account: fmt.Sprint("cash", number), Amount: int64(10 + number)}, Tries: tries}
}

func ask(number int) api.Step {
	return api.Step{Org: number, Sub: fmt.Sprint("sub", number), Wait: 20}
}

// sagaOf reads a saga: its Status' letter and its Why, a ! if it is Forced, a / if it has hops; and for each step a word: o and its Tries (3, if they are left out) or a, a minus, the letter of its part's state, the part's Tries (0, if they are left out).
func sagaOf(text string) api.Saga {
	l := strings.Fields(text)
	s := api.Saga{Id: rootId(), Status: strings.Index(statusLetters, l[0][:1])}
	fmt.Sscanf(l[0][1:], "%d", &s.Why)
	s.Forced = strings.Contains(l[0], "!")
	if strings.Contains(l[0], "/") {
		s.Id = childId()
	}
	for i, word := range l[1:] {
		step, part, _ := strings.Cut(word, "-")
		p := api.Part{State: strings.Index(stateLetters, part[:1])}
		fmt.Sscanf(part[1:], "%d", &p.Tries)
		s.Parts = append(s.Parts, p)
		tries := 3
		fmt.Sscanf(step[1:], "%d", &tries)
		if step[0] == 'a' {
			s.Def.Steps = append(s.Def.Steps, ask(i))
		} else {
			s.Def.Steps = append(s.Def.Steps, own(tries, i))
		}
	}
	if len(s.Parts) > 0 {
		s.Def.Name = "trip"
	}
	return s
}

// moveOf reads a move of a saga: the word of its kind and, if it has one, its Step or its Why.
func moveOf(id api.Id, text string) api.Move {
	var word string
	n := 0
	fmt.Sscan(text, &word, &n)
	m := api.Move{Kind: slices.Index(words, word), Id: id}
	if m.Kind == api.MoveBack || m.Kind == api.MoveRefuse {
		m.Why = n
	} else {
		m.Step = n
	}
	return m
}

// plain has a saga with nil for each list that has no element, so that sagas can be held against each other.
func plain(s api.Saga) api.Saga {
	if len(s.Id.Hops) == 0 {
		s.Id.Hops = nil
	}
	if len(s.Def.Steps) == 0 {
		s.Def.Steps = nil
	}
	if len(s.Parts) == 0 {
		s.Parts = nil
	}
	return s
}

func same(a, b api.Saga) bool { return reflect.DeepEqual(plain(a), plain(b)) }

func sameEffects(a, b []Effect) bool { return slices.Equal(a, b) }

// again has a saga with lists of its own.
func again(s api.Saga) api.Saga {
	s.Id.Hops = slices.Clone(s.Id.Hops)
	s.Def.Steps = slices.Clone(s.Def.Steps)
	s.Parts = slices.Clone(s.Parts)
	return s
}

func isOwnStep(s api.Saga, i int) bool { return s.Def.Steps[i].Sub == "" }

// statesOf has the states of the parts of own steps, or of those that ask.
func statesOf(s api.Saga, owns bool) []int {
	var l []int
	for i, p := range s.Parts {
		if isOwnStep(s, i) == owns {
			l = append(l, p.State)
		}
	}
	return l
}

// allAmong tells whether all of some numbers are among others.
func allAmong(l []int, among ...int) bool {
	return !slices.ContainsFunc(l, func(n int) bool { return !slices.Contains(among, n) })
}

// mayTold tells whether a saga may be.
func mayTold(s api.Saga) bool {
	if ident.Check(s.Id) != api.OK {
		return false
	}
	why, anyWhy := s.Why >= 1 && s.Why <= 9, s.Why >= 0 && s.Why <= 9
	if s.Status == api.Refused {
		return s.Def.Name == "" && len(s.Def.Steps) == 0 && len(s.Parts) == 0 && why && !s.Forced && len(s.Id.Hops) > 0
	}
	if def.Check(s.Def) != api.OK || len(s.Parts) != len(s.Def.Steps) {
		return false
	}
	for _, p := range s.Parts {
		if p.State < 0 || p.State > 4 || p.Tries < 0 || p.Tries > 5 {
			return false
		}
	}
	owns, asking := statesOf(s, true), statesOf(s, false)
	if slices.Contains(owns, api.PartAsk) {
		return false
	}
	over := allAmong(owns, api.PartDone) && allAmong(asking, api.PartDone, api.PartGone)
	back := !s.Forced && why && !slices.Contains(owns, api.PartKept) && !slices.Contains(asking, api.PartKept)
	switch s.Status {
	case api.Running:
		return !s.Forced && s.Why == 0 && runsTold(s)
	case api.Held:
		return !s.Forced && s.Why == 0 && len(s.Id.Hops) > 0 && over
	case api.Committed:
		if s.Forced {
			return anyWhy && !slices.Contains(owns, api.PartDone)
		}
		return s.Why == 0 && allAmong(owns, api.PartKept) && allAmong(asking, api.PartDone, api.PartKept)
	case api.Undoing:
		return back
	case api.Stuck:
		current := currentTold(s)
		return back && current >= 0 && isOwnStep(s, current) && s.Parts[current].Tries == 5
	case api.Compensated:
		if s.Forced {
			return anyWhy && !slices.Contains(owns, api.PartDone) && !slices.Contains(owns, api.PartKept)
		}
		return why && allAmong(owns, api.PartNone, api.PartGone) && allAmong(asking, api.PartNone, api.PartGone)
	}
	return false
}

// runsTold tries each number up to which the parts could be over.
func runsTold(s api.Saga) bool {
	for number := range len(s.Parts) + 1 {
		fits := true
		for i, p := range s.Parts {
			asks := !isOwnStep(s, i)
			switch {
			case i < number:
				fits = fits && (p.State == api.PartDone || asks && p.State == api.PartGone)
			case i == number:
				fits = fits && (p.State == api.PartNone || asks && (p.State == api.PartAsk || p.State == api.PartGone))
			default:
				fits = fits && p.State == api.PartNone && p.Tries == 0
			}
		}
		if fits {
			return true
		}
	}
	return false
}

// currentTold tells the current step of a saga whose parts may be.
func currentTold(s api.Saga) int {
	current := -1
	for i, p := range s.Parts {
		switch s.Status {
		case api.Running:
			if p.State != api.PartDone && current == -1 {
				current = i
			}
		case api.Undoing, api.Stuck:
			if p.State == api.PartAsk || p.State == api.PartDone {
				current = i
			}
		}
	}
	return current
}

// endedTold tells whether a saga that may be is ended.
func endedTold(s api.Saga) bool {
	has := func(state int) bool {
		return slices.ContainsFunc(s.Parts, func(p api.Part) bool { return p.State == state })
	}
	switch s.Status {
	case api.Refused:
		return true
	case api.Compensated:
		return !has(api.PartAsk) && !has(api.PartDone)
	case api.Committed:
		return !has(api.PartDone) && !(s.Forced && has(api.PartAsk))
	}
	return false
}

// keyTold is the key of a step of an id that may be.
func keyTold(id api.Id, step int) string {
	text := fmt.Sprintf("%d.%d", id.Root, id.N)
	for _, h := range id.Hops {
		text += fmt.Sprintf("/%d@%d", h.Step, h.Org)
	}
	return fmt.Sprintf("%s#%d", text, step)
}

// applyTold tells what follows, and what the move does in the ledger, by the rows of the chapter's table.
func applyTold(s api.Saga, m api.Move) (api.Saga, []Effect, api.Errno) {
	if !mayTold(s) {
		return api.Saga{}, nil, api.ErrState
	}
	next := again(s)
	if record.Move(m) != api.OK || !reflect.DeepEqual(plain(api.Saga{Id: m.Id}), plain(api.Saga{Id: s.Id})) || !madeTold(s, m, &next) {
		return api.Saga{}, nil, api.ErrMove
	}
	return next, effectsTold(s, m), api.OK
}

// madeTold tells whether a move of a saga's own id can be made, and makes it in next.
func madeTold(s api.Saga, m api.Move, next *api.Saga) bool {
	current := currentTold(s)
	has := func(state int) bool { return slices.Contains(append(statesOf(s, true), statesOf(s, false)...), state) }
	in := func(statuses ...int) bool { return slices.Contains(statuses, s.Status) }
	var part api.Part
	isOwn, asks, at := false, false, &api.Part{}
	if m.Step < len(s.Parts) {
		isOwn, asks = isOwnStep(s, m.Step), !isOwnStep(s, m.Step)
		part, at = s.Parts[m.Step], &next.Parts[m.Step]
	}
	isCurrent := (isOwn || asks) && m.Step == current
	noTries := func() {
		for i := range next.Parts {
			next.Parts[i].Tries = 0
		}
	}
	ownTo := func(from, to int) {
		for i, p := range s.Parts {
			if isOwnStep(s, i) && (p.State == from || from < 0) {
				next.Parts[i].State = to
			}
		}
	}
	can := false
	switch m.Kind {
	case api.MoveFail:
		can = isCurrent && isOwn && (in(api.Running) && part.Tries < s.Def.Steps[m.Step].Tries || in(api.Undoing) && part.Tries < 5)
		at.Tries = part.Tries + 1
	case api.MoveDo:
		can = in(api.Running) && isCurrent && isOwn
		*at = api.Part{State: api.PartDone}
	case api.MoveAsk:
		can = in(api.Running) && isCurrent && asks && part.State == api.PartNone
		at.State = api.PartAsk
	case api.MoveGot:
		can = in(api.Running) && isCurrent && part.State == api.PartAsk
		at.State = api.PartDone
	case api.MoveLost:
		can = (in(api.Running, api.Held, api.Undoing, api.Stuck) || s.Forced) && asks && (part.State == api.PartAsk || part.State == api.PartDone)
		at.State = api.PartGone
	case api.MoveHold:
		can = in(api.Running) && len(s.Id.Hops) > 0 && current == -1 && !has(api.PartGone)
		next.Status = api.Held
	case api.MoveCommit:
		can = in(api.Running) && len(s.Id.Hops) == 0 && current == -1 && !has(api.PartGone) || in(api.Held) && !has(api.PartGone)
		next.Status = api.Committed
		ownTo(-1, api.PartKept)
	case api.MoveBack:
		can = in(api.Running) || in(api.Held) && (m.Why == api.WhyParent || m.Why == api.WhyChild && has(api.PartGone))
		next.Status, next.Why = api.Undoing, m.Why
		noTries()
	case api.MoveUndo:
		can = in(api.Undoing) && isCurrent && isOwn
		*at = api.Part{State: api.PartGone}
	case api.MoveJam:
		can = in(api.Undoing) && isCurrent && isOwn && part.Tries == 5
		next.Status = api.Stuck
	case api.MoveAgain:
		if can = in(api.Stuck); can {
			next.Status, next.Parts[current].Tries = api.Undoing, 0
		}
	case api.MoveEnd:
		can = in(api.Undoing) && current == -1
		next.Status = api.Compensated
	case api.MoveKept:
		can = in(api.Committed) && asks && part.State == api.PartDone
		at.State = api.PartKept
	case api.MoveForce:
		can = in(api.Running, api.Held, api.Undoing, api.Stuck)
		next.Status, next.Forced = []int{api.Compensated, api.Committed}[m.Step], true
		ownTo(api.PartDone, []int{api.PartGone, api.PartKept}[m.Step])
		noTries()
	}
	return can
}

// effectsTold tells what a move that can be made does in the ledger.
func effectsTold(s api.Saga, m api.Move) []Effect {
	var l []Effect
	for i, p := range s.Parts {
		isOwn, what := isOwnStep(s, i), 0
		switch {
		case m.Kind == api.MoveDo && m.Step == i:
			what = api.MarkDone
		case m.Kind == api.MoveUndo && m.Step == i:
			what = api.MarkUndone
		case m.Kind == api.MoveCommit && isOwn, m.Kind == api.MoveForce && isOwn && p.State == api.PartDone && m.Step == 1:
			what = api.MarkKept
		case m.Kind == api.MoveForce && isOwn && p.State == api.PartDone && m.Step == 0:
			what = api.MarkUndone
		}
		if what > 0 {
			l = append(l, Effect{What: what, Key: keyTold(s.Id, i), Act: s.Def.Steps[i].Act})
		}
	}
	return l
}

// checkSaga holds May, Current and Ended of a saga against the chapter's words, and tells whether it may be.
func checkSaga(t *testing.T, s api.Saga) bool {
	t.Helper()
	want, current, ended := api.ErrState, -1, false
	may := mayTold(s)
	if may {
		want, current, ended = api.OK, currentTold(s), endedTold(s)
	}
	if e := May(s); e != want {
		t.Fatalf("May(%+v): error %d; want %d", s, int(e), int(want))
	}
	if n := Current(s); n != current {
		t.Fatalf("Current(%+v) = %d; want %d", s, n, current)
	}
	if b := Ended(s); b != ended {
		t.Fatalf("Ended(%+v): %v", s, b)
	}
	return may
}

// checkMove holds Apply and Effects against the chapter's words, and what follows against P21.5 to P21.7; it tells what follows.
func checkMove(t *testing.T, s api.Saga, m api.Move) (api.Saga, bool) {
	t.Helper()
	want, effects, e := applyTold(s, m)
	got, have := Apply(s, m)
	if have != e || !same(got, want) {
		t.Fatalf("Apply(%+v, %+v) = %+v, error %d; want %+v, %d", s, m, got, int(have), want, int(e))
	}
	if l := Effects(s, m); !sameEffects(l, effects) {
		t.Fatalf("Effects(%+v, %+v) = %+v; want %+v", s, m, l, effects)
	}
	if e != api.OK {
		return got, false
	}
	checkStep(t, s, m, got)
	return got, true
}

// checkStep holds what follows on a move against P21.5 to P21.7, and against what the move does in the ledger.
func checkStep(t *testing.T, s api.Saga, m api.Move, next api.Saga) {
	t.Helper()
	if e := May(next); e != api.OK || !mayTold(next) {
		t.Fatalf("P21.5: %+v leads from %+v to %+v, which may not be", m, s, next)
	}
	if !reflect.DeepEqual(next.Id, s.Id) || !reflect.DeepEqual(next.Def, s.Def) || s.Forced && !next.Forced {
		t.Fatalf("%+v leads from %+v to %+v", m, s, next)
	}
	decided := s.Status == api.Committed || s.Status == api.Compensated || s.Status == api.Refused
	if decided && (next.Status != s.Status || next.Forced != s.Forced || next.Why != s.Why) {
		t.Fatalf("P21.6: %+v leads from %+v to %+v", m, s, next)
	}
	if s.Status == api.Held && !heldFollows(s, m, next) {
		t.Fatalf("P21.6: %+v leads from %+v to %+v", m, s, next)
	}
	if m.Kind != api.MoveForce && (m.Kind != api.MoveLost || m.Step == Current(s)) && !inOrder(s, next) {
		t.Fatalf("P21.7: %+v leads from %+v to %+v", m, s, next)
	}
	if l := Effects(s, m); !sameEffects(l, changesTold(s, next)) {
		t.Fatalf("%+v leads from %+v to %+v, with the effects %+v", m, s, next, l)
	}
}

// heldFollows tells whether P21.6 lets something follow on a saga that is held.
func heldFollows(s api.Saga, m api.Move, next api.Saga) bool {
	switch {
	case next.Forced:
		return m.Kind == api.MoveForce
	case next.Status == api.Held:
		return next.Why == s.Why
	case next.Status == api.Committed:
		return m.Kind == api.MoveCommit
	case next.Status == api.Undoing:
		lost := slices.Contains(statesOf(s, false), api.PartGone)
		return next.Why == api.WhyParent || next.Why == api.WhyChild && lost
	}
	return false
}

// inOrder tells whether no part becomes PartGone ahead of one that is PartAsk or PartDone.
func inOrder(s, next api.Saga) bool {
	for i, p := range next.Parts {
		if p.State != api.PartGone || s.Parts[i].State == api.PartGone {
			continue
		}
		for _, q := range next.Parts[i+1:] {
			if q.State == api.PartAsk || q.State == api.PartDone {
				return false
			}
		}
	}
	return true
}

// changesTold tells from the parts of own steps alone what was done in the ledger.
func changesTold(s, next api.Saga) []Effect {
	marks := map[int]int{api.PartDone: api.MarkDone, api.PartGone: api.MarkUndone, api.PartKept: api.MarkKept}
	var l []Effect
	for i, p := range next.Parts {
		if isOwnStep(s, i) && p.State != s.Parts[i].State {
			l = append(l, Effect{What: marks[p.State], Key: keyTold(s.Id, i), Act: s.Def.Steps[i].Act})
		}
	}
	return l
}
