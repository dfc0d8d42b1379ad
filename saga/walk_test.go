package saga

import (
	"fmt"
	"math/rand"
	"slices"
	"strings"
	"testing"

	"entente/api"
	"entente/ledger"
)

// standing tells all that a saga can change.
func standing(s api.Saga) string { return fmt.Sprint(s.Status, s.Why, s.Forced, s.Parts) }

// reach goes from a beginning through all sagas that moves lead to, and calls a function with each of them; all that is reached is held against P21.1 to P21.7.
func reach(t *testing.T, first api.Saga, call func(api.Saga)) {
	t.Helper()
	seen := map[string]bool{standing(first): true}
	for todo := []api.Saga{first}; len(todo) > 0; todo = todo[1:] {
		s := todo[0]
		if !checkSaga(t, s) {
			t.Fatalf("P21.5: %+v may not be", s)
		}
		call(s)
		for _, m := range movesOf(s.Id) {
			if m.Kind == api.MoveBack && !slices.Contains([]int{api.WhyTries, api.WhyChild, api.WhyParent}, m.Why) {
				continue
			}
			if next, can := checkMove(t, s, m); can && !seen[standing(next)] {
				seen[standing(next)] = true
				todo = append(todo, next)
			}
		}
	}
}

// P21.5 to P21.7: whatever moves lead to from a beginning, of up to three steps of each sort, with a hop and without one.
func TestReach(t *testing.T) {
	for count := range 4 {
		product([]string{"o1-n", "a-n"}, count, func(row []string) {
			if count == 0 {
				row = []string{"o3-n"}
			}
			for _, head := range []string{"R0 ", "R0/ "} {
				statuses := map[int]int{}
				first := begun(t, head+strings.Join(row, " "))
				reach(t, first, func(s api.Saga) { statuses[s.Status]++ })
				owns := slices.ContainsFunc(first.Def.Steps, func(x api.Step) bool { return x.Sub == "" })
				for status := api.Running; status <= api.Compensated; status++ {
					want := (status != api.Held || len(first.Id.Hops) > 0) && (status != api.Stuck || owns)
					if (statuses[status] > 0) != want {
						t.Errorf("%s%v: status %d was reached %d times", head, row, status, statuses[status])
					}
				}
			}
		})
	}
}

// P21.5, P21.6: what is refused stays as it is, whatever is tried.
func TestRefusedStays(t *testing.T) {
	for why := 1; why <= 9; why++ {
		s, e := New(api.Move{Kind: api.MoveRefuse, Id: childId(), Why: why})
		if e != api.OK || !checkSaga(t, s) || !Ended(s) {
			t.Fatal(s, int(e))
		}
		for _, m := range movesOf(s.Id) {
			if _, can := checkMove(t, s, m); can {
				t.Errorf("%+v can be made by a saga that is refused", m)
			}
		}
	}
}

// P21.6: what is decided, and not forced, is never undecided again, nor decided otherwise, however many moves are tried.
func TestDecidedStays(t *testing.T) {
	for _, text := range []string{"C0 o-k a-d a-d", "C0/ a-d o-k a-k a-d", "X1 o-g a-n", "X7/ a-g o-g a-g", "C0 o-k", "X3 o-n"} {
		first := sagaOf(text)
		reach(t, first, func(s api.Saga) {
			if s.Status != first.Status || s.Forced || s.Why != first.Why {
				t.Errorf("%s leads to %+v", text, s)
			}
		})
	}
}

// P21.6: one that is held is Held till it is committed, or goes back by its parent, by a child that is gone, or by force.
func TestHeldStays(t *testing.T) {
	for _, text := range []string{"H0/ o-d a-d a-d", "H0/ a-g o-d a-d", "H0/ o-d o-d"} {
		for _, m := range movesOf(childId()) {
			s := sagaOf(text)
			gone := slices.ContainsFunc(s.Parts, func(p api.Part) bool { return p.State == api.PartGone })
			next, can := checkMove(t, s, m)
			want := map[int]bool{
				api.MoveLost:   m.Step < len(s.Parts) && !isOwnStep(s, min(m.Step, len(s.Parts)-1)) && s.Parts[min(m.Step, len(s.Parts)-1)].State == api.PartDone,
				api.MoveCommit: !gone,
				api.MoveBack:   m.Why == api.WhyParent || m.Why == api.WhyChild && gone,
				api.MoveForce:  true,
			}[m.Kind]
			if can != want || can && m.Kind == api.MoveLost && next.Status != api.Held {
				t.Errorf("%+v of %s: %v, %+v", m, text, can, next)
			}
		}
	}
}

// P21.7: the steps that are undone, one behind the other, go down, from a saga that has done any beginning of eight.
func TestReverseOrder(t *testing.T) {
	for _, steps := range []string{"oooooooo", "oaoaoaoa", "aaaaaaaa", "aaooaaoo"} {
		for done := range 9 {
			l := []string{"R0"}
			for i, c := range steps {
				l = append(l, string(c)+"-"+map[bool]string{true: "d", false: "n"}[i < done])
			}
			s := run(t, sagaOf(strings.Join(l, " ")), "back 6")
			for at := done - 1; at >= 0; at-- {
				if Current(s) != at {
					t.Fatalf("%s, %d done: the current step is %d; want %d", steps, done, Current(s), at)
				}
				kind := api.MoveUndo
				if steps[at] == 'a' {
					kind = api.MoveLost
				}
				for i := range 8 {
					m := api.Move{Kind: api.MoveUndo, Id: s.Id, Step: i}
					if _, can := checkMove(t, s, m); can != (i == at && kind == api.MoveUndo) {
						t.Fatalf("%+v of %+v: %v", m, s, can)
					}
				}
				next, can := checkMove(t, s, api.Move{Kind: kind, Id: s.Id, Step: at})
				if _, ends := checkMove(t, s, api.Move{Kind: api.MoveEnd, Id: s.Id}); !can || ends {
					t.Fatalf("%+v", s)
				}
				s = next
			}
			if s = run(t, s, "end"); !Ended(s) || s.Status != api.Compensated {
				t.Fatalf("%+v", s)
			}
		}
	}
}

// marksTold tells the marks that a saga's parts ask for, by its keys.
func marksTold(s api.Saga) map[string]int {
	marks := map[string]int{}
	for i, p := range s.Parts {
		if state := map[int]int{api.PartDone: api.MarkDone, api.PartGone: api.MarkUndone, api.PartKept: api.MarkKept}[p.State]; isOwnStep(s, i) && state > 0 {
			marks[keyTold(s.Id, i)] = state
		}
	}
	return marks
}

// write does effects in a ledger.
func write(l api.Ledger, effects []Effect) (api.Ledger, api.Errno) {
	e := api.OK
	for _, x := range effects {
		switch x.What {
		case api.MarkDone:
			l, e = ledger.Do(l, x.Key, x.Act)
		case api.MarkUndone:
			l, e = ledger.Undo(l, x.Key)
		case api.MarkKept:
			l, e = ledger.Keep(l, x.Key)
		}
		if e != api.OK {
			return l, e
		}
	}
	return l, e
}

// anyMove is a move by chance, most often one that can be made.
func anyMove(r *rand.Rand, s api.Saga) api.Move {
	moves := movesOf(s.Id)
	for range 30 {
		m := moves[r.Intn(len(moves))]
		if m.Kind != api.MoveForce && m.Step > 0 || m.Kind == api.MoveKept || m.Kind == api.MoveLost {
			m.Step = r.Intn(api.MaxSteps)
		}
		if at := Current(s); at >= 0 && m.Why == 0 && m.Kind != api.MoveForce && m.Kind != api.MoveHold && m.Kind != api.MoveCommit && m.Kind != api.MoveAgain && m.Kind != api.MoveEnd && r.Intn(4) > 0 {
			m.Step = at
		}
		if m.Kind == api.MoveForce && r.Intn(8) > 0 || m.Kind == api.MoveBack && r.Intn(6) > 0 {
			continue
		}
		if _, e := Apply(s, m); e == api.OK {
			return m
		}
	}
	return moves[r.Intn(len(moves))]
}

// P21.4 to P21.7: long rows of moves by chance, of up to eight steps, whose effects are written into a ledger, which always has just the marks that the parts ask for.
func TestWalks(t *testing.T) {
	r := rand.New(rand.NewSource(7))
	ended := map[int]int{}
	for range 250 {
		l := []string{[]string{"R0", "R0/"}[r.Intn(2)]}
		for range 1 + r.Intn(8) {
			l = append(l, []string{"o2-n", "o5-n", "a-n"}[r.Intn(3)])
		}
		s := begun(t, strings.Join(l, " "))
		book := api.Ledger{}
		for i := range 8 {
			book, _ = ledger.Open(book, fmt.Sprint("cash", i), 40)
		}
		for range 60 {
			m := anyMove(r, s)
			next, can := checkMove(t, s, m)
			changed, e := write(book, Effects(s, m))
			if !can || e != api.OK && m.Kind == api.MoveDo {
				continue // what a ledger refuses to do, a saga does not do either
			}
			if e != api.OK {
				t.Fatalf("the ledger answers error %d to %+v of %+v", int(e), m, s)
			}
			s, book = next, changed
			have := map[string]int{}
			for _, x := range book.Marks {
				have[x.Key] = x.State
			}
			if want := marksTold(s); fmt.Sprint(have) != fmt.Sprint(want) {
				t.Fatalf("%+v has the marks %v; want %v", s, have, want)
			}
		}
		if Ended(s) {
			ended[s.Status]++
		}
	}
	if ended[api.Committed] < 20 || ended[api.Compensated] < 20 {
		t.Errorf("%v", ended)
	}
}
