package saga

import (
	"fmt"
	"math/rand"
	"reflect"
	"slices"
	"strings"
	"testing"
	"unsafe"

	"entente/api"
)

// memory is a stretch of memory, and what has it.
type memory struct {
	from, behind uintptr
	what         string
}

// stretch is the memory of a list, its spare room too.
func stretch[T any](l []T, what string) memory {
	var one T
	from := uintptr(unsafe.Pointer(unsafe.SliceData(l)))
	return memory{from, from + uintptr(cap(l))*unsafe.Sizeof(one), what}
}

func textStretch(s, what string) memory {
	return stretch(unsafe.Slice(unsafe.StringData(s), len(s)), what)
}

func defMemory(what string, d api.Def) []memory {
	all := []memory{textStretch(d.Name, what+", name"), stretch(d.Steps, what+", steps")}
	for i, x := range d.Steps {
		all = append(all, textStretch(x.Sub, fmt.Sprintf("%s, sub %d", what, i)), textStretch(x.Act.Account, fmt.Sprintf("%s, account %d", what, i)))
	}
	return all
}

func sagaMemory(what string, s api.Saga) []memory {
	return append(defMemory(what, s.Def), stretch(s.Id.Hops, what+", hops"), stretch(s.Parts, what+", parts"))
}

func effectsMemory(what string, l []Effect) []memory {
	all := []memory{stretch(l, what)}
	for i, x := range l {
		all = append(all, textStretch(x.Key, fmt.Sprintf("%s, key %d", what, i)), textStretch(x.Act.Account, fmt.Sprintf("%s, account %d", what, i)))
	}
	return all
}

// holdApart sees that no stretch of new memory lies within another one, new or old.
func holdApart(t *testing.T, old, new []memory) {
	t.Helper()
	for i, a := range new {
		for _, b := range slices.Concat(old, new[i+1:]) {
			if a.from != a.behind && b.from != b.behind && a.from < b.behind && b.from < a.behind {
				t.Fatalf("%s shares memory with %s", a.what, b.what)
			}
		}
	}
}

// roomy has a list of the same elements with something else behind them, in its spare room.
func roomy[T any](l []T, other T) []T {
	return append(append(make([]T, 0, len(l)+5), l...), other, other)[:len(l)]
}

func roomyId(id api.Id) api.Id {
	id.Hops = roomy(id.Hops, api.Hop{Step: 91, Org: 92})
	return id
}

func roomyDef(d api.Def) api.Def {
	d.Name, d.Steps = strings.Clone(d.Name), roomy(d.Steps, own(93, 3))
	for i := range d.Steps {
		x := &d.Steps[i]
		x.Sub, x.Act.Account = strings.Clone(x.Sub), strings.Clone(x.Act.Account)
	}
	return d
}

// roomySaga has a saga that shares nothing with any other one, with spare room everywhere.
func roomySaga(s api.Saga) api.Saga {
	s.Id, s.Def, s.Parts = roomyId(s.Id), roomyDef(s.Def), roomy(s.Parts, api.Part{State: 94, Tries: 95})
	return s
}

// whole tells all that a saga has, its spare room too.
func whole(s api.Saga) string {
	return fmt.Sprint(s, s.Id.Hops[:cap(s.Id.Hops)], s.Def.Steps[:cap(s.Def.Steps)], s.Parts[:cap(s.Parts)])
}

// spoil changes all of a saga's memory, its spare room too.
func spoil(s api.Saga) {
	for i := range s.Id.Hops[:cap(s.Id.Hops)] {
		s.Id.Hops[:cap(s.Id.Hops)][i] = api.Hop{Step: -1, Org: -2}
	}
	for i := range s.Def.Steps[:cap(s.Def.Steps)] {
		s.Def.Steps[:cap(s.Def.Steps)][i] = api.Step{Org: -3}
	}
	for i := range s.Parts[:cap(s.Parts)] {
		s.Parts[:cap(s.Parts)][i] = api.Part{State: -4, Tries: -5}
	}
}

// ofMove has a move as a saga, so that it can be looked at, and spoilt, as one.
func ofMove(m api.Move) api.Saga { return api.Saga{Id: m.Id, Def: m.Def} }

// TestNewKeepsNothing: rule 4, what New is handed is not changed, and not kept.
func TestNewKeepsNothing(t *testing.T) {
	moves := []api.Move{{Kind: api.MoveRefuse, Id: childId(), Why: 8}, {Kind: api.MoveHold, Id: childId()}, {Kind: api.MoveRefuse, Id: rootId(), Why: 8}}
	for _, text := range []string{"R0 o-n", "R0/ a-n", "R0/ o-n a-n o-n a-n a-n o-n o-n a-n"} {
		moves = append(moves, api.Move{Kind: api.MoveBegin, Id: sagaOf(text).Id, Def: sagaOf(text).Def})
	}
	for _, x := range moves {
		m := x
		m.Id, m.Def = roomyId(x.Id), roomyDef(x.Def)
		was := whole(ofMove(m))
		got, e := New(m)
		again, _ := New(m)
		if whole(ofMove(m)) != was {
			t.Fatalf("New of %+v changed what it was handed", x)
		}
		holdApart(t, sagaMemory("the move", ofMove(m)), append(sagaMemory("what New answered", got), sagaMemory("the same again", again)...))
		told := fmt.Sprint(got)
		spoil(ofMove(m))
		spoil(again)
		if want, wantErr := New(x); e != wantErr || !same(got, want) || fmt.Sprint(got) != told {
			t.Fatalf("what New of %+v has answered is %+v", x, got)
		}
	}
}

// TestApplyKeepsNothing: rule 4, what Apply and Effects are handed is not changed, and not kept, and what they hand out is new memory.
func TestApplyKeepsNothing(t *testing.T) {
	made := 0
	for _, c := range sagas {
		for _, move := range append(movesOf(sagaOf(c.text).Id), movesOf(rootId())...) {
			s, m := roomySaga(sagaOf(c.text)), move
			m.Id = roomyId(move.Id)
			was, wasMove := whole(s), whole(ofMove(m))
			got, e := Apply(s, m)
			effects := Effects(s, m)
			if whole(s) != was || whole(ofMove(m)) != wasMove {
				t.Fatalf("%+v of %s changed what was handed in", move, c.text)
			}
			old := append(sagaMemory("the saga", s), sagaMemory("the move", ofMove(m))...)
			holdApart(t, old, append(sagaMemory("what follows", got), effectsMemory("the effects", effects)...))
			next, _ := Apply(got, m)
			Effects(got, m)
			holdApart(t, append(old, sagaMemory("what follows", got)...), sagaMemory("what follows on that", next))
			spoil(s)
			spoil(ofMove(m))
			spoil(next)
			want, wantEffects, wantErr := applyTold(sagaOf(c.text), move)
			if e != wantErr || !same(got, want) || !sameEffects(effects, wantEffects) {
				t.Fatalf("%+v of %s, once what was handed in is changed: %+v, %+v", move, c.text, got, effects)
			}
			if e == api.OK {
				made++
			}
		}
	}
	if made < 300 {
		t.Error(made)
	}
}

// TestLooksChangeNothing: rule 4, what May, Current, Ended and Key are handed is not changed.
func TestLooksChangeNothing(t *testing.T) {
	for _, c := range sagas {
		for _, x := range append(spoilt(sagaOf(c.text)), sagaOf(c.text)) {
			if s := roomySaga(x); len(s.Parts) < 20 {
				was := whole(s)
				checkSaga(t, s)
				for step := -1; step < 9; step++ {
					Key(s.Id, step)
				}
				if whole(s) != was {
					t.Fatalf("%+v was changed", x)
				}
			}
		}
	}
}

// TestAnswersStay: rule 4, what a call has answered is not changed by later calls.
func TestAnswersStay(t *testing.T) {
	r := rand.New(rand.NewSource(4))
	for range 50 {
		s := begun(t, "R0/ o2-n a-n o-n a-n o5-n")
		var told []api.Saga
		var texts []string
		for range 60 {
			next, e := Apply(s, anyMove(r, s))
			if e != api.OK {
				continue
			}
			s = next
			told, texts = append(told, s), append(texts, whole(s))
		}
		for i, x := range told {
			if whole(x) != texts[i] {
				t.Fatalf("what was answered as %s is now %s", texts[i], whole(x))
			}
		}
	}
}

// TestEmptyLists: rule 3, a list without an element may be nil or empty.
func TestEmptyLists(t *testing.T) {
	refused := api.Saga{Id: childId(), Def: api.Def{Steps: []api.Step{}}, Status: api.Refused, Why: 3, Parts: []api.Part{}}
	if e := May(refused); e != api.OK || !Ended(refused) || Current(refused) != -1 {
		t.Error(int(e))
	}
	m := api.Move{Kind: api.MoveRefuse, Id: childId(), Why: 3, Def: api.Def{Steps: []api.Step{}}}
	if s, e := New(m); e != api.OK || !same(s, refused) {
		t.Errorf("%+v, error %d", s, int(e))
	}
	nilHops, noHops := sagaOf("R0 o-n"), sagaOf("R0 o-n")
	noHops.Id.Hops = []api.Hop{}
	for _, s := range []api.Saga{nilHops, noHops} {
		for _, id := range []api.Id{nilHops.Id, noHops.Id} {
			m := api.Move{Kind: api.MoveDo, Id: id, Def: api.Def{Steps: []api.Step{}}}
			if next, e := Apply(s, m); e != api.OK || !same(next, sagaOf("R0 o-d")) || len(Effects(s, m)) != 1 {
				t.Errorf("%+v, error %d", next, int(e))
			}
		}
	}
}

// TestSameAgain: rule 5, the same calls answer the same.
func TestSameAgain(t *testing.T) {
	for _, c := range sagas {
		s := sagaOf(c.text)
		for _, m := range movesOf(s.Id) {
			a, e := Apply(s, m)
			l := Effects(s, m)
			b, f := Apply(s, m)
			if e != f || !reflect.DeepEqual(a, b) || !sameEffects(l, Effects(s, m)) {
				t.Fatalf("%+v of %s: %+v and %+v", m, c.text, a, b)
			}
		}
	}
}
