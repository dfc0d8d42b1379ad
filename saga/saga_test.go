package saga

import (
	"math"
	"math/rand"
	"reflect"
	"slices"
	"strings"
	"testing"

	"entente/api"
	"entente/ident"
	"entente/record"
)

// run makes moves, each of which can be made.
func run(t *testing.T, s api.Saga, moves ...string) api.Saga {
	t.Helper()
	for _, move := range moves {
		next, e := Apply(s, moveOf(s.Id, move))
		if e != api.OK {
			t.Fatalf("%s of %+v: error %d", move, s, int(e))
		}
		s = next
	}
	return s
}

// begun begins a saga with the id and the definition of another one.
func begun(t *testing.T, text string) api.Saga {
	t.Helper()
	like := sagaOf(text)
	s, e := New(api.Move{Kind: api.MoveBegin, Id: like.Id, Def: like.Def})
	if e != api.OK || !same(s, like) {
		t.Fatalf("%s begins as %+v, error %d", text, s, int(e))
	}
	return s
}

// The chapter's examples.
func TestExamples(t *testing.T) {
	s := run(t, begun(t, "R0 o-n a-n"), "do 0", "ask 1", "got 1", "commit")
	if !same(s, sagaOf("C0 o-k a-d")) || Ended(s) {
		t.Errorf("%+v, ended: %v", s, Ended(s))
	}
	if s = run(t, s, "kept 1"); !same(s, sagaOf("C0 o-k a-k")) || !Ended(s) {
		t.Errorf("%+v, ended: %v", s, Ended(s))
	}
	s = run(t, begun(t, "R0 o-n a-n"), "do 0", "ask 1", "back 6", "lost 1", "undo 0", "end")
	if !same(s, sagaOf("X6 o-g a-g")) || !Ended(s) {
		t.Errorf("%+v, ended: %v", s, Ended(s))
	}
}

// sagas have sagas that may be: their current steps, and whether they are ended.
var sagas = []struct {
	text    string
	current int
	ended   bool
}{
	{"F1/", -1, true}, {"F9/", -1, true},
	{"R0 o-n", 0, false}, {"R0/ o-n", 0, false}, {"R0 a-n", 0, false}, {"R0 a-a", 0, false}, {"R0 a-g", 0, false}, {"R0 o-d", -1, false}, {"R0 a-d", -1, false},
	{"R0 o1-n5", 0, false}, {"R0 o5-n5", 0, false}, {"R0 a-n5", 0, false}, {"R0 o-d5", -1, false}, {"R0 a-a5", 0, false}, {"R0 a-g5", 0, false},
	{"R0 o-d o-n", 1, false}, {"R0 a-d a-a", 1, false}, {"R0 a-g a-a", 0, false}, {"R0 a-g o-d a-g o-n5", 0, false}, {"R0 o-d a-g a-d a-a", 1, false}, {"R0 o-d a-g a-n o-n", 1, false},
	{"R0 o-d a-g", 1, false}, {"R0 o-d a-d o-n3 a-n o-n", 2, false}, {"R0 o-d a-d o-d a-d o-d a-d o-d a-a", 7, false}, {"R0 o-d o-d o-d o-d o-d o-d o-d o-d", -1, false},
	{"H0/ o-d", -1, false}, {"H0/ a-d", -1, false}, {"H0/ a-g", -1, false}, {"H0/ o-d5 a-g a-d a-g5", -1, false},
	{"C0 o-k", -1, true}, {"C0/ o-k5 a-k", -1, true}, {"C0 a-d", -1, false}, {"C0 o-k a-d a-k", -1, false}, {"C0 a-k5", -1, true},
	{"C0! o-n", -1, true}, {"C9! o-g", -1, true}, {"C0! o-k", -1, true}, {"C1!/ a-n a-g a-k", -1, true}, {"C0! o-k a-a", -1, false}, {"C0! o-g a-d a-k", -1, false}, {"C5! a-d5", -1, false},
	{"U1 o-n", -1, false}, {"U9 o-d", 0, false}, {"U1/ o-g", -1, false}, {"U3 a-a", 0, false}, {"U3 a-d", 0, false}, {"U3 a-g", -1, false}, {"U3 a-n", -1, false},
	{"U7/ o-d a-d o-n", 1, false}, {"U7 o-d5 a-a a-g", 1, false}, {"U7 o-d5 a-g o-g5", 0, false}, {"U7 o-n a-a o-n a-g", 1, false}, {"U1 o-d5", 0, false}, {"U1 o1-d5 o-d5", 1, false},
	{"S1 o-d5", 0, false}, {"S9/ o1-d5", 0, false}, {"S7 a-d o-d5", 1, false}, {"S7 a-a o-d5 a-g o-n", 1, false}, {"S7 o-d5 o-n5", 0, false},
	{"X1 o-n", -1, true}, {"X9/ o-g", -1, true}, {"X5 a-g a-n", -1, true}, {"X5 o-g5 a-g5 o-n5", -1, true},
	{"X0! o-n", -1, true}, {"X9! o-g", -1, true}, {"X0!/ a-a", -1, false}, {"X0! a-d", -1, false}, {"X0! a-k a-g a-n", -1, true}, {"X0! o-g a-k a-d", -1, false},
}

// strangers are sagas that may not be, each for one reason.
var strangers = []string{
	"F0/", "F10/", "F-1/", "F1", "F1!/", "F1/ o-n", "F1/ a-g",
	"R0", "H0/", "C0", "U1", "S1", "X1", "C0!", "X0!",
	"R1 o-n", "R9 o-n", "R-1 o-n", "R0! o-n", "R0 o-g", "R0 o-k", "R0 o-a", "R0 a-k", "R0 o-n6", "R0 a-n6", "R0 o-n-1", "R0 a-a-1", "R0 o-d6", "R0 o-d-1",
	"R0 o-n o-d", "R0 o-n a-g", "R0 a-n a-a", "R0 a-a a-a", "R0 a-a a-d", "R0 a-a a-g", "R0 o-d o-n o-n1", "R0 a-a a-n1", "R0 a-g a-n1 a-n1", "R0 o-d o-n o-d", "R0 a-d o-g", "R0 a-d o-k", "R0 a-k o-n",
	"R0 o-n o-n o-n o-n o-n o-n o-n o-n5", "R0 o-d o-d o-d o-d o-d o-d o-d o-d o-n",
	"H0 o-d", "H1/ o-d", "H-1/ o-d", "H0!/ o-d", "H0/ o-n", "H0/ o-g", "H0/ o-k", "H0/ a-n", "H0/ a-a", "H0/ a-k", "H0/ o-a", "H0/ o-d o-g", "H0/ o-d6", "H0/ o-d-1",
	"C1 o-k", "C-1 o-k", "C0 o-n", "C0 o-d", "C0 o-g", "C0 o-a", "C0 a-n", "C0 a-a", "C0 a-g", "C0 o-k a-g", "C0 a-k o-d", "C0 o-k6", "C0 o-k-1",
	"C0! o-d", "C10! o-k", "C-1! o-k", "C0! o-a", "C0! o-k o-d", "C0! a-a6", "C0! a-a-1",
	"U0 o-d", "U10 o-d", "U-1 o-d", "U1! o-d", "U1 o-k", "U1 a-k", "U1 o-a", "U1 o-d o-k", "U1 o-d6", "U1 o-d-1",
	"S0 o-d5", "S10 o-d5", "S1! o-d5", "S1 o-d4", "S1 o-d0", "S1 o-d6", "S1 o-n5", "S1 o-g5", "S1 a-d5", "S1 a-a5", "S1 o-d5 a-d", "S1 o-d5 a-a5", "S1 o-d5 o-d4", "S1 o-n5 a-g5", "S1 o-d5 o-k", "S1 a-k o-d5",
	"X0 o-g", "X10 o-g", "X-1 o-g", "X1 o-d", "X1 o-k", "X1 o-a", "X1 a-a", "X1 a-d", "X1 a-k", "X1 o-g6", "X1 o-g-1",
	"X0! o-d", "X0! o-k", "X0! o-a", "X10! o-g", "X-1! o-g", "X0! o-g o-k", "X0! a-d6", "X0! a-d-1",
}

// P21.1: sagas that may be, each sort of each status, and such that may not.
func TestMay(t *testing.T) {
	for _, c := range sagas {
		s := sagaOf(c.text)
		if e := May(s); e != api.OK || Current(s) != c.current || Ended(s) != c.ended {
			t.Errorf("%s: error %d, current %d, ended %v", c.text, int(e), Current(s), Ended(s))
		}
		checkSaga(t, s)
	}
	for _, text := range strangers {
		s := sagaOf(text)
		if e := May(s); e != api.ErrState || Current(s) != -1 || Ended(s) {
			t.Errorf("%s: error %d, current %d, ended %v", text, int(e), Current(s), Ended(s))
		}
		checkSaga(t, s)
	}
}

// spoilt has sagas that may not be, made of one that may, each by one field.
func spoilt(s api.Saga) []api.Saga {
	var l []api.Saga
	add := func(change func(*api.Saga)) {
		c := again(s)
		change(&c)
		l = append(l, c)
	}
	for _, n := range []int{math.MinInt, -1, 0, 1000000, math.MaxInt} {
		add(func(c *api.Saga) { c.Id.N = n })
	}
	for _, n := range []int{math.MinInt, -1, 16, math.MaxInt} {
		add(func(c *api.Saga) { c.Id.Root = n })
		add(func(c *api.Saga) { c.Id.Hops = append(c.Id.Hops, api.Hop{Step: 1, Org: n}) })
	}
	for _, n := range []int{math.MinInt, -1, 8, math.MaxInt} {
		add(func(c *api.Saga) { c.Id.Hops = append(c.Id.Hops, api.Hop{Step: n, Org: 9}) })
	}
	add(func(c *api.Saga) { c.Id.Hops = append(c.Id.Hops, api.Hop{Step: 1, Org: c.Id.Root}) })
	add(func(c *api.Saga) { c.Id.Hops = append(c.Id.Hops, make([]api.Hop, 5)...) })
	for _, n := range []int{math.MinInt, -1, 0, 8, 9, 1 << 32, 1<<32 + 1, math.MaxInt} {
		add(func(c *api.Saga) { c.Status = n })
	}
	for _, n := range []int{math.MinInt, -1, 10, 1 << 32, math.MaxInt} {
		add(func(c *api.Saga) { c.Why = n })
	}
	add(func(c *api.Saga) { c.Parts = append(c.Parts, api.Part{}) })
	add(func(c *api.Saga) { c.Parts = append(c.Parts, api.Part{State: api.PartDone}) })
	add(func(c *api.Saga) { c.Parts = make([]api.Part, 1000) })
	if s.Status == api.Refused {
		add(func(c *api.Saga) { c.Id.Hops = nil })
		add(func(c *api.Saga) { c.Forced = true })
		add(func(c *api.Saga) { c.Def.Name = "trip" })
		add(func(c *api.Saga) { c.Def.Steps = []api.Step{{}} })
		add(func(c *api.Saga) { c.Def = sagaOf("R0 o-n").Def })
		return l
	}
	add(func(c *api.Saga) { c.Def = api.Def{} })
	add(func(c *api.Saga) { c.Def, c.Parts = api.Def{}, nil })
	add(func(c *api.Saga) { c.Def.Name = "" })
	add(func(c *api.Saga) { c.Def.Name = "Trip" })
	add(func(c *api.Saga) { c.Def.Steps, c.Parts = nil, nil })
	add(func(c *api.Saga) { c.Def.Steps, c.Parts = []api.Step{}, []api.Part{} })
	add(func(c *api.Saga) { c.Parts = nil })
	add(func(c *api.Saga) { c.Parts = c.Parts[:len(c.Parts)-1] })
	add(func(c *api.Saga) { c.Def.Steps = c.Def.Steps[:len(c.Parts)-1] })
	add(func(c *api.Saga) { c.Def.Steps = append(c.Def.Steps, own(1, 0)) })
	add(func(c *api.Saga) {
		for len(c.Parts) < 9 {
			c.Parts, c.Def.Steps = append(c.Parts, c.Parts[0]), append(c.Def.Steps, c.Def.Steps[0])
		}
	})
	for i := range s.Parts {
		for _, n := range []int{math.MinInt, -1, 5, 6, 1 << 32, 1<<32 + 2, math.MaxInt} {
			add(func(c *api.Saga) { c.Parts[i].State = n })
		}
		for _, n := range []int{math.MinInt, -1, 6, 1 << 32, math.MaxInt} {
			add(func(c *api.Saga) { c.Parts[i].Tries = n })
		}
		add(func(c *api.Saga) { c.Def.Steps[i].Act.Kind = 7 })
		add(func(c *api.Saga) { c.Def.Steps[i].Tries = 6 })
		add(func(c *api.Saga) { c.Def.Steps[i].Tries = -1 })
		add(func(c *api.Saga) { c.Def.Steps[i].Wait = 51 })
		add(func(c *api.Saga) { c.Def.Steps[i].Org = -1 })
		add(func(c *api.Saga) { c.Def.Steps[i] = api.Step{} })
		add(func(c *api.Saga) {
			if c.Def.Steps[i].Sub = "Sub"; isOwnStep(s, i) {
				c.Def.Steps[i].Sub = "sub"
			}
		})
	}
	return l
}

// P21.1 to P21.4: what is spoilt in one field may not be, and no call takes it.
func TestSpoilt(t *testing.T) {
	for _, c := range sagas {
		s := sagaOf(c.text)
		for _, x := range spoilt(s) {
			if e := May(x); e != api.ErrState || Current(x) != -1 || Ended(x) {
				t.Fatalf("%s as %+v: error %d, current %d, ended %v", c.text, x, int(e), Current(x), Ended(x))
			}
			checkSaga(t, x)
			for _, m := range append(movesOf(s.Id), movesOf(x.Id)...) {
				if next, e := Apply(x, m); e != api.ErrState || !reflect.DeepEqual(next, api.Saga{}) {
					t.Fatalf("Apply(%+v, %+v) = %+v, error %d", x, m, next, int(e))
				}
				if l := Effects(x, m); len(l) != 0 {
					t.Fatalf("Effects(%+v, %+v) = %+v", x, m, l)
				}
			}
		}
	}
	for _, text := range strangers {
		s := sagaOf(text)
		for _, m := range movesOf(s.Id) {
			if next, e := Apply(s, m); e != api.ErrState || !reflect.DeepEqual(next, api.Saga{}) || len(Effects(s, m)) != 0 {
				t.Fatalf("Apply of %s and %+v: %+v, error %d", text, m, next, int(e))
			}
		}
	}
}

// movesOf has moves of an id that may be, of each kind that Apply could take, with Steps up to 3 and each Why.
func movesOf(id api.Id) []api.Move {
	var l []api.Move
	for kind := api.MoveFail; kind <= api.MoveForce; kind++ {
		for step := range 4 {
			for why := range 10 {
				m := api.Move{Kind: kind, Id: id, Step: step, Why: why}
				if record.Move(m) == api.OK {
					l = append(l, m)
				}
			}
		}
	}
	return l
}

// product calls a function with each row of that many of some words.
func product(words []string, count int, call func([]string)) {
	row := make([]string, count)
	var fill func(int)
	fill = func(i int) {
		if i == count {
			call(row)
			return
		}
		for _, w := range words {
			row[i] = w
			fill(i + 1)
		}
	}
	fill(0)
}

// P21.1: each status, each Why at the edges, forced or not, with a hop or not, and each two parts, of each sort of steps.
func TestMayAgainstTheWords(t *testing.T) {
	seen := map[bool]int{}
	for _, steps := range []string{"o", "a", "oo", "oa", "ao", "aa"} {
		s := api.Saga{Def: api.Def{Name: "trip"}, Parts: make([]api.Part, len(steps))}
		for i, c := range steps {
			s.Def.Steps = append(s.Def.Steps, map[rune]api.Step{'o': own(2, i), 'a': ask(i)}[c])
		}
		var fill func(int)
		fill = func(i int) {
			if i == len(steps) {
				for n := range 5 * 10 * 4 {
					s.Why, s.Status, s.Forced, s.Id = []int{-1, 0, 1, 9, 10}[n%5], n/5%10-1, n/50%2 == 1, rootId()
					if n/100 == 1 {
						s.Id = childId()
					}
					seen[checkSaga(t, s)]++
				}
				return
			}
			for state := -1; state < 6; state++ {
				for _, tries := range []int{-1, 0, 2, 5, 6} {
					s.Parts[i] = api.Part{State: state, Tries: tries}
					fill(i + 1)
				}
			}
		}
		fill(0)
	}
	if seen[true] < 5000 || seen[false] < 500000 {
		t.Errorf("%v", seen)
	}
}

// P21.1: each three and four parts, of each sort of steps.
func TestMayOfMoreParts(t *testing.T) {
	heads := strings.Fields("R0 R0/ H0/ C0 C0! C3! U3 S3 X3 X0! X3!/")
	three := strings.Fields("o-n o-n1 o-d o-d5 o-g o-k a-n a-n1 a-a a-d a-d5 a-g a-k")
	four := strings.Fields("o-n o-d o-d5 o-g a-n a-a a-d a-g")
	seen := 0
	for _, head := range heads {
		check := func(row []string) {
			if checkSaga(t, sagaOf(head+" "+strings.Join(row, " "))) {
				seen++
			}
		}
		product(three, 3, check)
		product(four, 4, check)
	}
	if seen < 5000 {
		t.Error(seen)
	}
}

// P21.2: what begins, and what is refused.
func TestNew(t *testing.T) {
	for _, id := range []api.Id{rootId(), childId(), {Root: 15, N: 999999, Hops: []api.Hop{}}} {
		for _, text := range []string{"R0 o1-n", "R0 a-n", "R0 o5-n a-n o-n", "R0 a-n o-n a-n o-n a-n o-n a-n o-n"} {
			m := api.Move{Kind: api.MoveBegin, Id: id, Def: sagaOf(text).Def}
			want := api.Saga{Id: id, Def: m.Def, Status: api.Running, Parts: make([]api.Part, len(m.Def.Steps))}
			if s, e := New(m); e != api.OK || !same(s, want) || May(s) != api.OK || Current(s) != 0 || Ended(s) {
				t.Errorf("New(%+v) = %+v, error %d", m, s, int(e))
			}
		}
	}
	for why := -1; why <= 10; why++ {
		m := api.Move{Kind: api.MoveRefuse, Id: childId(), Why: why}
		want, wantErr := api.Saga{Id: childId(), Status: api.Refused, Why: why}, api.OK
		if why < 1 || why > 9 {
			want, wantErr = api.Saga{}, api.ErrMove
		}
		if s, e := New(m); e != wantErr || !same(s, want) || (May(s) == api.OK) != (e == api.OK) || Ended(s) != (e == api.OK) {
			t.Errorf("New(%+v) = %+v, error %d", m, s, int(e))
		}
	}
}

// badMoves has moves that may not be, and those that begin nothing.
func badMoves() []api.Move {
	d := sagaOf("R0 o-n a-n").Def
	l := []api.Move{
		{}, {Kind: api.MoveBegin}, {Kind: api.MoveBegin, Def: d}, {Kind: api.MoveBegin, Id: rootId()}, {Kind: api.MoveBegin, Id: rootId(), Def: api.Def{Name: "trip"}},
		{Kind: api.MoveBegin, Id: rootId(), Def: api.Def{Name: "trip", Steps: []api.Step{{}}}}, {Kind: api.MoveBegin, Id: rootId(), Def: api.Def{Steps: d.Steps}},
		{Kind: api.MoveBegin, Id: rootId(), Def: api.Def{Name: "trip", Steps: slices.Repeat(d.Steps, 5)[:9]}},
		{Kind: api.MoveBegin, Id: rootId(), Def: d, Why: 1}, {Kind: api.MoveBegin, Id: rootId(), Def: d, Step: 1}, {Kind: api.MoveBegin, Id: api.Id{Root: 16, N: 1}, Def: d},
		{Kind: api.MoveRefuse, Id: rootId(), Why: 1}, {Kind: api.MoveRefuse, Why: 1}, {Kind: api.MoveRefuse, Id: childId()}, {Kind: api.MoveRefuse, Id: childId(), Why: 10},
		{Kind: api.MoveRefuse, Id: childId(), Why: 1, Step: 1}, {Kind: api.MoveRefuse, Id: childId(), Why: 1, Def: d},
	}
	for _, kind := range []int{math.MinInt, -1, 0, 17, 18, 1 << 32, 1<<32 + 1, 1<<32 + 2, math.MaxInt} {
		l = append(l, api.Move{Kind: kind, Id: childId()}, api.Move{Kind: kind, Id: childId(), Why: 1}, api.Move{Kind: kind, Id: childId(), Def: d})
	}
	return l
}

// P21.2: no other move, and no move that may not be, begins a saga.
func TestNewOfWrongMoves(t *testing.T) {
	for _, m := range append(badMoves(), movesOf(childId())...) {
		if s, e := New(m); e != api.ErrMove || !reflect.DeepEqual(s, api.Saga{}) {
			t.Errorf("New(%+v) = %+v, error %d", m, s, int(e))
		}
	}
}

// rows has for each row of the chapter's table where a move can be made, and what follows on it; nothing follows where it can't be made.
var rows = []struct{ from, move, to string }{
	{"R0 o2-n", "fail 0", "R0 o2-n1"}, {"R0 o2-n1", "fail 0", "R0 o2-n2"}, {"R0 o2-n2", "fail 0", ""}, {"R0 o2-n3", "fail 0", ""}, {"R0 o1-n5", "fail 0", ""}, {"R0 o5-n4", "fail 0", "R0 o5-n5"}, {"R0 o5-n5", "fail 0", ""},
	{"R0 a-d5 o-n", "fail 1", "R0 a-d5 o-n1"}, {"R0 o-d o-n", "fail 0", ""}, {"R0 o-n o-n", "fail 1", ""}, {"R0 a-n", "fail 0", ""}, {"R0 a-a", "fail 0", ""}, {"R0 a-g", "fail 0", ""}, {"R0 a-g o-d o-n", "fail 2", ""}, {"R0 o-d", "fail 0", ""}, {"R0 o-n", "fail 1", ""},
	{"U1 o1-d", "fail 0", "U1 o1-d1"}, {"U1 o1-d4", "fail 0", "U1 o1-d5"}, {"U1 o1-d5", "fail 0", ""}, {"U1 o5-d5", "fail 0", ""}, {"U1 a-d", "fail 0", ""}, {"U1 a-a", "fail 0", ""}, {"U1 o-d a-a", "fail 0", ""}, {"U1 o-d o-d", "fail 0", ""}, {"U1 o-g", "fail 0", ""}, {"U1 o-n", "fail 0", ""},
	{"U1 o-d3 o-d2 o-g1", "fail 1", "U1 o-d3 o-d3 o-g1"}, {"S1 o-d5", "fail 0", ""}, {"S1 o-d o-d5", "fail 0", ""}, {"H0/ o-d", "fail 0", ""}, {"C0 o-k", "fail 0", ""}, {"C0! o-n", "fail 0", ""}, {"X1 o-n", "fail 0", ""}, {"X0! o-n", "fail 0", ""}, {"F1/", "fail 0", ""},

	{"R0 o-n", "do 0", "R0 o-d"}, {"R0 o2-n2", "do 0", "R0 o2-d"}, {"R0 o1-n5", "do 0", "R0 o1-d"}, {"R0/ o-d2 a-g o-d o-n", "do 3", ""}, {"R0/ o-d2 a-d o-n1 a-n", "do 2", "R0/ o-d2 a-d o-d a-n"}, {"R0 o-d", "do 0", ""}, {"R0 o-d o-n", "do 0", ""}, {"R0 o-n o-n", "do 1", ""},
	{"R0 a-n", "do 0", ""}, {"R0 a-a", "do 0", ""}, {"R0 o-n", "do 1", ""}, {"R0 o-n", "do 7", ""}, {"R0 o-d", "do 1", ""}, {"U1 o-n", "do 0", ""}, {"U1 o-d", "do 0", ""}, {"S1 o-d5", "do 0", ""}, {"H0/ o-d", "do 0", ""}, {"C0 o-k", "do 0", ""}, {"C0! o-n", "do 0", ""}, {"X1 o-n", "do 0", ""}, {"X0! o-n", "do 0", ""}, {"F1/", "do 0", ""},

	{"R0 a-n", "ask 0", "R0 a-a"}, {"R0/ o-d1 a-n2 a-n", "ask 1", "R0/ o-d1 a-a2 a-n"}, {"R0 a-a", "ask 0", ""}, {"R0 a-d", "ask 0", ""}, {"R0 a-g", "ask 0", ""}, {"R0 o-n", "ask 0", ""}, {"R0 o-n a-n", "ask 1", ""}, {"R0 a-a a-n", "ask 1", ""}, {"R0 a-g a-n", "ask 1", ""}, {"R0 a-n", "ask 1", ""}, {"R0 a-d", "ask 1", ""},
	{"U1 a-n", "ask 0", ""}, {"S1 o-d5 a-n", "ask 1", ""}, {"H0/ a-g", "ask 0", ""}, {"C0 a-d", "ask 0", ""}, {"C0! a-n", "ask 0", ""}, {"X1 a-n", "ask 0", ""}, {"X0! a-n", "ask 0", ""}, {"F1/", "ask 0", ""},

	{"R0 a-a", "got 0", "R0 a-d"}, {"R0 o-d2 a-a3 o-n", "got 1", "R0 o-d2 a-d3 o-n"}, {"R0 a-n", "got 0", ""}, {"R0 a-d", "got 0", ""}, {"R0 a-g", "got 0", ""}, {"R0 a-g a-a", "got 1", ""}, {"R0 o-n", "got 0", ""}, {"R0 a-a", "got 1", ""},
	{"U1 a-a", "got 0", ""}, {"S1 a-a o-d5", "got 0", ""}, {"C0! a-a", "got 0", ""}, {"X0! a-a", "got 0", ""}, {"H0/ a-d", "got 0", ""}, {"C0 a-d", "got 0", ""}, {"X1 a-n", "got 0", ""}, {"F1/", "got 0", ""},

	{"R0 a-a", "lost 0", "R0 a-g"}, {"R0 a-d", "lost 0", "R0 a-g"}, {"R0 a-d2 o-d1 a-a3", "lost 0", "R0 a-g2 o-d1 a-a3"}, {"R0 a-d2 o-d1 a-a3", "lost 2", "R0 a-d2 o-d1 a-g3"}, {"R0 a-g a-a", "lost 1", "R0 a-g a-g"}, {"R0 a-g", "lost 0", ""}, {"R0 a-n", "lost 0", ""}, {"R0 o-d", "lost 0", ""}, {"R0 o-n", "lost 0", ""}, {"R0 a-a", "lost 1", ""},
	{"H0/ a-d4", "lost 0", "H0/ a-g4"}, {"H0/ o-d a-g a-d", "lost 2", "H0/ o-d a-g a-g"}, {"H0/ a-g", "lost 0", ""}, {"H0/ o-d", "lost 0", ""},
	{"U1 a-a", "lost 0", "U1 a-g"}, {"U1 a-d5", "lost 0", "U1 a-g5"}, {"U1 a-d o-d2", "lost 0", "U1 a-g o-d2"}, {"U1 a-a a-a", "lost 0", "U1 a-g a-a"}, {"U1 a-g", "lost 0", ""}, {"U1 a-n", "lost 0", ""}, {"U1 o-d", "lost 0", ""},
	{"S1 a-d o-d5", "lost 0", "S1 a-g o-d5"}, {"S1 a-a o-d5", "lost 0", "S1 a-g o-d5"}, {"S1 a-g o-d5", "lost 0", ""}, {"S1 a-d o-d5", "lost 1", ""},
	{"C0! a-a", "lost 0", "C0! a-g"}, {"C2! a-d1", "lost 0", "C2! a-g1"}, {"C0! a-k", "lost 0", ""}, {"C0! a-n", "lost 0", ""}, {"C0! a-g", "lost 0", ""}, {"C0! o-k", "lost 0", ""}, {"X0! a-a", "lost 0", "X0! a-g"}, {"X2! o-g a-d1", "lost 1", "X2! o-g a-g1"}, {"X0! a-k", "lost 0", ""}, {"X0! a-n", "lost 0", ""},
	{"C0 a-d", "lost 0", ""}, {"C0 a-k", "lost 0", ""}, {"X1 a-n", "lost 0", ""}, {"X1 a-g", "lost 0", ""}, {"F1/", "lost 0", ""},

	{"R0/ o-d", "hold", "H0/ o-d"}, {"R0/ o-d2 a-d1", "hold", "H0/ o-d2 a-d1"}, {"R0 o-d", "hold", ""}, {"R0/ o-n", "hold", ""}, {"R0/ a-a", "hold", ""}, {"R0/ a-g", "hold", ""}, {"R0/ a-g o-d", "hold", ""}, {"R0/ o-d o-n", "hold", ""},
	{"H0/ o-d", "hold", ""}, {"U1/ o-g", "hold", ""}, {"S1/ o-d5", "hold", ""}, {"C0/ o-k", "hold", ""}, {"C0!/ o-k", "hold", ""}, {"X1/ o-g", "hold", ""}, {"X0!/ o-g", "hold", ""}, {"F1/", "hold", ""},

	{"R0 o-d", "commit", "C0 o-k"}, {"R0 o-d2 a-d1", "commit", "C0 o-k2 a-d1"}, {"R0/ o-d", "commit", ""}, {"R0 o-n", "commit", ""}, {"R0 a-a", "commit", ""}, {"R0 a-g", "commit", ""}, {"R0 a-g o-d", "commit", ""}, {"R0 o-d o-n", "commit", ""},
	{"H0/ o-d", "commit", "C0/ o-k"}, {"H0/ o-d2 a-d1 o-d", "commit", "C0/ o-k2 a-d1 o-k"}, {"H0/ a-g", "commit", ""}, {"H0/ o-d a-g a-d", "commit", ""},
	{"U1 o-g", "commit", ""}, {"U1/ o-d", "commit", ""}, {"S1/ o-d5", "commit", ""}, {"C0 o-k", "commit", ""}, {"C0! o-g", "commit", ""}, {"X1/ o-n", "commit", ""}, {"X0!/ o-g", "commit", ""}, {"F1/", "commit", ""},

	{"R0 o-n", "back 1", "U1 o-n"}, {"R0/ o-n2", "back 4", "U4/ o-n"}, {"R0 o-d1 a-d2 o-n3 a-n", "back 2", "U2 o-d a-d o-n a-n"}, {"R0 o-d", "back 6", "U6 o-d"}, {"R0 a-a5", "back 3", "U3 a-a"}, {"R0 a-g a-a", "back 5", "U5 a-g a-a"}, {"R0 a-d", "back 5", "U5 a-d"}, {"R0 a-n", "back 9", "U9 a-n"}, {"R0 a-n", "back 8", "U8 a-n"}, {"R0 a-n", "back 7", "U7 a-n"},
	{"H0/ o-d3 a-d1", "back 7", "U7/ o-d a-d"}, {"H0/ o-d a-g2", "back 7", "U7/ o-d a-g"}, {"H0/ o-d3 a-g2 a-d", "back 5", "U5/ o-d a-g a-d"}, {"H0/ o-d a-d", "back 5", ""}, {"H0/ o-d", "back 5", ""},
	{"H0/ o-d", "back 1", ""}, {"H0/ o-d a-g", "back 1", ""}, {"H0/ o-d a-g", "back 2", ""}, {"H0/ o-d a-g", "back 3", ""}, {"H0/ o-d a-g", "back 4", ""}, {"H0/ o-d a-g", "back 6", ""}, {"H0/ o-d a-g", "back 8", ""}, {"H0/ o-d a-g", "back 9", ""}, {"H0/ o-d", "back 6", ""}, {"H0/ o-d", "back 4", ""},
	{"U1 o-d", "back 2", ""}, {"U1 o-d", "back 1", ""}, {"S1 o-d5", "back 7", ""}, {"C0/ o-k", "back 7", ""}, {"C0!/ o-k a-g", "back 5", ""}, {"C0!/ o-k", "back 7", ""}, {"X1/ o-n", "back 7", ""}, {"X0!/ o-g a-g", "back 5", ""}, {"F1/", "back 7", ""},

	{"U1 o-d", "undo 0", "U1 o-g"}, {"U1 o-d2", "undo 0", "U1 o-g"}, {"U1 o-d5", "undo 0", "U1 o-g"}, {"U1 o-d2 o-d3 a-g1 o-n1", "undo 1", "U1 o-d2 o-g a-g1 o-n1"}, {"U1 o-d o-d", "undo 0", ""}, {"U1 o-d a-d", "undo 0", ""}, {"U1 o-d a-a", "undo 0", ""}, {"U1 a-d", "undo 0", ""}, {"U1 a-a", "undo 0", ""}, {"U1 o-g", "undo 0", ""}, {"U1 o-n", "undo 0", ""}, {"U1 o-d", "undo 1", ""}, {"U1 o-d o-g", "undo 1", ""},
	{"R0 o-d", "undo 0", ""}, {"R0 o-n", "undo 0", ""}, {"H0/ o-d", "undo 0", ""}, {"S1 o-d5", "undo 0", ""}, {"C0 o-k", "undo 0", ""}, {"X1 o-g", "undo 0", ""}, {"C0! o-g", "undo 0", ""}, {"X0! o-g", "undo 0", ""}, {"F1/", "undo 0", ""},

	{"U1 o-d5", "jam 0", "S1 o-d5"}, {"U1/ a-d o1-d5 a-g3", "jam 1", "S1/ a-d o1-d5 a-g3"}, {"U1 o-d4", "jam 0", ""}, {"U1 o-d", "jam 0", ""}, {"U1 o-g5", "jam 0", ""}, {"U1 o-n5", "jam 0", ""}, {"U1 a-d5", "jam 0", ""}, {"U1 a-a5", "jam 0", ""}, {"U1 o-d5 o-d", "jam 0", ""}, {"U1 o-d5 a-a5", "jam 0", ""}, {"U1 o-d5 a-a5", "jam 1", ""}, {"U1 o-d5", "jam 1", ""},
	{"R0 o5-n5", "jam 0", ""}, {"R0 o-d5", "jam 0", ""}, {"H0/ o-d5", "jam 0", ""}, {"S1 o-d5", "jam 0", ""}, {"C0 o-k5", "jam 0", ""}, {"X1 o-g5", "jam 0", ""}, {"C0! o-g5", "jam 0", ""}, {"X0! o-g5", "jam 0", ""}, {"F1/", "jam 0", ""},

	{"S1 o-d5", "again", "U1 o-d"}, {"S9/ o-d5 a-d2 o-d5 o-g5", "again", "U9/ o-d5 a-d2 o-d o-g5"}, {"U1 o-d5", "again", ""}, {"R0 o-n5", "again", ""}, {"H0/ o-d5", "again", ""}, {"C0 o-k", "again", ""}, {"X1 o-g5", "again", ""}, {"C0! o-n5", "again", ""}, {"X0! o-g5", "again", ""}, {"F1/", "again", ""},

	{"U1 o-g", "end", "X1 o-g"}, {"U9/ o-g2 a-g1 o-n3 a-n", "end", "X9/ o-g2 a-g1 o-n3 a-n"}, {"U1 o-n", "end", "X1 o-n"}, {"U1 o-d", "end", ""}, {"U1 a-a", "end", ""}, {"U1 a-d o-g", "end", ""}, {"R0 o-n", "end", ""}, {"R0 a-g", "end", ""}, {"R0 o-d", "end", ""}, {"H0/ a-g", "end", ""}, {"S1 o-d5", "end", ""}, {"C0 o-k", "end", ""}, {"X1 o-g", "end", ""}, {"C0! o-g", "end", ""}, {"X0! o-g", "end", ""}, {"F1/", "end", ""},

	{"C0 a-d", "kept 0", "C0 a-k"}, {"C0/ o-k2 a-d1 a-d", "kept 1", "C0/ o-k2 a-k1 a-d"}, {"C0 a-k", "kept 0", ""}, {"C0 o-k", "kept 0", ""}, {"C0 a-d", "kept 1", ""}, {"C3! a-d4", "kept 0", "C3! a-k4"}, {"C0! a-a", "kept 0", ""}, {"C0! a-n", "kept 0", ""}, {"C0! a-g", "kept 0", ""}, {"C0! a-k", "kept 0", ""}, {"C0! o-g", "kept 0", ""},
	{"X0! a-d", "kept 0", ""}, {"X0! a-a", "kept 0", ""}, {"X1 a-g", "kept 0", ""}, {"R0 a-d", "kept 0", ""}, {"H0/ a-d", "kept 0", ""}, {"U1 a-d", "kept 0", ""}, {"S1 a-d o-d5", "kept 0", ""}, {"F1/", "kept 0", ""},

	{"R0 o-n", "force 1", "C0! o-n"}, {"R0 o-n2", "force 0", "X0! o-n"}, {"R0 o-d", "force 1", "C0! o-k"}, {"R0/ o-d", "force 0", "X0!/ o-g"}, {"R0 o-d1 a-d2 o-d3 a-a4 o-n", "force 1", "C0! o-k a-d o-k a-a o-n"}, {"R0 o-d1 a-d2 o-d3 a-g4 o-n5", "force 0", "X0! o-g a-d o-g a-g o-n"}, {"R0 a-g", "force 1", "C0! a-g"},
	{"H0/ o-d1 a-d2 a-g3", "force 1", "C0!/ o-k a-d a-g"}, {"H0/ o-d1 a-d2 a-g3", "force 0", "X0!/ o-g a-d a-g"}, {"U3 o-d1 a-a2 o-g3 o-n4 a-d", "force 1", "C3! o-k a-a o-g o-n a-d"}, {"U3 o-d1 a-a2 o-g3 o-n4 a-d", "force 0", "X3! o-g a-a o-g o-n a-d"},
	{"S9/ o-d1 a-d o-d5 o-g5", "force 1", "C9!/ o-k a-d o-k o-g"}, {"S9/ o-d1 a-d o-d5 o-g5", "force 0", "X9!/ o-g a-d o-g o-g"},
	{"C0 o-k", "force 0", ""}, {"C0 o-k", "force 1", ""}, {"C0 a-d", "force 0", ""}, {"X1 o-g", "force 0", ""}, {"X1 o-g", "force 1", ""}, {"C0! a-d", "force 0", ""}, {"C0! a-d", "force 1", ""}, {"X0! a-d", "force 0", ""}, {"X0! a-d", "force 1", ""}, {"F1/", "force 0", ""}, {"F1/", "force 1", ""},
}

// P21.3: each row of the table.
func TestRows(t *testing.T) {
	for _, c := range rows {
		s := sagaOf(c.from)
		m := moveOf(s.Id, c.move)
		want, wantErr := api.Saga{}, api.ErrMove
		if c.to != "" {
			want, wantErr = sagaOf(c.to), api.OK
			// What a saga's Id and Def are does not hang on what follows, which writes no Tries of its steps down.
			want.Def = s.Def
		}
		got, e := Apply(s, m)
		if e != wantErr || !same(got, want) {
			t.Errorf("%s of %s: %+v, error %d; want %s", c.move, c.from, got, int(e), c.to)
		}
		checkMove(t, s, m)
	}
}

// P21.3: a running saga whose current step is gone makes no move but those that the chapter names.
func TestGone(t *testing.T) {
	for _, text := range []string{"R0 a-g", "R0/ a-g", "R0 a-g a-d o-n", "R0 o-d a-g a-d a-a o-n", "R0/ a-d a-g a-g o-d"} {
		s := sagaOf(text)
		for _, m := range movesOf(s.Id) {
			_, made := checkMove(t, s, m)
			lost := m.Kind == api.MoveLost && m.Step < len(s.Parts) && m.Step != Current(s) && !isOwnStep(s, m.Step) && (s.Parts[m.Step].State == api.PartAsk || s.Parts[m.Step].State == api.PartDone)
			if want := m.Kind == api.MoveBack || m.Kind == api.MoveForce || lost; made != want {
				t.Errorf("%+v of %s: %v", m, text, made)
			}
		}
	}
}

// otherIds has ids that may be, and differ from the child's in one field.
func otherIds() []api.Id {
	l := []api.Id{rootId(), {Root: 0, N: 7}, {Root: 0, N: 7, Hops: childId().Hops[:1]}}
	for _, hop := range []api.Hop{{Step: 1, Org: 5}, {Step: 0, Org: 6}} {
		l = append(l, api.Id{Root: 0, N: 7, Hops: []api.Hop{childId().Hops[0], hop}})
	}
	l = append(l, api.Id{Root: 1, N: 7, Hops: childId().Hops}, api.Id{Root: 0, N: 8, Hops: childId().Hops})
	deeper := append(slices.Clone(childId().Hops), api.Hop{Step: 0, Org: 1})
	return append(l, api.Id{Root: 0, N: 7, Hops: deeper})
}

// P21.3, P21.4: a move with another id, one that may not be, and one that begins can't be made by any saga.
func TestWrongMoves(t *testing.T) {
	check := func(s api.Saga, m api.Move) {
		t.Helper()
		if next, e := Apply(s, m); e != api.ErrMove || !reflect.DeepEqual(next, api.Saga{}) {
			t.Fatalf("Apply(%+v, %+v) = %+v, error %d", s, m, next, int(e))
		}
		if l := Effects(s, m); len(l) != 0 {
			t.Fatalf("Effects(%+v, %+v) = %+v", s, m, l)
		}
	}
	for _, c := range sagas {
		s := sagaOf(c.text)
		for _, m := range badMoves() {
			check(s, m)
			m.Id = s.Id
			check(s, m)
		}
		check(s, api.Move{Kind: api.MoveBegin, Id: s.Id, Def: sagaOf("R0 o-n").Def})
		check(s, api.Move{Kind: api.MoveRefuse, Id: childId(), Why: 7})
		for _, id := range append(otherIds(), childId()) {
			if ident.Cmp(id, s.Id) != 0 {
				for _, m := range movesOf(id) {
					check(s, m)
				}
			}
		}
		for _, m := range movesOf(s.Id) {
			for _, n := range []int{math.MinInt, -1, 8, 9, 1 << 32, 1<<32 + 1, math.MaxInt} {
				x := m
				x.Step = n
				check(s, x)
			}
			for _, n := range []int{math.MinInt, -1, 10, 11, 1 << 32, 1<<32 + 7, math.MaxInt} {
				x := m
				x.Why = n
				check(s, x)
			}
			m.Def = sagaOf("R0 o-n").Def
			check(s, m)
			m.Def = api.Def{Name: "trip"}
			check(s, m)
		}
	}
}

// P21.3: a step that the definition has not is no step of the saga, whatever its status.
func TestStepsBeyond(t *testing.T) {
	kinds := []int{api.MoveFail, api.MoveDo, api.MoveAsk, api.MoveGot, api.MoveLost, api.MoveUndo, api.MoveJam, api.MoveKept}
	for _, c := range sagas {
		s := sagaOf(c.text)
		for _, kind := range kinds {
			for step := len(s.Parts); step < api.MaxSteps; step++ {
				m := api.Move{Kind: kind, Id: s.Id, Step: step}
				if next, e := Apply(s, m); e != api.ErrMove || !reflect.DeepEqual(next, api.Saga{}) || len(Effects(s, m)) > 0 {
					t.Fatalf("%+v of %s: %+v, error %d", m, c.text, next, int(e))
				}
			}
		}
	}
}

// P21.3 to P21.7: each move of each saga that may be, of one step and of two.
func TestApplyAgainstTheWords(t *testing.T) {
	heads := strings.Fields("R0 R0/ H0/ C0 C0/ C0! C5!/ U1 U7/ S1 S7/ X1 X9/ X0! X5!/ F1/ F9/")
	one := []string{}
	for _, step := range []string{"o1", "o2", "o5", "a"} {
		for _, state := range stateLetters {
			for _, tries := range "012345" {
				one = append(one, step+"-"+string(state)+string(tries))
			}
		}
	}
	two := []string{}
	for _, step := range []string{"o2", "a"} {
		for _, state := range stateLetters {
			for _, tries := range "025" {
				two = append(two, step+"-"+string(state)+string(tries))
			}
		}
	}
	made, refused := 0, 0
	for _, head := range heads {
		check := func(row []string) {
			s := sagaOf(head + " " + strings.Join(row, " "))
			if !mayTold(s) {
				return
			}
			for _, m := range movesOf(s.Id) {
				if _, can := checkMove(t, s, m); can {
					made++
				} else {
					refused++
				}
			}
		}
		check(nil)
		product(one, 1, check)
		product(two, 2, check)
	}
	if made < 10000 || refused < 100000 {
		t.Error(made, refused)
	}
}

// P21.3 to P21.7: each move of each saga that may be, of three steps.
func TestApplyOfThreeSteps(t *testing.T) {
	made := 0
	for _, head := range strings.Fields("R0 R0/ H0/ C0 C0! U7/ S5 X5 X5!/") {
		product(strings.Fields("o-n o-d o-d5 o-g o-k a-n a-a a-d2 a-g a-k"), 3, func(row []string) {
			s := sagaOf(head + " " + strings.Join(row, " "))
			if !mayTold(s) {
				return
			}
			for _, m := range movesOf(s.Id) {
				if _, can := checkMove(t, s, m); can {
					made++
				}
			}
		})
	}
	if made < 5000 {
		t.Error(made)
	}
}

// P21.4: keys of each step of ids that may be, and of others.
func TestKey(t *testing.T) {
	deep := api.Id{Root: 15, N: 999999, Hops: []api.Hop{{Step: 7, Org: 14}, {Step: 7, Org: 13}, {Step: 7, Org: 12}, {Step: 7, Org: 11}}}
	for _, c := range []struct {
		id   api.Id
		step int
		want string
	}{
		{api.Id{Root: 0, N: 7}, 0, "0.7#0"}, {rootId(), 7, "4.7#7"}, {childId(), 3, "0.7/2@3/0@5#3"}, {api.Id{N: 1, Hops: []api.Hop{}}, 1, "0.1#1"},
		{deep, 7, "15.999999/7@14/7@13/7@12/7@11#7"},
	} {
		if s, e := Key(c.id, c.step); s != c.want || e != api.OK {
			t.Errorf("Key(%v, %d) = %q, error %d", c.id, c.step, s, int(e))
		}
	}
	for _, id := range append(otherIds(), childId(), deep) {
		for _, step := range []int{math.MinInt, -1, 0, 1, 2, 3, 4, 5, 6, 7, 8, 9, 10, 256, 1 << 32, math.MaxInt} {
			want, wantErr := "", api.ErrId
			if step >= 0 && step <= 7 {
				want, wantErr = keyTold(id, step), api.OK
			}
			if s, e := Key(id, step); s != want || e != wantErr {
				t.Errorf("Key(%v, %d) = %q, error %d", id, step, s, int(e))
			}
		}
	}
	for _, id := range []api.Id{{}, {N: 1000000}, {Root: -1, N: 1}, {Root: 16, N: 1}, {N: 1, Hops: []api.Hop{{Step: 8, Org: 1}}}, {N: 1, Hops: []api.Hop{{Org: 0}}}, {Root: 9, N: 1, Hops: append(deep.Hops, api.Hop{Org: 1})}} {
		for _, step := range []int{-1, 0, 7, 8} {
			if s, e := Key(id, step); s != "" || e != api.ErrId {
				t.Errorf("Key(%v, %d) = %q, error %d", id, step, s, int(e))
			}
		}
	}
}

// P21.4: what moves do in the ledger: the numbers of the steps whose marks they change, and how.
func TestEffects(t *testing.T) {
	for _, c := range []struct {
		from, move string
		what       int
		steps      []int
	}{
		{"R0 o-n", "do 0", api.MarkDone, []int{0}}, {"R0/ o-d a-d o-n1 o-n", "do 2", api.MarkDone, []int{2}}, {"R0 o-d o-n", "do 0", 0, nil}, {"R0 a-n", "do 0", 0, nil},
		{"U1 o-d", "undo 0", api.MarkUndone, []int{0}}, {"U7/ o-d o-d3 a-g o-n", "undo 1", api.MarkUndone, []int{1}}, {"U7/ o-d o-d3 a-g o-n", "undo 0", 0, nil}, {"U1 a-d", "undo 0", 0, nil}, {"S1 o-d5", "undo 0", 0, nil},
		{"R0 o-d a-d o-d o-d", "commit", api.MarkKept, []int{0, 2, 3}}, {"H0/ a-d o-d a-d o-d", "commit", api.MarkKept, []int{1, 3}}, {"R0 a-d", "commit", 0, nil}, {"R0/ o-d", "commit", 0, nil}, {"R0 o-d o-n", "commit", 0, nil}, {"H0/ o-d a-g", "commit", 0, nil},
		{"R0 o-d o-d o-d o-d o-d o-d o-d o-d", "commit", api.MarkKept, []int{0, 1, 2, 3, 4, 5, 6, 7}},
		{"R0 o-d a-d o-d o-n", "force 1", api.MarkKept, []int{0, 2}}, {"R0 o-d a-d o-d o-n", "force 0", api.MarkUndone, []int{0, 2}}, {"H0/ o-d a-g", "force 1", api.MarkKept, []int{0}}, {"H0/ o-d a-g", "force 0", api.MarkUndone, []int{0}},
		{"U1 o-d o-d a-a o-g o-n", "force 1", api.MarkKept, []int{0, 1}}, {"U1 o-d o-d a-a o-g o-n", "force 0", api.MarkUndone, []int{0, 1}}, {"S1 o-d o-d5 o-g", "force 1", api.MarkKept, []int{0, 1}}, {"S1 o-d o-d5 o-g", "force 0", api.MarkUndone, []int{0, 1}},
		{"U1 o-g a-d", "force 1", 0, nil}, {"R0 o-n", "force 0", 0, nil}, {"C0! a-d", "force 0", 0, nil}, {"C0 o-k", "force 1", 0, nil}, {"X1 o-g", "force 0", 0, nil},
		{"R0 o-n", "fail 0", 0, nil}, {"R0 a-n", "ask 0", 0, nil}, {"R0 o-d a-a", "got 1", 0, nil}, {"R0 o-d a-a", "lost 1", 0, nil}, {"R0/ o-d", "hold", 0, nil}, {"R0 o-d", "back 6", 0, nil}, {"U1 o-d5", "jam 0", 0, nil}, {"S1 o-d5", "again", 0, nil}, {"U1 o-g", "end", 0, nil}, {"C0 o-k a-d", "kept 1", 0, nil},
		{"F1/", "do 0", 0, nil}, {"F1/", "force 0", 0, nil},
	} {
		s := sagaOf(c.from)
		var want []Effect
		for _, i := range c.steps {
			want = append(want, Effect{What: c.what, Key: keyTold(s.Id, i), Act: s.Def.Steps[i].Act})
		}
		if l := Effects(s, moveOf(s.Id, c.move)); !sameEffects(l, want) {
			t.Errorf("%s of %s: %+v; want %+v", c.move, c.from, l, want)
		}
	}
}

// anySaga is a saga by chance, of up to eight steps, whose Status most often fits its parts.
func anySaga(r *rand.Rand) api.Saga {
	letters := []string{"", "R", "H", "C", "U", "S", "X", "F"}
	status := 1 + r.Intn(6)
	head := letters[status] + "0"
	if status > 3 || r.Intn(20) == 0 {
		head = letters[status] + string(rune('1'+r.Intn(9)))
	}
	if (status == 3 || status == 6) && r.Intn(2) == 0 {
		head += "!"
	}
	if status == 2 || r.Intn(2) == 0 {
		head += "/"
	}
	l := []string{head}
	count := 1 + r.Intn(8)
	over := r.Intn(count + 1)
	for i := range count {
		asks := r.Intn(2) == 0
		word := []string{"o" + string(rune('1'+r.Intn(5))), "a"}[map[bool]int{true: 1}[asks]]
		states := map[int]string{2: "dd", 3: "kk", 4: "ngd", 5: "ngd", 6: "ng"}[status]
		switch {
		case status == 1 && i < over, status == 2:
			states = "d"
			if asks {
				states = "dddg"
			}
		case status == 1 && i == over && asks:
			states = "nag"
		case status == 1:
			states = "n"
		case status == 3 && asks:
			states = "dk"
		case status == 4 && asks:
			states = "nadg"
		}
		if r.Intn(60) == 0 {
			states = stateLetters
		}
		tries := ""
		if status != 1 || i <= over {
			tries = string("000125"[r.Intn(6)])
		}
		if status == 5 && r.Intn(2) == 0 {
			tries = "5"
		}
		l = append(l, word+"-"+string(states[r.Intn(len(states))])+tries)
	}
	return sagaOf(strings.Join(l, " "))
}

// P21.1, P21.3 to P21.7: sagas of up to eight steps by chance.
func TestByChance(t *testing.T) {
	r := rand.New(rand.NewSource(21))
	may, made := [8]int{}, [17]int{}
	for range 5000 {
		s := anySaga(r)
		if !checkSaga(t, s) {
			continue
		}
		may[s.Status]++
		for _, m := range movesOf(s.Id) {
			if m.Step > 0 && m.Kind != api.MoveForce {
				m.Step = r.Intn(8)
			}
			if _, can := checkMove(t, s, m); can {
				made[m.Kind]++
			}
		}
		if at := Current(s); at >= 0 {
			for _, kind := range []int{api.MoveFail, api.MoveDo, api.MoveAsk, api.MoveGot, api.MoveUndo, api.MoveJam} {
				if _, can := checkMove(t, s, api.Move{Kind: kind, Id: s.Id, Step: at}); can {
					made[kind]++
				}
			}
		}
	}
	if slices.Min(may[1:7]) < 100 || slices.Min(made[3:]) < 40 {
		t.Error(may, made)
	}
}
