package pot

import (
	"math"
	"math/big"
	"math/rand"
	"slices"
	"testing"

	"entente/api"
)

const (
	most  = math.MaxInt64
	least = math.MinInt64
	full  = api.MaxCash
)

type call func(api.Pot, bool, int64) (api.Pot, api.Errno)

// named has the calls that change a pot, each with its name.
func named() map[string]call { return map[string]call{"Do": Do, "Undo": Undo, "Keep": Keep} }

// may tells, by whole numbers of any length, whether a pot may be.
func may(p api.Pot) bool {
	have, in, out := big.NewInt(p.Have), big.NewInt(p.In), big.NewInt(p.Out)
	together := new(big.Int).Add(have, out)
	return in.Sign() >= 0 && in.Cmp(have) <= 0 && out.Sign() >= 0 && together.Cmp(big.NewInt(full)) <= 0
}

// told is what the chapter answers for one of the three calls, case by case.
func told(name string, p api.Pot, out bool, a int64) (api.Pot, api.Errno) {
	if !may(p) || a < 1 || a > full {
		return api.Pot{}, api.ErrArg
	}
	q, there := p, int64(0)
	switch {
	case name == "Do" && out:
		there, q.Have, q.Out = p.Have-p.In, p.Have-a, p.Out+a
	case name == "Undo" && out:
		there, q.Have, q.Out = p.Out, p.Have+a, p.Out-a
	case name == "Keep" && out:
		there, q.Out = p.Out, p.Out-a
	case name == "Do":
		there, q.Have, q.In = full-p.Have-p.Out, p.Have+a, p.In+a
	case name == "Undo":
		there, q.Have, q.In = p.In, p.Have-a, p.In-a
	case name == "Keep":
		there, q.In = p.In, p.In-a
	}
	if there < a {
		return api.Pot{}, api.ErrPot
	}
	return q, api.OK
}

// edges has amounts at which something changes: 0, small ones, the limit with its half, and the range's ends.
func edges() []int64 {
	return []int64{
		least, least + 1, least + full, -full - 1, -full, -2, -1, 0, 1, 2, 3, 7, 10,
		full/2 - 1, full / 2, full/2 + 1, full - 10, full - 2, full - 1, full, full + 1, full + 2,
		2 * full, 1 << 62, most/2 + 1, most - full, most - 1, most,
	}
}

// pots has every pot of edges, those that may be and those that may not.
func pots() []api.Pot {
	var l []api.Pot
	for _, have := range edges() {
		for _, in := range edges() {
			for _, out := range edges() {
				l = append(l, api.Pot{Have: have, In: in, Out: out})
			}
		}
	}
	return l
}

func checkPot(t *testing.T, p api.Pot) {
	t.Helper()
	e, free, room := api.ErrArg, int64(0), int64(0)
	if may(p) {
		e, free, room = api.OK, p.Have-p.In, full-p.Have-p.Out
	}
	if Check(p) != e || Free(p) != free || Room(p) != room {
		t.Errorf("%+v: Check %d, Free %d, Room %d; want %d, %d, %d", p, Check(p), Free(p), Room(p), e, free, room)
	}
}

func checkCalls(t *testing.T, p api.Pot, a int64) {
	t.Helper()
	for name, do := range named() {
		for _, out := range []bool{true, false} {
			want, wantErr := told(name, p, out, a)
			if q, e := do(p, out, a); q != want || e != wantErr {
				t.Errorf("%s(%+v, %t, %d) = %+v, %d; want %+v, %d", name, p, out, a, q, e, want, wantErr)
			}
		}
	}
}

// P5.1: each edge that the chapter names, with what is told of it written out.
func TestPotsByHand(t *testing.T) {
	for _, c := range []struct {
		p          api.Pot
		e          api.Errno
		free, room int64
	}{
		{api.Pot{}, api.OK, 0, full},
		{api.Pot{Have: 10}, api.OK, 10, full - 10},
		{api.Pot{Have: 10, In: 4}, api.OK, 6, full - 10},
		{api.Pot{Have: 10, In: 10}, api.OK, 0, full - 10},
		{api.Pot{Have: 10, In: 11}, api.ErrArg, 0, 0},
		{api.Pot{Have: 10, In: -1}, api.ErrArg, 0, 0},
		{api.Pot{Have: 10, In: 4, Out: 3}, api.OK, 6, full - 13},
		{api.Pot{Have: 10, Out: -1}, api.ErrArg, 0, 0},
		{api.Pot{Have: -1}, api.ErrArg, 0, 0},
		{api.Pot{Have: -1, In: -1}, api.ErrArg, 0, 0},
		{api.Pot{In: 1}, api.ErrArg, 0, 0},
		{api.Pot{Out: full}, api.OK, 0, 0},
		{api.Pot{Out: full + 1}, api.ErrArg, 0, 0},
		{api.Pot{Have: full}, api.OK, full, 0},
		{api.Pot{Have: full, In: full}, api.OK, 0, 0},
		{api.Pot{Have: full + 1}, api.ErrArg, 0, 0},
		{api.Pot{Have: full, Out: 1}, api.ErrArg, 0, 0},
		{api.Pot{Have: full - 5, Out: 4}, api.OK, full - 5, 1},
		{api.Pot{Have: full - 5, Out: 5}, api.OK, full - 5, 0},
		{api.Pot{Have: full - 5, Out: 6}, api.ErrArg, 0, 0},
		{api.Pot{Have: 1 << 62, Out: 1 << 62}, api.ErrArg, 0, 0},
		{api.Pot{Have: most, Out: most}, api.ErrArg, 0, 0},
		{api.Pot{Have: most, Out: 1}, api.ErrArg, 0, 0},
		{api.Pot{Have: 1, Out: most}, api.ErrArg, 0, 0},
		{api.Pot{Have: least, In: least}, api.ErrArg, 0, 0},
		{api.Pot{Have: least, In: least, Out: most}, api.ErrArg, 0, 0},
		{api.Pot{Have: most, In: most, Out: least}, api.ErrArg, 0, 0},
	} {
		if Check(c.p) != c.e || Free(c.p) != c.free || Room(c.p) != c.room {
			t.Errorf("%+v: Check %d, Free %d, Room %d; want %d, %d, %d", c.p, Check(c.p), Free(c.p), Room(c.p), c.e, c.free, c.room)
		}
	}
}

// P5.1: every pot of edges.
func TestPotsOfEdges(t *testing.T) {
	for _, p := range pots() {
		checkPot(t, p)
	}
}

// P5.2: the chapter's example.
func TestExample(t *testing.T) {
	p, e := Do(api.Pot{Have: 10}, true, 7)
	if p != (api.Pot{Have: 3, Out: 7}) || e != api.OK {
		t.Fatal(p, e)
	}
	p, e = Do(p, false, 5)
	if p != (api.Pot{Have: 8, In: 5, Out: 7}) || e != api.OK || Free(p) != 3 {
		t.Fatal(p, e)
	}
	if q, e := Do(p, true, 4); q != (api.Pot{}) || e != api.ErrPot {
		t.Error(q, e)
	}
	if q, e := Undo(p, true, 7); q != (api.Pot{Have: 15, In: 5}) || e != api.OK {
		t.Error(q, e)
	}
}

// P5.2: what is just there goes, one above does not, with all six ways written out.
func TestCallsByHand(t *testing.T) {
	p := api.Pot{Have: full - 20, In: 5, Out: 7}
	zero := api.Pot{}
	for _, c := range []struct {
		name string
		do   call
		out  bool
		a    int64
		q    api.Pot
		e    api.Errno
	}{
		{"Do", Do, true, 1, api.Pot{Have: full - 21, In: 5, Out: 8}, api.OK},
		{"Do", Do, true, full - 25, api.Pot{Have: 5, In: 5, Out: full - 18}, api.OK},
		{"Do", Do, true, full - 24, zero, api.ErrPot},
		{"Do", Do, false, 1, api.Pot{Have: full - 19, In: 6, Out: 7}, api.OK},
		{"Do", Do, false, 13, api.Pot{Have: full - 7, In: 18, Out: 7}, api.OK},
		{"Do", Do, false, 14, zero, api.ErrPot},
		{"Undo", Undo, true, 1, api.Pot{Have: full - 19, In: 5, Out: 6}, api.OK},
		{"Undo", Undo, true, 7, api.Pot{Have: full - 13, In: 5}, api.OK},
		{"Undo", Undo, true, 8, zero, api.ErrPot},
		{"Undo", Undo, false, 1, api.Pot{Have: full - 21, In: 4, Out: 7}, api.OK},
		{"Undo", Undo, false, 5, api.Pot{Have: full - 25, Out: 7}, api.OK},
		{"Undo", Undo, false, 6, zero, api.ErrPot},
		{"Keep", Keep, true, 1, api.Pot{Have: full - 20, In: 5, Out: 6}, api.OK},
		{"Keep", Keep, true, 7, api.Pot{Have: full - 20, In: 5}, api.OK},
		{"Keep", Keep, true, 8, zero, api.ErrPot},
		{"Keep", Keep, false, 1, api.Pot{Have: full - 20, In: 4, Out: 7}, api.OK},
		{"Keep", Keep, false, 5, api.Pot{Have: full - 20, Out: 7}, api.OK},
		{"Keep", Keep, false, 6, zero, api.ErrPot},
	} {
		if q, e := c.do(p, c.out, c.a); q != c.q || e != c.e {
			t.Errorf("%s(%+v, %t, %d) = %+v, %d; want %+v, %d", c.name, p, c.out, c.a, q, e, c.q, c.e)
		}
	}
}

// P5.2: the whole limit at once.
func TestWholeLimit(t *testing.T) {
	for _, c := range []struct {
		do   call
		p    api.Pot
		out  bool
		want api.Pot
	}{
		{Do, api.Pot{Have: full}, true, api.Pot{Out: full}},
		{Do, api.Pot{}, false, api.Pot{Have: full, In: full}},
		{Undo, api.Pot{Out: full}, true, api.Pot{Have: full}},
		{Undo, api.Pot{Have: full, In: full}, false, api.Pot{}},
		{Keep, api.Pot{Out: full}, true, api.Pot{}},
		{Keep, api.Pot{Have: full, In: full}, false, api.Pot{Have: full}},
	} {
		if q, e := c.do(c.p, c.out, full); q != c.want || e != api.OK {
			t.Errorf("%+v, %t: %+v, %d; want %+v", c.p, c.out, q, e, c.want)
		}
		if q, e := c.do(c.p, c.out, full+1); q != (api.Pot{}) || e != api.ErrArg {
			t.Errorf("%+v, %t, one above the limit: %+v, %d", c.p, c.out, q, e)
		}
	}
}

// P5.2: an amount, or a pot, that may not be is ErrArg, also where the pot has too little or too little room.
func TestArgAheadOfPot(t *testing.T) {
	for name, do := range named() {
		for _, out := range []bool{true, false} {
			for _, a := range []int64{least, -full, -1, 0, full + 1, 2 * full, most} {
				for _, p := range []api.Pot{{}, {Have: 9, In: 3, Out: 2}, {Have: full}, {Out: full}} {
					if q, e := do(p, out, a); q != (api.Pot{}) || e != api.ErrArg {
						t.Errorf("%s(%+v, %t, %d) = %+v, %d; want ErrArg", name, p, out, a, q, e)
					}
				}
			}
			for _, p := range []api.Pot{{Have: -1}, {In: 1}, {Have: 9, In: -5}, {Have: 9, Out: -1}, {Have: full, In: 9, Out: 9}, {Have: most, In: most, Out: most}} {
				for _, a := range []int64{1, 5, full, full + 1} {
					if q, e := do(p, out, a); q != (api.Pot{}) || e != api.ErrArg {
						t.Errorf("%s(%+v, %t, %d) = %+v, %d; want ErrArg", name, p, out, a, q, e)
					}
				}
			}
		}
	}
}

// P5.2: every pot of edges that may be with every amount of edges, and those around what it has; of the others, a few amounts.
func TestCallsOfEdges(t *testing.T) {
	for _, p := range pots() {
		amounts := []int64{0, 1, full}
		if may(p) {
			amounts = edges()
			for _, n := range []int64{p.Have - p.In, full - p.Have - p.Out, p.In, p.Out, p.Have} {
				amounts = append(amounts, n-1, n, n+1)
			}
		}
		for _, a := range amounts {
			checkCalls(t, p, a)
		}
	}
}

// P5.3: none, one, many, and what leaves the range of amounts; In and Out count for nothing.
func TestTotal(t *testing.T) {
	for _, c := range []struct {
		l    []api.Pot
		want int64
		e    api.Errno
	}{
		{nil, 0, api.OK},
		{[]api.Pot{}, 0, api.OK},
		{[]api.Pot{{}}, 0, api.OK},
		{[]api.Pot{{Have: 10, In: 3, Out: 4}}, 10, api.OK},
		{[]api.Pot{{Out: 4}}, 0, api.OK},
		{[]api.Pot{{Have: 3}, {Have: 4, In: 4}}, 7, api.OK},
		{[]api.Pot{{Have: full}, {Have: full, In: full}, {Have: 1, Out: 9}}, 2*full + 1, api.OK},
		{[]api.Pot{{Have: 3}, {Have: 3}, {Have: 3}}, 9, api.OK},
		{slices.Repeat([]api.Pot{{Have: full}}, 9223), 9223 * full, api.OK},
		{slices.Repeat([]api.Pot{{Have: full}}, 9224), 0, api.ErrCash},
		{append(slices.Repeat([]api.Pot{{Have: full}}, 9223), api.Pot{Have: 372036854775807}), most, api.OK},
		{append(slices.Repeat([]api.Pot{{Have: full}}, 9223), api.Pot{Have: 372036854775808}), 0, api.ErrCash},
	} {
		if n, e := Total(c.l...); n != c.want || e != c.e {
			t.Errorf("Total of %d pots = %d, %d; want %d, %d", len(c.l), n, e, c.want, c.e)
		}
	}
	if n, e := Total(); n != 0 || e != api.OK {
		t.Error(n, e)
	}
}

// P5.3: one that may not be, at any place among others, also ahead of and behind a sum that leaves the range.
func TestTotalOfWrongPots(t *testing.T) {
	for _, bad := range []api.Pot{{Have: -1}, {Have: 1, In: 2}, {In: -1}, {Out: -1}, {Have: full, Out: 1}, {Have: full + 1}, {Have: 1 << 62, Out: 1 << 62}, {Have: least, In: least}} {
		for n := range 6 {
			for at := range n + 1 {
				l := slices.Insert(slices.Repeat([]api.Pot{{Have: 2, In: 1, Out: 1}}, n), at, bad)
				if sum, e := Total(l...); sum != 0 || e != api.ErrArg {
					t.Errorf("Total(%+v) = %d, %d; want ErrArg", l, sum, e)
				}
			}
		}
		many := slices.Repeat([]api.Pot{{Have: full}}, 9300)
		for _, l := range [][]api.Pot{slices.Insert(slices.Clone(many), 0, bad), append(many, bad)} {
			if sum, e := Total(l...); sum != 0 || e != api.ErrArg {
				t.Errorf("Total of many and %+v = %d, %d; want ErrArg", bad, sum, e)
			}
		}
	}
}

// P5.3: what is handed in stays as it was, its spare room too.
func TestTotalChangesNothing(t *testing.T) {
	whole := []api.Pot{{Have: 3, In: 1}, {Have: 4, Out: 2}, {Have: 5}, {Have: 77}}
	was := slices.Clone(whole)
	if n, e := Total(whole[:2]...); n != 7 || e != api.OK || !slices.Equal(whole, was) {
		t.Error(n, e, whole)
	}
}

// doing is an amount that was done, and is pending.
type doing struct {
	out bool
	a   int64
}

// history is a pot, what it was at first, what is pending, and by how much what was kept has changed Have.
type history struct {
	first, now api.Pot
	pending    []doing
	kept       int64
}

// signed tells what an amount that goes out, or comes in, changes Have by.
func (d doing) signed() int64 {
	if d.out {
		return -d.a
	}
	return d.a
}

// begin tells the history in which one amount more is done, if the pot allows it.
func (h history) begin(t *testing.T, d doing) (history, bool) {
	t.Helper()
	p, e := Do(h.now, d.out, d.a)
	if e == api.ErrPot {
		return h, false
	}
	if e != api.OK || Check(p) != api.OK {
		t.Fatalf("%+v: Do %+v: %+v, %d", h, d, p, e)
	}
	h.now, h.pending = p, append(slices.Clone(h.pending), d)
	return h, true
}

// end tells the history in which the pending amount at a place is kept, or undone: that must always go.
func (h history) end(t *testing.T, at int, keep bool) history {
	t.Helper()
	d := h.pending[at]
	finish := Undo
	if keep {
		finish = Keep
		h.kept += d.signed()
	}
	p, e := finish(h.now, d.out, d.a)
	if e != api.OK || Check(p) != api.OK {
		t.Fatalf("%+v: keep %t of %+v: %+v, %d", h, keep, d, p, e)
	}
	h.now, h.pending = p, slices.Delete(slices.Clone(h.pending), at, at+1)
	return h
}

// endAll ends all that is pending in every order, each amount so as its place in keep says, and holds what comes of it against what was at first.
func (h history) endAll(t *testing.T, keep []bool) {
	t.Helper()
	if len(h.pending) == 0 {
		want := h.first
		want.Have += h.kept
		if h.now != want {
			t.Fatalf("%+v: all ended: want %+v", h, want)
		}
	}
	for at := range h.pending {
		h.end(t, at, keep[at]).endAll(t, slices.Delete(slices.Clone(keep), at, at+1))
	}
}

// endAnyhow ends all that is pending: with each choice of what is kept and what is undone, all kept and all undone among them.
func (h history) endAnyhow(t *testing.T) {
	t.Helper()
	for choice := range 1 << len(h.pending) {
		keep := make([]bool, len(h.pending))
		for i := range keep {
			keep[i] = choice>>i&1 == 1
		}
		h.endAll(t, keep)
	}
}

// everyRow does, undoes and keeps in every row of so many steps, and ends at each step all that is pending.
func (h history) everyRow(t *testing.T, steps int, amounts []int64) {
	t.Helper()
	h.endAnyhow(t)
	if steps == 0 {
		return
	}
	for _, a := range amounts {
		for _, out := range []bool{true, false} {
			if next, ok := h.begin(t, doing{out, a}); ok {
				next.everyRow(t, steps-1, amounts)
			}
		}
	}
	for at := range h.pending {
		h.end(t, at, true).everyRow(t, steps-1, amounts)
		h.end(t, at, false).everyRow(t, steps-1, amounts)
	}
}

// P5.4, P5.5: every short row, from pots that are empty, full, just below it, and have pending amounts of others.
func TestEveryRow(t *testing.T) {
	for _, p := range []api.Pot{
		{}, {Have: 3}, {Have: 5, In: 2}, {Have: 4, In: 4, Out: 3}, {Out: 2},
		{Have: full}, {Have: full - 2}, {Have: full - 3, In: 2, Out: 2}, {Out: full}, {Have: full, In: full}, {Have: full / 2, Out: full / 2},
	} {
		history{first: p, now: p}.everyRow(t, 4, []int64{1, 2})
		history{first: p, now: p}.everyRow(t, 3, []int64{1, full / 2, full - 1, full})
	}
}

// P5.4, P5.5: long rows by chance; at their ends all is undone, and kept, in many orders.
func TestLongRows(t *testing.T) {
	r := rand.New(rand.NewSource(5))
	for range 300 {
		scale := []int64{5, 1000, full / 3, full}[r.Intn(4)]
		have := r.Int63n(full + 1)
		p := api.Pot{Have: have, In: r.Int63n(have + 1), Out: r.Int63n(full - have + 1)}
		h := history{first: p, now: p}
		for range 60 {
			if n := len(h.pending); n > 0 && r.Intn(3) == 0 {
				h = h.end(t, r.Intn(n), r.Intn(2) == 0)
			} else {
				h, _ = h.begin(t, doing{r.Intn(2) == 0, 1 + r.Int63n(scale)})
			}
		}
		for range 20 {
			h.endByChance(t, r, 0)
			h.endByChance(t, r, 1)
			h.endByChance(t, r, 2)
		}
	}
}

// endByChance ends all that is pending in some order: undone (0), kept (1) or one as well as the other (2).
func (h history) endByChance(t *testing.T, r *rand.Rand, how int) {
	t.Helper()
	for len(h.pending) > 0 {
		keep := how == 1 || how == 2 && r.Intn(2) == 0
		h = h.end(t, r.Intn(len(h.pending)), keep)
	}
	h.endAll(t, nil)
}

// P5.4: of more than is pending nothing can be undone or kept.
func TestNoMoreThanPending(t *testing.T) {
	for _, out := range []bool{true, false} {
		p, e := Do(api.Pot{Have: 50}, out, 20)
		if e != api.OK {
			t.Fatal(e)
		}
		for name, end := range map[string]call{"Undo": Undo, "Keep": Keep} {
			if q, e := end(p, out, 21); q != (api.Pot{}) || e != api.ErrPot {
				t.Error(name, out, q, e)
			}
			if q, e := end(p, !out, 1); q != (api.Pot{}) || e != api.ErrPot {
				t.Error(name, !out, q, e)
			}
			q, _ := end(p, out, 20)
			for again, once := range map[string]call{"Undo": Undo, "Keep": Keep} {
				if q, e := once(q, out, 1); q != (api.Pot{}) || e != api.ErrPot {
					t.Error(name, again, out, q, e)
				}
			}
		}
	}
}

func checkOnce(t *testing.T, p api.Pot, out bool, a int64) {
	t.Helper()
	done, e := Do(p, out, a)
	if e != api.OK {
		return
	}
	if q, e := Undo(done, out, a); q != p || e != api.OK {
		t.Errorf("%+v, %t, %d: done and undone %+v, %d", p, out, a, q, e)
	}
	more := doing{out, a}.signed()
	q, e := Keep(done, out, a)
	if e != api.OK || Free(q) != Free(p)+more || Room(q) != Room(p)-more || q.In != p.In || q.Out != p.Out {
		t.Errorf("%+v, %t, %d: done and kept %+v, %d", p, out, a, q, e)
	}
}

// P5.6: done and undone at once, and done and kept, from every pot of edges and pots by chance.
func TestDoneAtOnce(t *testing.T) {
	for _, p := range pots() {
		if !may(p) {
			continue
		}
		for _, a := range append(edges(), Free(p)-1, Free(p), Room(p)-1, Room(p)) {
			checkOnce(t, p, true, a)
			checkOnce(t, p, false, a)
		}
	}
	r := rand.New(rand.NewSource(6))
	for range 20000 {
		have := r.Int63n(full + 1)
		p := api.Pot{Have: have, In: r.Int63n(have + 1), Out: r.Int63n(full - have + 1)}
		for _, out := range []bool{true, false} {
			a := 1 + r.Int63n(full)
			checkOnce(t, p, out, a)
			checkCalls(t, p, a)
		}
	}
}
