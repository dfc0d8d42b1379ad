package act

import (
	"math"
	"math/rand"
	"slices"
	"strings"
	"testing"
	"unsafe"

	"entente/api"
	"entente/pot"
)

const (
	most  = math.MaxInt64
	least = math.MinInt64
	full  = api.MaxCash
)

type call func(api.Account, api.Act) (api.Account, api.Errno)

type change func(api.Pot, bool, int64) (api.Pot, api.Errno)

// named has the calls that change an account, each with its name.
func named() map[string]call { return map[string]call{"Do": Do, "Undo": Undo, "Keep": Keep} }

// kinds has the four kinds of activities.
func kinds() []int { return []int{api.ActDebit, api.ActCredit, api.ActReserve, api.ActRelease} }

// isName tells by the chapter's words whether a text is a name: each byte is looked for among those that may stand at its place.
func isName(s string) bool {
	letters, digits := "abcdefghijklmnopqrstuvwxyz", "0123456789"
	for i := range len(s) {
		if i == 0 && !strings.Contains(letters, s[:1]) || !strings.Contains(letters+digits, s[i:i+1]) {
			return false
		}
	}
	return 1 <= len(s) && len(s) <= 16
}

func mayAct(a api.Act) bool {
	return slices.Contains(kinds(), a.Kind) && isName(a.Account) && a.Amount >= 1 && a.Amount <= 1000000000000000
}

func mayAccount(x api.Account) bool {
	return isName(x.Name) && pot.Check(x.Free) == api.OK && pot.Check(x.Kept) == api.OK
}

// told is what the chapter answers for the call that changes pots so, kind by kind.
func told(change change, x api.Account, a api.Act) (api.Account, api.Errno) {
	switch {
	case !mayAccount(x):
		return api.Account{}, api.ErrArg
	case !mayAct(a) || a.Account != x.Name:
		return api.Account{}, api.ErrAct
	}
	y := x
	var first, second api.Errno
	switch a.Kind {
	case api.ActDebit:
		y.Free, first = change(x.Free, true, a.Amount)
	case api.ActCredit:
		y.Free, first = change(x.Free, false, a.Amount)
	case api.ActReserve:
		y.Free, first = change(x.Free, true, a.Amount)
		y.Kept, second = change(x.Kept, false, a.Amount)
	case api.ActRelease:
		y.Kept, second = change(x.Kept, true, a.Amount)
		y.Free, first = change(x.Free, false, a.Amount)
	}
	if first != api.OK || second != api.OK {
		return api.Account{}, api.ErrPot
	}
	return y, api.OK
}

func checkCalls(t *testing.T, x api.Account, a api.Act) {
	t.Helper()
	for _, c := range []struct {
		name   string
		do     call
		change change
	}{{"Do", Do, pot.Do}, {"Undo", Undo, pot.Undo}, {"Keep", Keep, pot.Keep}} {
		want, wantErr := told(c.change, x, a)
		if y, e := c.do(x, a); y != want || e != wantErr {
			t.Errorf("%s(%+v, %+v) = %+v, %d; want %+v, %d", c.name, x, a, y, e, want, wantErr)
		}
	}
}

func checkName(t *testing.T, s string) {
	t.Helper()
	want := isName(s)
	a := api.Act{Kind: api.ActCredit, Account: s, Amount: 1}
	x := api.Account{Name: s}
	wantAct, wantMay := api.ErrAct, api.ErrArg
	if want {
		wantAct, wantMay = api.OK, api.OK
	}
	if Name(s) != want || Check(a) != wantAct || May(x) != wantMay {
		t.Errorf("%q: Name %t, Check %d, May %d; want %t", s, Name(s), Check(a), May(x), want)
	}
	checkCalls(t, x, a)
}

// P6.1: names, each with what it is written out.
func TestNamesByHand(t *testing.T) {
	for s, want := range map[string]bool{
		"": false, "a": true, "z": true, "m": true, "a0": true, "z9": true, "cash": true, "x1y2z3": true, "a00000": true,
		"0": false, "9": false, "0a": false, "9z": false, "1cash": false,
		"A": false, "Z": false, "Cash": false, "cAsh": false, "casH": false, "aB": false, "a1Z": false,
		"_": false, "a_": false, "a-b": false, "a b": false, " a": false, "a ": false, "a\n": false, "a\x00": false, "\x00": false, "a.b": false, "a/": false, "a:": false, "a`": false, "`": false, "{": false, "a{": false, "a@": false, "a[": false,
		"ä": false, "aä": false, "a\xff": false, "\xff": false, "a\x80b": false, "é1": false, "a٣": false, "ａ": false,
		"abcdefghijklmnop": true, "a234567890123456": true, "abcdefghijklmnopq": false, "a2345678901234567": false,
		"abcdefghijklmno_": false, "abcdefghijklmnoP": false, "1bcdefghijklmnop": false,
	} {
		if Name(s) != want {
			t.Errorf("Name(%q) = %t", s, !want)
		}
		checkName(t, s)
	}
}

// P6.1: every text of one byte, and of two; every byte at every place of names of all lengths.
func TestNamesOfEveryByte(t *testing.T) {
	for b := range 256 {
		checkName(t, string([]byte{byte(b)}))
		for c := range 256 {
			checkName(t, string([]byte{byte(b), byte(c)}))
		}
		for n := 1; n <= 18; n++ {
			for at := range n {
				s := []byte(strings.Repeat("k", n))
				s[at] = byte(b)
				checkName(t, string(s))
			}
		}
	}
}

// P6.1: names of all lengths, up to far above the limit.
func TestNamesOfEveryLength(t *testing.T) {
	for n := range 100 {
		for _, s := range []string{strings.Repeat("a", n), "z" + strings.Repeat("9", n), strings.Repeat("7", n)} {
			checkName(t, s)
		}
	}
	checkName(t, strings.Repeat("a", 1<<20))
}

// P6.1: each kind, and kinds that are none; each edge of amounts.
func TestCheck(t *testing.T) {
	amounts := map[int64]api.Errno{
		least: api.ErrAct, -full: api.ErrAct, -2: api.ErrAct, -1: api.ErrAct, 0: api.ErrAct, 1: api.OK, 2: api.OK, 100: api.OK,
		full - 1: api.OK, full: api.OK, full + 1: api.ErrAct, 2 * full: api.ErrAct, most: api.ErrAct,
	}
	for _, kind := range kinds() {
		for n, want := range amounts {
			if e := Check(api.Act{Kind: kind, Account: "cash", Amount: n}); e != want {
				t.Errorf("kind %d, amount %d: %d; want %d", kind, n, e, want)
			}
			if e := Check(api.Act{Kind: kind, Account: "Cash", Amount: n}); e != api.ErrAct {
				t.Errorf("kind %d, amount %d on no name: %d", kind, n, e)
			}
		}
	}
	for _, kind := range noKinds() {
		for n := range amounts {
			if e := Check(api.Act{Kind: kind, Account: "cash", Amount: n}); e != api.ErrAct {
				t.Errorf("kind %d, amount %d: %d; want ErrAct", kind, n, e)
			}
		}
	}
	if e := Check(api.Act{}); e != api.ErrAct {
		t.Error(e)
	}
}

// noKinds has numbers that are no kind.
func noKinds() []int {
	return []int{math.MinInt, -4, -3, -2, -1, 0, 5, 6, 7, 8, 256 + 1, 1<<32 + 1, math.MaxInt}
}

// wrongPots has pots that may not be.
func wrongPots() []api.Pot {
	return []api.Pot{
		{Have: -1}, {In: 1}, {In: -1}, {Have: 5, In: 6}, {Out: -1}, {Have: 5, Out: -1}, {Have: full + 1}, {Have: full, Out: 1}, {Out: full + 1},
		{Have: 1 << 62, Out: 1 << 62}, {Have: most, In: most, Out: most}, {Have: least, In: least, Out: most},
	}
}

// P6.1: accounts of which one pot, the other, or the name may not be.
func TestMay(t *testing.T) {
	good := []api.Pot{{}, {Have: 10}, {Have: 10, In: 10}, {Have: 10, In: 3, Out: 4}, {Have: full}, {Out: full}, {Have: full - 1, In: 1, Out: 1}}
	for _, p := range good {
		for _, q := range good {
			if e := May(api.Account{Name: "cash", Free: p, Kept: q}); e != api.OK {
				t.Errorf("%+v and %+v: %d", p, q, e)
			}
			for _, s := range []string{"", "1", "Cash", "a_", strings.Repeat("a", 17)} {
				if e := May(api.Account{Name: s, Free: p, Kept: q}); e != api.ErrArg {
					t.Errorf("%q: %+v and %+v: %d", s, p, q, e)
				}
			}
		}
		for _, bad := range wrongPots() {
			for _, x := range []api.Account{{Name: "cash", Free: bad, Kept: p}, {Name: "cash", Free: p, Kept: bad}, {Name: "cash", Free: bad, Kept: bad}} {
				if e := May(x); e != api.ErrArg {
					t.Errorf("%+v: %d", x, e)
				}
			}
		}
	}
	if e := May(api.Account{}); e != api.ErrArg {
		t.Error(e)
	}
}

// P6.2: the chapter's example.
func TestExample(t *testing.T) {
	x, e := Do(api.Account{Name: "cash", Free: api.Pot{Have: 10}}, api.Act{Kind: api.ActReserve, Account: "cash", Amount: 4})
	if x != (api.Account{Name: "cash", Free: api.Pot{Have: 6, Out: 4}, Kept: api.Pot{Have: 4, In: 4}}) || e != api.OK {
		t.Fatal(x, e)
	}
	if y, e := Do(x, api.Act{Kind: api.ActRelease, Account: "cash", Amount: 1}); y != (api.Account{}) || e != api.ErrPot {
		t.Error(y, e)
	}
}

// P6.2: each call with each kind, with all that comes of it written out; no other pot is touched.
func TestCallsByHand(t *testing.T) {
	x := api.Account{Name: "till", Free: api.Pot{Have: 100, In: 20, Out: 30}, Kept: api.Pot{Have: 70, In: 15, Out: 25}}
	for _, c := range []struct {
		name       string
		kind       int
		free, kept api.Pot
	}{
		{"Do", api.ActDebit, api.Pot{Have: 90, In: 20, Out: 40}, x.Kept},
		{"Do", api.ActCredit, api.Pot{Have: 110, In: 30, Out: 30}, x.Kept},
		{"Do", api.ActReserve, api.Pot{Have: 90, In: 20, Out: 40}, api.Pot{Have: 80, In: 25, Out: 25}},
		{"Do", api.ActRelease, api.Pot{Have: 110, In: 30, Out: 30}, api.Pot{Have: 60, In: 15, Out: 35}},
		{"Undo", api.ActDebit, api.Pot{Have: 110, In: 20, Out: 20}, x.Kept},
		{"Undo", api.ActCredit, api.Pot{Have: 90, In: 10, Out: 30}, x.Kept},
		{"Undo", api.ActReserve, api.Pot{Have: 110, In: 20, Out: 20}, api.Pot{Have: 60, In: 5, Out: 25}},
		{"Undo", api.ActRelease, api.Pot{Have: 90, In: 10, Out: 30}, api.Pot{Have: 80, In: 15, Out: 15}},
		{"Keep", api.ActDebit, api.Pot{Have: 100, In: 20, Out: 20}, x.Kept},
		{"Keep", api.ActCredit, api.Pot{Have: 100, In: 10, Out: 30}, x.Kept},
		{"Keep", api.ActReserve, api.Pot{Have: 100, In: 20, Out: 20}, api.Pot{Have: 70, In: 5, Out: 25}},
		{"Keep", api.ActRelease, api.Pot{Have: 100, In: 10, Out: 30}, api.Pot{Have: 70, In: 15, Out: 15}},
	} {
		want := api.Account{Name: "till", Free: c.free, Kept: c.kept}
		if y, e := named()[c.name](x, api.Act{Kind: c.kind, Account: "till", Amount: 10}); y != want || e != api.OK {
			t.Errorf("%s of kind %d: %+v, %d; want %+v", c.name, c.kind, y, e, want)
		}
	}
}

// P6.2: for each call and kind, just enough in both pots, one too little in Free, one in Kept, one in both.
func TestJustEnough(t *testing.T) {
	const n = 10
	enough := map[string][2]api.Pot{ // for what goes out, and for what comes in
		"Do":   {{Have: n + 3, In: 3, Out: 4}, {Have: full - n - 4, In: 3, Out: 4}},
		"Undo": {{Have: 8, In: 3, Out: n}, {Have: n + 2, In: n, Out: 5}},
		"Keep": {{Have: 8, In: 3, Out: n}, {Have: n + 2, In: n, Out: 5}},
	}
	little := map[string][2]api.Pot{
		"Do":   {{Have: n + 2, In: 3, Out: 4}, {Have: full - n - 3, In: 3, Out: 4}},
		"Undo": {{Have: 8, In: 3, Out: n - 1}, {Have: n + 2, In: n - 1, Out: 5}},
		"Keep": {{Have: 8, In: 3, Out: n - 1}, {Have: n + 2, In: n - 1, Out: 5}},
	}
	other := api.Pot{Have: 1, In: 1} // of this nothing is free, nor went out
	const out, in, none = 0, 1, 2
	for _, c := range []struct{ kind, free, kept int }{{api.ActDebit, out, none}, {api.ActCredit, in, none}, {api.ActReserve, out, in}, {api.ActRelease, in, out}} {
		for name, do := range named() {
			pick := func(way int, just bool) api.Pot {
				switch {
				case way == none:
					return other
				case just:
					return enough[name][way]
				}
				return little[name][way]
			}
			for _, just := range [][2]bool{{true, true}, {true, false}, {false, true}, {false, false}} {
				x := api.Account{Name: "a", Free: pick(c.free, just[0]), Kept: pick(c.kept, just[1])}
				a := api.Act{Kind: c.kind, Account: "a", Amount: n}
				y, e := do(x, a)
				if just[0] && (just[1] || c.kept == none) {
					if e != api.OK || y.Name != "a" || c.kept == none && y.Kept != other {
						t.Errorf("%s(%+v, %+v) = %+v, %d; want OK", name, x, a, y, e)
					}
				} else if y != (api.Account{}) || e != api.ErrPot {
					t.Errorf("%s(%+v, %+v) = %+v, %d; want ErrPot", name, x, a, y, e)
				}
				checkCalls(t, x, a)
			}
		}
	}
}

// P6.2: the whole limit at once, of each kind, done, undone and kept.
func TestWholeLimit(t *testing.T) {
	has, went, came := api.Pot{Have: full}, api.Pot{Out: full}, api.Pot{Have: full, In: full}
	for _, c := range []struct {
		kind                int
		before, after, kept api.Account
	}{
		{api.ActDebit, api.Account{Free: has, Kept: has}, api.Account{Free: went, Kept: has}, api.Account{Kept: has}},
		{api.ActCredit, api.Account{Kept: has}, api.Account{Free: came, Kept: has}, api.Account{Free: has, Kept: has}},
		{api.ActReserve, api.Account{Free: has}, api.Account{Free: went, Kept: came}, api.Account{Kept: has}},
		{api.ActRelease, api.Account{Kept: has}, api.Account{Free: came, Kept: went}, api.Account{Free: has}},
	} {
		c.before.Name, c.after.Name, c.kept.Name = "a", "a", "a"
		a := api.Act{Kind: c.kind, Account: "a", Amount: full}
		if y, e := Do(c.before, a); y != c.after || e != api.OK {
			t.Errorf("kind %d: done %+v, %d", c.kind, y, e)
		}
		if y, e := Undo(c.after, a); y != c.before || e != api.OK {
			t.Errorf("kind %d: undone %+v, %d", c.kind, y, e)
		}
		if y, e := Keep(c.after, a); y != c.kept || e != api.OK {
			t.Errorf("kind %d: kept %+v, %d", c.kind, y, e)
		}
		a.Amount++
		for name, do := range named() {
			for _, x := range []api.Account{c.before, c.after, c.kept} {
				if y, e := do(x, a); y != (api.Account{}) || e != api.ErrAct {
					t.Errorf("kind %d: %s, one above the limit: %+v, %d", c.kind, name, y, e)
				}
			}
		}
	}
}

// P6.2: an account that may not be is ErrArg, whatever the activity; then one that may not be, or of another name, is ErrAct, whatever the pots have.
func TestOrderOfErrors(t *testing.T) {
	good := api.Account{Name: "cash", Free: api.Pot{Have: 9, In: 1, Out: 2}, Kept: api.Pot{Have: 9, In: 1, Out: 2}}
	empty := api.Account{Name: "cash"}
	wrong := []api.Account{{}, {Name: "Cash", Free: good.Free, Kept: good.Kept}, {Name: strings.Repeat("a", 17)}, {Name: "1"}}
	for _, bad := range wrongPots() {
		wrong = append(wrong, api.Account{Name: "cash", Free: bad, Kept: good.Kept}, api.Account{Name: "cash", Free: good.Free, Kept: bad})
	}
	bad := []api.Act{{}, {Account: "cash", Amount: 1}, {Kind: 5, Account: "cash", Amount: 1}, {Kind: -1, Account: "cash", Amount: 1}}
	for _, kind := range kinds() {
		for _, n := range []int64{least, -1, 0, full + 1, most} {
			bad = append(bad, api.Act{Kind: kind, Account: "cash", Amount: n})
		}
		for _, s := range []string{"", "Cash", "cas", "cashs", "bash", "cast", "cbsh", "1", "other", "cash\x00", strings.Repeat("c", 17)} {
			bad = append(bad, api.Act{Kind: kind, Account: s, Amount: 1}, api.Act{Kind: kind, Account: s, Amount: 100})
		}
	}
	for name, do := range named() {
		for _, a := range append(slices.Clone(bad), api.Act{Kind: api.ActDebit, Account: "cash", Amount: 1}, api.Act{Kind: api.ActRelease, Account: "cash", Amount: 100}, api.Act{Kind: api.ActCredit, Account: "Cash", Amount: 1}) {
			for _, x := range wrong {
				if y, e := do(x, a); y != (api.Account{}) || e != api.ErrArg {
					t.Errorf("%s(%+v, %+v) = %+v, %d; want ErrArg", name, x, a, y, e)
				}
			}
		}
		for _, a := range bad {
			for _, x := range []api.Account{good, empty} {
				if y, e := do(x, a); y != (api.Account{}) || e != api.ErrAct {
					t.Errorf("%s(%+v, %+v) = %+v, %d; want ErrAct", name, x, a, y, e)
				}
			}
		}
	}
}

// edges has pots at which something changes for small amounts and for great ones, and a few that may not be.
func edges() []api.Pot {
	var l []api.Pot
	sizes := []int64{-1, 0, 1, 2, 3, full/2 - 1, full / 2, full/2 + 1, full - 2, full - 1, full, full + 1}
	for _, have := range sizes {
		for _, in := range sizes {
			for _, out := range sizes {
				p := api.Pot{Have: have, In: in, Out: out}
				if pot.Check(p) == api.OK {
					l = append(l, p)
				}
			}
		}
	}
	return append(l, api.Pot{Have: -1}, api.Pot{Have: full, Out: 1}, api.Pot{In: most})
}

// P6.2: every two pots of edges with each kind, and one that is none, and amounts of edges.
func TestCallsOfEdges(t *testing.T) {
	pots := edges()
	for _, p := range pots {
		for _, q := range pots {
			x := api.Account{Name: "k7", Free: p, Kept: q}
			for kind := range 6 {
				for _, n := range []int64{0, 1, 2, full / 2, full - 1, full, full + 1} {
					checkCalls(t, x, api.Act{Kind: kind, Account: "k7", Amount: n})
				}
			}
		}
	}
}

// P6.2: the name that is handed out is new memory, also of an activity's.
func TestNewMemory(t *testing.T) {
	for name, do := range named() {
		for _, kind := range kinds() {
			p := api.Pot{Have: 9, In: 2, Out: 2}
			x := api.Account{Name: strings.Clone("cash"), Free: p, Kept: p}
			a := api.Act{Kind: kind, Account: strings.Clone("cash"), Amount: 1}
			y, e := do(x, a)
			if e != api.OK || y.Name != "cash" {
				t.Fatal(name, kind, y, e)
			}
			if at := unsafe.StringData(y.Name); at == unsafe.StringData(x.Name) || at == unsafe.StringData(a.Account) {
				t.Errorf("%s of kind %d: the name is not new", name, kind)
			}
		}
	}
}

// P6.3: each kind with each edge of amounts; of what may not be 0 and 0.
func TestDelta(t *testing.T) {
	for _, n := range []int64{1, 2, 1234, full - 1, full} {
		for kind, want := range map[int][2]int64{
			api.ActDebit: {-n, 0}, api.ActCredit: {n, 0}, api.ActReserve: {-n, n}, api.ActRelease: {n, -n},
			0: {}, 5: {}, -1: {}, math.MaxInt: {}, math.MinInt: {}, 1<<32 + 1: {},
		} {
			if free, kept := Delta(api.Act{Kind: kind, Account: "cash", Amount: n}); [2]int64{free, kept} != want {
				t.Errorf("kind %d, amount %d: %d, %d; want %v", kind, n, free, kept, want)
			}
			for _, s := range []string{"", "Cash", "7", "a_b", strings.Repeat("a", 17)} {
				if free, kept := Delta(api.Act{Kind: kind, Account: s, Amount: n}); free != 0 || kept != 0 {
					t.Errorf("kind %d on %q: %d, %d; want 0 and 0", kind, s, free, kept)
				}
			}
		}
	}
	for _, kind := range append(kinds(), noKinds()...) {
		for _, n := range []int64{least, -full, -1, 0, full + 1, most} {
			if free, kept := Delta(api.Act{Kind: kind, Account: "cash", Amount: n}); free != 0 || kept != 0 {
				t.Errorf("kind %d, amount %d: %d, %d; want 0 and 0", kind, n, free, kept)
			}
		}
	}
}

// checkOnce does an activity, if the account allows it, and holds what comes of undoing and keeping it against what was.
func checkOnce(t *testing.T, x api.Account, a api.Act) bool {
	t.Helper()
	done, e := Do(x, a)
	if e != api.OK {
		return false
	}
	free, kept := Delta(a)
	if May(done) != api.OK || done.Name != x.Name || done.Free.Have-x.Free.Have != free || done.Kept.Have-x.Kept.Have != kept {
		t.Errorf("%+v, %+v: done %+v, not changed by %d and %d", x, a, done, free, kept)
	}
	if y, e := Undo(done, a); y != x || e != api.OK {
		t.Errorf("%+v, %+v: done and undone %+v, %d", x, a, y, e)
	}
	want := x
	want.Free.Have += free
	want.Kept.Have += kept
	if y, e := Keep(done, a); y != want || e != api.OK {
		t.Errorf("%+v, %+v: done and kept %+v, %d; want %+v", x, a, y, e, want)
	}
	if a.Kind == api.ActReserve || a.Kind == api.ActRelease {
		checkTotals(t, x, a)
	}
	return true
}

// checkTotals holds what both pots have together against what they had, done, undone and kept.
func checkTotals(t *testing.T, x api.Account, a api.Act) {
	t.Helper()
	had, _ := pot.Total(x.Free, x.Kept)
	done, _ := Do(x, a)
	undone, _ := Undo(done, a)
	kept, _ := Keep(done, a)
	for _, y := range []api.Account{done, undone, kept} {
		if has, e := pot.Total(y.Free, y.Kept); has != had || e != api.OK {
			t.Errorf("%+v, %+v: %+v has %d together, had %d", x, a, y, has, had)
		}
	}
}

// P6.4, P6.5: done and undone, done and kept, of each kind, from every two pots of edges, and by chance.
func TestDoneAtOnce(t *testing.T) {
	pots := edges()
	done := map[int]int{}
	for _, p := range pots {
		for _, q := range pots {
			x := api.Account{Name: "a", Free: p, Kept: q}
			for _, kind := range kinds() {
				for _, n := range []int64{1, 2, full / 2, full - 1, full} {
					if checkOnce(t, x, api.Act{Kind: kind, Account: "a", Amount: n}) {
						done[kind]++
					}
				}
			}
		}
	}
	r := rand.New(rand.NewSource(6))
	for range 50000 {
		x := api.Account{Name: "a", Free: somePot(r), Kept: somePot(r)}
		a := api.Act{Kind: 1 + r.Intn(4), Account: "a", Amount: 1 + r.Int63n([]int64{9, full / 9, full}[r.Intn(3)])}
		checkCalls(t, x, a)
		checkOnce(t, x, a)
	}
	for _, kind := range kinds() {
		if done[kind] == 0 {
			t.Errorf("kind %d was never done", kind)
		}
	}
}

// somePot has some pot that may be, by chance.
func somePot(r *rand.Rand) api.Pot {
	have := r.Int63n(full + 1)
	return api.Pot{Have: have, In: r.Int63n(have + 1), Out: r.Int63n(full - have + 1)}
}

// history is an account, what it was at first, what is pending, and what was kept.
type history struct {
	first, now    api.Account
	pending, kept []api.Act
}

// begin tells the history in which one activity more is done, if the account allows it.
func (h history) begin(t *testing.T, a api.Act) (history, bool) {
	t.Helper()
	x, e := Do(h.now, a)
	if e == api.ErrPot {
		return h, false
	}
	if e != api.OK || May(x) != api.OK {
		t.Fatalf("%+v: Do %+v: %+v, %d", h, a, x, e)
	}
	h.now, h.pending = x, append(slices.Clone(h.pending), a)
	return h, true
}

// end tells the history in which the pending activity at a place is kept, or undone: that must always go.
func (h history) end(t *testing.T, at int, keep bool) history {
	t.Helper()
	a, finish := h.pending[at], Undo
	if keep {
		finish = Keep
		h.kept = append(slices.Clone(h.kept), a)
	}
	x, e := finish(h.now, a)
	if e != api.OK || May(x) != api.OK {
		t.Fatalf("%+v: keep %t of %+v: %+v, %d", h, keep, a, x, e)
	}
	h.now, h.pending = x, slices.Delete(slices.Clone(h.pending), at, at+1)
	return h
}

// endAll ends all that is pending in every order, undone or kept, and holds what comes of it against what was at first and what was kept.
func (h history) endAll(t *testing.T) {
	t.Helper()
	if len(h.pending) == 0 {
		want := h.first
		for _, a := range h.kept {
			free, kept := Delta(a)
			want.Free.Have += free
			want.Kept.Have += kept
		}
		if h.now != want {
			t.Fatalf("%+v: all ended: want %+v", h, want)
		}
	}
	for at := range h.pending {
		h.end(t, at, true).endAll(t)
		h.end(t, at, false).endAll(t)
	}
}

// everyRow does, undoes and keeps in every row of so many steps, and ends at each step all that is pending.
func (h history) everyRow(t *testing.T, steps int, amounts []int64) {
	t.Helper()
	h.endAll(t)
	if steps == 0 {
		return
	}
	for _, n := range amounts {
		for _, kind := range kinds() {
			if next, ok := h.begin(t, api.Act{Kind: kind, Account: h.now.Name, Amount: n}); ok {
				next.everyRow(t, steps-1, amounts)
			}
		}
	}
}

// P6.4: what is done can be undone and kept, among others that are pending, in every order.
func TestEveryRow(t *testing.T) {
	for _, pots := range [][2]api.Pot{
		{{}, {}}, {{Have: 4}, {}}, {{}, {Have: 4}}, {{Have: 5, In: 2, Out: 1}, {Have: 3, In: 1, Out: 2}},
		{{Have: full}, {Have: full}}, {{Have: full - 2}, {Have: 3}}, {{Have: 2, Out: full - 3}, {Have: full - 1, In: 1}},
	} {
		x := api.Account{Name: "cash", Free: pots[0], Kept: pots[1]}
		history{first: x, now: x}.everyRow(t, 3, []int64{1, 2})
		history{first: x, now: x}.everyRow(t, 3, []int64{full / 2, full - 1})
	}
}

// P6.4: long rows by chance, undone in reverse order, as sagas go back, and kept.
func TestLongRows(t *testing.T) {
	r := rand.New(rand.NewSource(66))
	for range 300 {
		x := api.Account{Name: "cash", Free: somePot(r), Kept: somePot(r)}
		h := history{first: x, now: x}
		scale := []int64{5, 1000, full / 4}[r.Intn(3)]
		for range 40 {
			if n := len(h.pending); n > 0 && r.Intn(3) == 0 {
				h = h.end(t, r.Intn(n), r.Intn(2) == 0)
			} else {
				h, _ = h.begin(t, api.Act{Kind: 1 + r.Intn(4), Account: "cash", Amount: 1 + r.Int63n(scale)})
			}
		}
		back, kept := h, h
		for len(back.pending) > 0 {
			back = back.end(t, len(back.pending)-1, false)
			kept = kept.end(t, r.Intn(len(kept.pending)), true)
		}
		back.endAll(t)
		kept.endAll(t)
	}
}

// P6.4: what is undone, or kept, once can't be so a second time, and no other kind can be so in its stead.
func TestEndedOnce(t *testing.T) {
	x := api.Account{Name: "a", Free: api.Pot{Have: 50}, Kept: api.Pot{Have: 50}}
	for _, kind := range kinds() {
		a := api.Act{Kind: kind, Account: "a", Amount: 20}
		done, e := Do(x, a)
		if e != api.OK {
			t.Fatal(kind, e)
		}
		above := a
		above.Amount++
		for name, end := range map[string]call{"Undo": Undo, "Keep": Keep} {
			if y, e := end(x, a); y != (api.Account{}) || e != api.ErrPot {
				t.Errorf("kind %d: %s of what was not done: %+v, %d", kind, name, y, e)
			}
			if y, e := end(done, above); y != (api.Account{}) || e != api.ErrPot {
				t.Errorf("kind %d: %s of one more: %+v, %d", kind, name, y, e)
			}
			ended, _ := end(done, a)
			for again, once := range map[string]call{"Undo": Undo, "Keep": Keep} {
				if y, e := once(ended, a); y != (api.Account{}) || e != api.ErrPot {
					t.Errorf("kind %d: %s, then %s: %+v, %d", kind, name, again, y, e)
				}
			}
		}
	}
}

// P6.5: rows of reserving and releasing, done, undone and kept by chance, leave what both pots have together as it was.
func TestTotals(t *testing.T) {
	r := rand.New(rand.NewSource(65))
	for range 300 {
		x := api.Account{Name: "a", Free: somePot(r), Kept: somePot(r)}
		had, _ := pot.Total(x.Free, x.Kept)
		h := history{first: x, now: x}
		for range 40 {
			if n := len(h.pending); n > 0 && r.Intn(2) == 0 {
				h = h.end(t, r.Intn(n), r.Intn(2) == 0)
			} else {
				h, _ = h.begin(t, api.Act{Kind: api.ActReserve + r.Intn(2), Account: "a", Amount: 1 + r.Int63n(full/5)})
			}
			if has, e := pot.Total(h.now.Free, h.now.Kept); has != had || e != api.OK {
				t.Fatalf("%+v: has %d together, had %d", h, has, had)
			}
		}
	}
}
