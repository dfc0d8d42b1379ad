package ledger

import (
	"cmp"
	"fmt"
	"math"
	"math/rand"
	"slices"
	"strconv"
	"strings"
	"testing"
	"unsafe"

	"entente/act"
	"entente/api"
)

const (
	most  = math.MaxInt64
	least = math.MinInt64
	full  = api.MaxCash
)

type ending func(api.Ledger, string) (api.Ledger, api.Errno)

func kinds() []int { return []int{api.ActDebit, api.ActCredit, api.ActReserve, api.ActRelease} }

func states() []int { return []int{api.MarkDone, api.MarkUndone, api.MarkKept} }

func debit(account string, amount int64) api.Act {
	return api.Act{Kind: api.ActDebit, Account: account, Amount: amount}
}

func credit(account string, amount int64) api.Act {
	return api.Act{Kind: api.ActCredit, Account: account, Amount: amount}
}

func reserve(account string, amount int64) api.Act {
	return api.Act{Kind: api.ActReserve, Account: account, Amount: amount}
}

func release(account string, amount int64) api.Act {
	return api.Act{Kind: api.ActRelease, Account: account, Amount: amount}
}

func same(l, m api.Ledger) bool {
	return slices.Equal(l.Accounts, m.Accounts) && slices.Equal(l.Marks, m.Marks)
}

func none(l api.Ledger) bool { return len(l.Accounts) == 0 && len(l.Marks) == 0 }

func twin(l api.Ledger) api.Ledger {
	return api.Ledger{Accounts: slices.Clone(l.Accounts), Marks: slices.Clone(l.Marks)}
}

func mustOpen(t *testing.T, l api.Ledger, name string, amount int64) api.Ledger {
	t.Helper()
	m, e := Open(l, name, amount)
	if e != api.OK {
		t.Fatalf("Open %q with %d: %d", name, amount, e)
	}
	return m
}

func mustDo(t *testing.T, l api.Ledger, key string, a api.Act) api.Ledger {
	t.Helper()
	m, e := Do(l, key, a)
	if e != api.OK {
		t.Fatalf("Do %q: %+v: %d", key, a, e)
	}
	return m
}

func mustEnd(t *testing.T, l api.Ledger, key string, end ending) api.Ledger {
	t.Helper()
	m, e := end(l, key)
	if e != api.OK {
		t.Fatalf("end %q: %d", key, e)
	}
	return m
}

// mayBe tells by the chapter's words whether a ledger may be: what must be pending is put down pot by pot, kind by kind.
func mayBe(l api.Ledger) bool {
	if len(l.Accounts) > 12 || len(l.Marks) > 500 {
		return false
	}
	pots := map[string][2]api.Pot{}
	var names, keys []string
	for _, x := range l.Accounts {
		if act.May(x) != api.OK {
			return false
		}
		pots[x.Name] = [2]api.Pot{}
		names = append(names, x.Name)
	}
	for _, m := range l.Marks {
		p, there := pots[m.Act.Account]
		if len(m.Key) < 1 || len(m.Key) > 100 || act.Check(m.Act) != api.OK || !there || !slices.Contains(states(), m.State) {
			return false
		}
		keys = append(keys, m.Key)
		if m.State == api.MarkDone {
			pots[m.Act.Account] = waits(p, m.Act)
		}
	}
	for _, x := range l.Accounts {
		p := pots[x.Name]
		if x.Free.In != p[0].In || x.Free.Out != p[0].Out || x.Kept.In != p[1].In || x.Kept.Out != p[1].Out {
			return false
		}
	}
	return rising(names) && rising(keys)
}

func waits(p [2]api.Pot, a api.Act) [2]api.Pot {
	switch a.Kind {
	case api.ActDebit:
		p[0].Out += a.Amount
	case api.ActCredit:
		p[0].In += a.Amount
	case api.ActReserve:
		p[0].Out += a.Amount
		p[1].In += a.Amount
	case api.ActRelease:
		p[1].Out += a.Amount
		p[0].In += a.Amount
	}
	return p
}

func rising(l []string) bool {
	sorted := slices.Clone(l)
	slices.Sort(sorted)
	return slices.Equal(l, slices.Compact(sorted))
}

// accountAt and markAt look at each one, from the first on; -1 is none.
func accountAt(l api.Ledger, name string) int {
	return slices.IndexFunc(l.Accounts, func(x api.Account) bool { return x.Name == name })
}

func markAt(l api.Ledger, key string) int {
	return slices.IndexFunc(l.Marks, func(m api.Mark) bool { return m.Key == key })
}

func toldOpen(l api.Ledger, name string, amount int64) (api.Ledger, api.Errno) {
	switch {
	case !mayBe(l) || !act.Name(name) || amount < 0 || amount > full:
		return api.Ledger{}, api.ErrArg
	case accountAt(l, name) >= 0:
		return api.Ledger{}, api.ErrTwice
	case len(l.Accounts) == 12:
		return api.Ledger{}, api.ErrBig
	}
	m := twin(l)
	m.Accounts = append(m.Accounts, api.Account{Name: name, Free: api.Pot{Have: amount}})
	slices.SortFunc(m.Accounts, func(x, y api.Account) int { return cmp.Compare(x.Name, y.Name) })
	return m, api.OK
}

func toldDo(l api.Ledger, key string, a api.Act) (api.Ledger, api.Errno) {
	if !mayBe(l) || len(key) < 1 || len(key) > 100 {
		return api.Ledger{}, api.ErrArg
	}
	if act.Check(a) != api.OK {
		return api.Ledger{}, api.ErrAct
	}
	if at := markAt(l, key); at >= 0 {
		if l.Marks[at] == (api.Mark{Key: key, Act: a, State: api.MarkDone}) {
			return l, api.OK
		}
		return api.Ledger{}, api.ErrKey
	}
	at := accountAt(l, a.Account)
	if at < 0 {
		return api.Ledger{}, api.ErrNone
	}
	if len(l.Marks) == 500 {
		return api.Ledger{}, api.ErrBig
	}
	x, e := act.Do(l.Accounts[at], a)
	if e != api.OK {
		return api.Ledger{}, e
	}
	m := twin(l)
	m.Accounts[at] = x
	m.Marks = append(m.Marks, api.Mark{Key: key, Act: a, State: api.MarkDone})
	slices.SortFunc(m.Marks, func(x, y api.Mark) int { return cmp.Compare(x.Key, y.Key) })
	return m, api.OK
}

func toldEnd(l api.Ledger, key string, keep bool) (api.Ledger, api.Errno) {
	if !mayBe(l) || len(key) < 1 || len(key) > 100 {
		return api.Ledger{}, api.ErrArg
	}
	at := markAt(l, key)
	if at < 0 {
		return api.Ledger{}, api.ErrNone
	}
	change, want, other := act.Undo, api.MarkUndone, api.MarkKept
	if keep {
		change, want, other = act.Keep, api.MarkKept, api.MarkUndone
	}
	switch l.Marks[at].State {
	case want:
		return l, api.OK
	case other:
		return api.Ledger{}, api.ErrKey
	}
	m := twin(l)
	where := accountAt(l, l.Marks[at].Act.Account)
	x, e := change(l.Accounts[where], l.Marks[at].Act)
	if e != api.OK {
		return api.Ledger{}, e
	}
	m.Accounts[where], m.Marks[at].State = x, want
	return m, api.OK
}

func toldNet(l api.Ledger, name, ahead string) (free, kept int64, e api.Errno) {
	if !mayBe(l) {
		return 0, 0, api.ErrArg
	}
	if accountAt(l, name) < 0 {
		return 0, 0, api.ErrNone
	}
	for _, m := range l.Marks {
		if m.Act.Account != name || m.State == api.MarkUndone || len(m.Key) < len(ahead) || m.Key[:len(ahead)] != ahead {
			continue
		}
		switch m.Act.Kind {
		case api.ActDebit:
			free -= m.Act.Amount
		case api.ActCredit:
			free += m.Act.Amount
		case api.ActReserve:
			free, kept = free-m.Act.Amount, kept+m.Act.Amount
		case api.ActRelease:
			free, kept = free+m.Act.Amount, kept-m.Act.Amount
		}
	}
	return free, kept, api.OK
}

// checkLooks holds May, Find, State and Net of a ledger against the chapter's words.
func checkLooks(t *testing.T, l api.Ledger, names, keys []string) {
	t.Helper()
	may, want := mayBe(l), api.ErrArg
	if may {
		want = api.OK
	}
	if e := May(l); e != want {
		t.Fatalf("May(%+v) = %d; want %d", l, e, want)
	}
	for _, name := range names {
		var account api.Account
		at := accountAt(l, name)
		if may && at >= 0 {
			account = l.Accounts[at]
		}
		if x, ok := Find(l, name); x != account || ok != (may && at >= 0) {
			t.Fatalf("Find(%+v, %q) = %+v, %t; want %+v", l, name, x, ok, account)
		}
		for _, ahead := range append([]string{""}, keys...) {
			wantFree, wantKept, wantErr := toldNet(l, name, ahead)
			if free, kept, e := Net(l, name, ahead); free != wantFree || kept != wantKept || e != wantErr {
				t.Fatalf("Net(%+v, %q, %q) = %d, %d, %d; want %d, %d, %d", l, name, ahead, free, kept, e, wantFree, wantKept, wantErr)
			}
		}
	}
	for _, key := range keys {
		state := 0
		if at := markAt(l, key); may && at >= 0 {
			state = l.Marks[at].State
		}
		if n := State(l, key); n != state {
			t.Fatalf("State(%+v, %q) = %d; want %d", l, key, n, state)
		}
	}
}

func checkAnswer(t *testing.T, what string, l, m api.Ledger, e api.Errno, want api.Ledger, wantErr api.Errno) {
	t.Helper()
	if !same(m, want) || e != wantErr {
		t.Fatalf("%s of %+v = %+v, %d; want %+v, %d", what, l, m, e, want, wantErr)
	}
	if e == api.OK && May(m) != api.OK {
		t.Fatalf("%s of %+v = %+v, which may not be", what, l, m)
	}
}

// checkCalls holds all calls against the chapter's words.
func checkCalls(t *testing.T, l api.Ledger, names, keys []string, amounts []int64, acts []api.Act) {
	t.Helper()
	was := twin(l)
	checkLooks(t, l, names, keys)
	for _, name := range names {
		for _, n := range amounts {
			want, wantErr := toldOpen(l, name, n)
			m, e := Open(l, name, n)
			checkAnswer(t, fmt.Sprintf("Open %q with %d", name, n), l, m, e, want, wantErr)
		}
	}
	for _, key := range keys {
		for _, a := range acts {
			want, wantErr := toldDo(l, key, a)
			m, e := Do(l, key, a)
			checkAnswer(t, fmt.Sprintf("Do %q: %+v", key, a), l, m, e, want, wantErr)
		}
		want, wantErr := toldEnd(l, key, false)
		m, e := Undo(l, key)
		checkAnswer(t, fmt.Sprintf("Undo %q", key), l, m, e, want, wantErr)
		want, wantErr = toldEnd(l, key, true)
		m, e = Keep(l, key)
		checkAnswer(t, fmt.Sprintf("Keep %q", key), l, m, e, want, wantErr)
	}
	if !same(l, was) {
		t.Fatalf("what was handed in is changed: %+v; was %+v", l, was)
	}
}

// accounts has a ledger of so many accounts, each with 1000.
func accounts(t *testing.T, n int) api.Ledger {
	t.Helper()
	var l api.Ledger
	for i := range n {
		l = mustOpen(t, l, "a"+strconv.Itoa(10+i), 1000)
	}
	return l
}

// marks has a ledger with one account, of 1000, and so many marks: of three the first is kept, the second undone, the third done.
func marks(t *testing.T, n int) api.Ledger {
	t.Helper()
	l := mustOpen(t, api.Ledger{}, "cash", 1000)
	for i := range n {
		key := keyOf(i)
		l = mustDo(t, l, key, debit("cash", 1))
		switch i % 3 {
		case 0:
			l = mustEnd(t, l, key, Keep)
		case 1:
			l = mustEnd(t, l, key, Undo)
		}
	}
	return l
}

func keyOf(i int) string { return "k" + strconv.Itoa(1000+i) }

// sample has a ledger with marks of each kind in each state, made by hand.
func sample() api.Ledger {
	l := api.Ledger{Accounts: []api.Account{
		{Name: "bank", Free: api.Pot{Have: 500, In: 20 + 80, Out: 10 + 40}, Kept: api.Pot{Have: 300, In: 40, Out: 80}},
		{Name: "cash", Free: api.Pot{Have: 70, In: 6}},
		{Name: "till", Free: api.Pot{Have: 5}, Kept: api.Pot{Have: 9}},
	}}
	for _, state := range states() {
		s := strconv.Itoa(state)
		l.Marks = append(l.Marks,
			api.Mark{Key: "b" + s + "c", Act: credit("bank", 20), State: state},
			api.Mark{Key: "b" + s + "d", Act: debit("bank", 10), State: state},
			api.Mark{Key: "b" + s + "l", Act: release("bank", 80), State: state},
			api.Mark{Key: "b" + s + "r", Act: reserve("bank", 40), State: state})
	}
	l.Marks = append(l.Marks,
		api.Mark{Key: "c1", Act: credit("cash", 6), State: api.MarkDone},
		api.Mark{Key: "c2", Act: debit("cash", 7), State: api.MarkKept},
		api.Mark{Key: "c3", Act: debit("cash", 8), State: api.MarkUndone})
	return l
}

func sampleNames() []string { return []string{"bank", "cash", "till", "other"} }

func sampleKeys() []string {
	keys := []string{"b", "b1", "b2", "b3", "c", "c1x", "b1b", "a", "z"}
	for _, m := range sample().Marks {
		keys = append(keys, m.Key)
	}
	return keys
}

// wrongLedgers has ledgers that may not be, by what is wrong of them.
func wrongLedgers() map[string]api.Ledger {
	wrong := map[string]api.Ledger{}
	spoil := func(what string, change func(l *api.Ledger)) {
		l := sample()
		change(&l)
		wrong[what] = l
	}
	spoilAccounts(spoil)
	spoilMarks(spoil)
	return wrong
}

func spoilAccounts(spoil func(string, func(*api.Ledger))) {
	for i, name := range []string{"bank", "cash", "till"} {
		for _, by := range []int64{-1, 1} {
			with := name + " " + strconv.FormatInt(by, 10) + " "
			spoil(with+"Free.In", func(l *api.Ledger) { l.Accounts[i].Free.In += by })
			spoil(with+"Free.Out", func(l *api.Ledger) { l.Accounts[i].Free.Out += by })
			spoil(with+"Kept.In", func(l *api.Ledger) { l.Accounts[i].Kept.In += by })
			spoil(with+"Kept.Out", func(l *api.Ledger) { l.Accounts[i].Kept.Out += by })
		}
		spoil(name+" below 0", func(l *api.Ledger) { l.Accounts[i].Free.Have = -1 })
		spoil(name+" too much", func(l *api.Ledger) { l.Accounts[i].Kept.Have = full + 1 })
	}
	spoil("without bank", func(l *api.Ledger) { l.Accounts = l.Accounts[1:] })
	spoil("without cash", func(l *api.Ledger) { l.Accounts = slices.Delete(l.Accounts, 1, 2) })
	spoil("pots changed over", func(l *api.Ledger) { l.Accounts[0].Free, l.Accounts[0].Kept = l.Accounts[0].Kept, l.Accounts[0].Free })
	spoil("In and Out changed over", func(l *api.Ledger) {
		p := &l.Accounts[0].Free
		p.In, p.Out = p.Out, p.In
	})
	spoil("pending at another account", func(l *api.Ledger) {
		l.Accounts[1].Free.In, l.Accounts[2].Free.In = 0, 5
		l.Marks[slices.IndexFunc(l.Marks, func(m api.Mark) bool { return m.Key == "c1" })].Act.Amount = 5
	})
	spoil("names fall", func(l *api.Ledger) { slices.Reverse(l.Accounts) })
	spoil("the last names fall", func(l *api.Ledger) { l.Accounts[1], l.Accounts[2] = l.Accounts[2], l.Accounts[1] })
	spoil("a name twice at the end", func(l *api.Ledger) { l.Accounts = append(l.Accounts, api.Account{Name: "till"}) })
	spoil("a name twice at the beginning", func(l *api.Ledger) { l.Accounts = slices.Insert(l.Accounts, 0, api.Account{Name: "bank"}) })
	for _, s := range []string{"", "Till", "till_", "1till", strings.Repeat("x", 17)} {
		spoil("no name "+s, func(l *api.Ledger) { l.Accounts[2].Name = s })
	}
	spoil("13 accounts", func(l *api.Ledger) {
		for i := range 10 {
			l.Accounts = append(l.Accounts, api.Account{Name: "z" + strconv.Itoa(i)})
		}
	})
}

func spoilMarks(spoil func(string, func(*api.Ledger))) {
	for _, state := range []int{math.MinInt, -1, 0, 4, 5, 256 + 1, 1<<32 + 1, math.MaxInt} {
		spoil("state "+strconv.Itoa(state), func(l *api.Ledger) { l.Marks[4].State = state })
	}
	for _, key := range []string{"", strings.Repeat("z", 101), strings.Repeat("z", 1<<16)} {
		spoil("a key of bytes "+strconv.Itoa(len(key)), func(l *api.Ledger) {
			l.Marks = append(l.Marks, api.Mark{Key: key, Act: debit("cash", 1), State: api.MarkKept})
			slices.SortFunc(l.Marks, func(x, y api.Mark) int { return cmp.Compare(x.Key, y.Key) })
		})
	}
	spoil("keys fall", func(l *api.Ledger) { slices.Reverse(l.Marks) })
	spoil("the last keys fall", func(l *api.Ledger) {
		n := len(l.Marks)
		l.Marks[n-1], l.Marks[n-2] = l.Marks[n-2], l.Marks[n-1]
	})
	spoil("a key twice at the end", func(l *api.Ledger) { l.Marks = append(l.Marks, l.Marks[len(l.Marks)-1]) })
	spoil("a key twice at the beginning", func(l *api.Ledger) {
		l.Marks = slices.Insert(l.Marks, 0, api.Mark{Key: l.Marks[0].Key, Act: debit("cash", 1), State: api.MarkKept})
	})
	for _, state := range states()[1:] {
		for what, a := range map[string]api.Act{
			"of no account": debit("other", 1), "of no name": debit("Cash", 1), "of no amount": debit("cash", 0), "below 0": debit("cash", -1),
			"too much": debit("cash", full+1), "of no kind": {Account: "cash", Amount: 1}, "of another kind": {Kind: 5, Account: "cash", Amount: 1}, "empty": {},
		} {
			spoil("an activity "+what+" "+strconv.Itoa(state), func(l *api.Ledger) {
				l.Marks = append(l.Marks, api.Mark{Key: "z", Act: a, State: state})
			})
		}
	}
	spoil("a mark not moved", func(l *api.Ledger) {
		l.Marks = append(l.Marks, api.Mark{Key: "z", Act: debit("cash", 1), State: api.MarkDone})
	})
	spoil("a mark of another amount", func(l *api.Ledger) { l.Marks[0].Act.Amount++ })
	spoil("a mark of another kind", func(l *api.Ledger) { l.Marks[0].Act.Kind = api.ActDebit })
	spoil("a mark of another account", func(l *api.Ledger) { l.Marks[0].Act.Account = "cash" })
	spoil("an undone mark that is done", func(l *api.Ledger) { l.Marks[4].State = api.MarkDone })
	spoil("a done mark that is undone", func(l *api.Ledger) { l.Marks[0].State = api.MarkUndone })
	spoil("a done mark that is kept", func(l *api.Ledger) { l.Marks[0].State = api.MarkKept })
	spoil("501 marks", func(l *api.Ledger) {
		for i := range 501 - len(l.Marks) {
			l.Marks = append(l.Marks, api.Mark{Key: keyOf(i), Act: debit("cash", 1), State: api.MarkKept})
		}
	})
	spoil("marks that move more than 64 bits hold", func(l *api.Ledger) {
		for i := range 20000 {
			l.Marks = append(l.Marks, api.Mark{Key: "k" + strconv.Itoa(100000+i), Act: credit("cash", full), State: api.MarkDone})
		}
	})
}

// P7.1: ledgers that may be, of each kind and state, and ones that may not.
func TestMay(t *testing.T) {
	good := map[string]api.Ledger{
		"nothing": {}, "empty lists": {Accounts: []api.Account{}, Marks: []api.Mark{}}, "the sample": sample(),
		"one account": {Accounts: []api.Account{{Name: "a"}}}, "full pots": {Accounts: []api.Account{{Name: "a", Free: api.Pot{Have: full}, Kept: api.Pot{Have: full}}}},
	}
	for what, l := range good {
		if e := May(l); e != api.OK {
			t.Errorf("%s: %d", what, e)
		}
		checkLooks(t, l, sampleNames(), sampleKeys())
	}
	for what, l := range wrongLedgers() {
		if e := May(l); e != api.ErrArg {
			t.Errorf("%s: %d; want ErrArg", what, e)
		}
		checkLooks(t, l, sampleNames(), sampleKeys())
	}
	if e := May(api.Ledger{Marks: []api.Mark{{Key: "k", Act: debit("a", 1), State: api.MarkKept}}}); e != api.ErrArg {
		t.Error("a mark without an account", e)
	}
}

// P7.1: 11, 12 and 13 accounts; 499, 500 and 501 marks.
func TestMayAtLimits(t *testing.T) {
	for n := 10; n <= 14; n++ {
		var l api.Ledger
		for i := range n {
			l.Accounts = append(l.Accounts, api.Account{Name: "a" + strconv.Itoa(10+i)})
		}
		if e := May(l); (e == api.OK) != (n <= 12) || e != api.OK && e != api.ErrArg {
			t.Errorf("%d accounts: %d", n, e)
		}
		checkLooks(t, l, []string{"a10", "a21", "a22"}, []string{"k"})
	}
	for n := 498; n <= 502; n++ {
		for _, state := range states() {
			l := api.Ledger{Accounts: []api.Account{{Name: "a"}}}
			for i := range n {
				l.Marks = append(l.Marks, api.Mark{Key: keyOf(i), Act: debit("a", 1), State: state})
			}
			if state == api.MarkDone {
				l.Accounts[0].Free.Out = int64(n)
			}
			if e := May(l); (e == api.OK) != (n <= 500) || e != api.OK && e != api.ErrArg {
				t.Errorf("%d marks of state %d: %d", n, state, e)
			}
			checkLooks(t, l, []string{"a", "b"}, []string{keyOf(0), keyOf(499), keyOf(500)})
		}
	}
}

// P7.1: keys of every length around the limit, and of every byte; amounts of edges.
func TestMayOfKeysAndAmounts(t *testing.T) {
	mark := func(key string, a api.Act) api.Ledger {
		return api.Ledger{Accounts: []api.Account{{Name: "a"}}, Marks: []api.Mark{{Key: key, Act: a, State: api.MarkKept}}}
	}
	for n := range 200 {
		if e := May(mark(strings.Repeat("/", n), debit("a", 1))); (e == api.OK) != (1 <= n && n <= 100) {
			t.Errorf("a key of %d bytes: %d", n, e)
		}
	}
	for b := range 256 {
		key := string([]byte{byte(b)})
		l := mark(key, debit("a", 1))
		if May(l) != api.OK || State(l, key) != api.MarkKept || State(l, key+"\x00") != 0 {
			t.Errorf("a key of byte %d", b)
		}
	}
	for _, kind := range kinds() {
		for _, n := range []int64{least, -full, -1, 0, 1, 2, full - 1, full, full + 1, most} {
			if e := May(mark("k", api.Act{Kind: kind, Account: "a", Amount: n})); (e == api.OK) != (1 <= n && n <= full) {
				t.Errorf("kind %d, amount %d: %d", kind, n, e)
			}
		}
	}
}

// P7.1: each account of a ledger is found, as it is; none beside them.
func TestFind(t *testing.T) {
	for n := range 13 {
		l := accounts(t, n)
		for i, x := range l.Accounts {
			if y, ok := Find(l, x.Name); !ok || y != x || y.Name != "a"+strconv.Itoa(10+i) {
				t.Errorf("%d accounts: %q: %+v, %t", n, x.Name, y, ok)
			}
		}
		for _, s := range []string{"", "a", "a1", "a100", "a09", "A10", "b", "a" + strconv.Itoa(10+n), "\xff", strings.Repeat("a", 200)} {
			if y, ok := Find(l, s); ok || y != (api.Account{}) {
				t.Errorf("%d accounts: %q: %+v, %t", n, s, y, ok)
			}
		}
	}
}

// P7.1: the state of each of 500 keys; 0 for keys that have no mark, and for texts that are no keys.
func TestState(t *testing.T) {
	l := marks(t, 500)
	for i := range 500 {
		want := []int{api.MarkKept, api.MarkUndone, api.MarkDone}[i%3]
		if n := State(l, keyOf(i)); n != want {
			t.Errorf("%s: %d; want %d", keyOf(i), n, want)
		}
	}
	for _, key := range []string{"", "k", "k100", "k10000", "k0999", "k1500", "j", "l", "\xff", "\x00", "K1000", strings.Repeat("k", 100), strings.Repeat("k", 101)} {
		if n := State(l, key); n != 0 {
			t.Errorf("%q: %d; want 0", key, n)
		}
	}
}

// P7.2: accounts come in any order, and stand by their names; 12 of them, and no more.
func TestOpen(t *testing.T) {
	r := rand.New(rand.NewSource(7))
	for range 50 {
		var l api.Ledger
		for n, i := range r.Perm(12) {
			name := "acc" + strconv.Itoa(i)
			amount := int64(i) * 11
			want, _ := toldOpen(l, name, amount)
			m, e := Open(l, name, amount)
			if e != api.OK || !same(m, want) || len(m.Accounts) != n+1 || May(m) != api.OK {
				t.Fatalf("%q: %+v, %d; want %+v", name, m, e, want)
			}
			if x, ok := Find(m, name); !ok || x != (api.Account{Name: name, Free: api.Pot{Have: amount}}) {
				t.Fatalf("%q: %+v, %t", name, x, ok)
			}
			l = m
		}
		for _, name := range []string{"aaa", "acc10x", "zzz"} {
			if m, e := Open(l, name, 1); !none(m) || e != api.ErrBig {
				t.Fatalf("the 13th, %q: %+v, %d", name, m, e)
			}
		}
		for i := range 12 {
			if m, e := Open(l, "acc"+strconv.Itoa(i), 1); !none(m) || e != api.ErrTwice {
				t.Fatalf("twice where 12 are: %+v, %d", m, e)
			}
		}
	}
}

// P7.2: amounts and names of edges, with marks there too; errors in their order.
func TestOpenEdges(t *testing.T) {
	amounts := []int64{least, -full, -1, 0, 1, full - 1, full, full + 1, most}
	for _, n := range amounts {
		m, e := Open(sample(), "coin", n)
		if 0 <= n && n <= full {
			want := sample()
			want.Accounts = slices.Insert(want.Accounts, 2, api.Account{Name: "coin", Free: api.Pot{Have: n}})
			if !same(m, want) || e != api.OK {
				t.Errorf("%d: %+v, %d", n, m, e)
			}
		} else if !none(m) || e != api.ErrArg {
			t.Errorf("%d: %+v, %d; want ErrArg", n, m, e)
		}
	}
	names := append(sampleNames(), "", "Bank", "bank_", "1", "ä", "a", "zzzz", strings.Repeat("x", 16), strings.Repeat("x", 17))
	for _, l := range []api.Ledger{{}, sample(), accounts(t, 11), accounts(t, 12), marks(t, 30)} {
		checkCalls(t, l, append(names, "a10", "a21"), nil, amounts, nil)
	}
	for what, l := range wrongLedgers() {
		for _, name := range names {
			for _, n := range amounts {
				if m, e := Open(l, name, n); !none(m) || e != api.ErrArg {
					t.Errorf("%s: Open %q with %d: %d; want ErrArg", what, name, n, e)
				}
			}
		}
	}
}

// P7.3, P7.4: the chapter's example.
func TestExample(t *testing.T) {
	have := func(l api.Ledger) int64 {
		x, _ := Find(l, "cash")
		return x.Free.Have
	}
	l := mustOpen(t, api.Ledger{}, "cash", 10)
	l = mustDo(t, l, "k", debit("cash", 4))
	if have(l) != 6 {
		t.Fatal(l)
	}
	if m := mustDo(t, l, "k", debit("cash", 4)); !same(m, l) {
		t.Fatal(m)
	}
	if m, e := Do(l, "k", debit("cash", 5)); !none(m) || e != api.ErrKey {
		t.Fatal(m, e)
	}
	l = mustEnd(t, l, "k", Undo)
	if have(l) != 10 {
		t.Fatal(l)
	}
	if m, e := Do(l, "k", debit("cash", 4)); !none(m) || e != api.ErrKey {
		t.Fatal(m, e)
	}
}

// P7.3, P7.4: each kind done, undone and kept, with all that comes of it written out.
func TestCallsByHand(t *testing.T) {
	first := api.Ledger{Accounts: []api.Account{
		{Name: "a", Free: api.Pot{Have: 1}}, {Name: "b", Free: api.Pot{Have: 100}, Kept: api.Pot{Have: 50}}, {Name: "c", Kept: api.Pot{Have: 2}},
	}}
	for _, c := range []struct {
		kind                           int
		doneFree, doneKept, free, kept api.Pot
	}{
		{api.ActDebit, api.Pot{Have: 70, Out: 30}, api.Pot{Have: 50}, api.Pot{Have: 70}, api.Pot{Have: 50}},
		{api.ActCredit, api.Pot{Have: 130, In: 30}, api.Pot{Have: 50}, api.Pot{Have: 130}, api.Pot{Have: 50}},
		{api.ActReserve, api.Pot{Have: 70, Out: 30}, api.Pot{Have: 80, In: 30}, api.Pot{Have: 70}, api.Pot{Have: 80}},
		{api.ActRelease, api.Pot{Have: 130, In: 30}, api.Pot{Have: 20, Out: 30}, api.Pot{Have: 130}, api.Pot{Have: 20}},
	} {
		a := api.Act{Kind: c.kind, Account: "b", Amount: 30}
		with := func(free, kept api.Pot, state int) api.Ledger {
			l := twin(first)
			l.Accounts[1].Free, l.Accounts[1].Kept = free, kept
			l.Marks = []api.Mark{{Key: "x", Act: a, State: state}}
			return l
		}
		done := with(c.doneFree, c.doneKept, api.MarkDone)
		undone := with(first.Accounts[1].Free, first.Accounts[1].Kept, api.MarkUndone)
		kept := with(c.free, c.kept, api.MarkKept)
		if m, e := Do(first, "x", a); !same(m, done) || e != api.OK {
			t.Errorf("kind %d: done %+v, %d; want %+v", c.kind, m, e, done)
		}
		for what, s := range map[string]struct {
			from, want api.Ledger
			end        ending
			e          api.Errno
		}{
			"undone": {done, undone, Undo, api.OK}, "undone again": {undone, undone, Undo, api.OK}, "undone behind kept": {kept, api.Ledger{}, Undo, api.ErrKey},
			"kept": {done, kept, Keep, api.OK}, "kept again": {kept, kept, Keep, api.OK}, "kept behind undone": {undone, api.Ledger{}, Keep, api.ErrKey},
		} {
			if m, e := s.end(s.from, "x"); !same(m, s.want) || e != s.e {
				t.Errorf("kind %d: %s: %+v, %d; want %+v, %d", c.kind, what, m, e, s.want, s.e)
			}
		}
		checkAgain(t, done, undone, kept, a)
	}
}

// checkAgain does an activity again where it is done, undone and kept, and others in its stead.
func checkAgain(t *testing.T, done, undone, kept api.Ledger, a api.Act) {
	t.Helper()
	if m, e := Do(done, "x", a); !same(m, done) || e != api.OK {
		t.Errorf("%+v: done again: %+v, %d", a, m, e)
	}
	for _, l := range []api.Ledger{undone, kept} {
		if m, e := Do(l, "x", a); !none(m) || e != api.ErrKey {
			t.Errorf("%+v: done behind %+v: %+v, %d", a, l.Marks, m, e)
		}
	}
	for _, l := range []api.Ledger{done, undone, kept} {
		for _, b := range []api.Act{{Kind: a.Kind%4 + 1, Account: a.Account, Amount: a.Amount}, {Kind: a.Kind, Account: "a", Amount: a.Amount}, {Kind: a.Kind, Account: a.Account, Amount: a.Amount + 1}, {Kind: a.Kind, Account: "none", Amount: a.Amount}} {
			if m, e := Do(l, "x", b); !none(m) || e != api.ErrKey {
				t.Errorf("%+v behind %+v: %+v, %d", b, l.Marks, m, e)
			}
		}
	}
}

// P7.3: keys come in any order, and stand rising; keys and amounts of edges.
func TestDoEdges(t *testing.T) {
	r := rand.New(rand.NewSource(73))
	for range 20 {
		l := mustOpen(t, api.Ledger{}, "cash", 1000)
		for n, i := range r.Perm(40) {
			m := mustDo(t, l, strconv.Itoa(i), debit("cash", int64(i+1)))
			if want, _ := toldDo(l, strconv.Itoa(i), debit("cash", int64(i+1))); !same(m, want) || len(m.Marks) != n+1 {
				t.Fatalf("%+v; want %+v", m, want)
			}
			l = m
		}
	}
	l := mustOpen(t, api.Ledger{}, "cash", full)
	for _, n := range []int{0, 1, 2, 99, 100, 101, 1000} {
		key := strings.Repeat("\xfe", n)
		want := api.OK
		if n == 0 || n > 100 {
			want = api.ErrArg
		}
		m, e := Do(l, key, debit("cash", 1))
		if e != want || (e != api.OK) != none(m) || e == api.OK && State(m, key) != api.MarkDone {
			t.Errorf("a key of %d bytes: %+v, %d", n, m, e)
		}
		for _, end := range []ending{Undo, Keep} {
			wantEnd := api.ErrNone
			if want == api.ErrArg {
				wantEnd = api.ErrArg
			}
			if m, e := end(l, key); !none(m) || e != wantEnd {
				t.Errorf("end of a key of %d bytes: %+v, %d; want %d", n, m, e, wantEnd)
			}
		}
	}
	for _, n := range []int64{least, -full, -1, 0, 1, full, full + 1, most} {
		want := api.OK
		if n < 1 || n > full {
			want = api.ErrAct
		}
		if m, e := Do(l, "k", debit("cash", n)); e != want || none(m) != (e != api.OK) {
			t.Errorf("amount %d: %+v, %d; want %d", n, m, e, want)
		}
	}
}

// P7.3: act's errors: just enough, and one too little, free or of room, in each pot that is moved.
func TestDoPots(t *testing.T) {
	has, room := api.Pot{Have: 10}, api.Pot{Have: full - 10}
	for _, c := range []struct {
		kind       int
		free, kept api.Pot
	}{
		{api.ActDebit, has, api.Pot{Have: full}}, {api.ActCredit, room, api.Pot{}}, {api.ActReserve, has, room}, {api.ActRelease, room, has},
		{api.ActReserve, api.Pot{Have: full}, room}, {api.ActReserve, has, api.Pot{}}, {api.ActRelease, api.Pot{}, has}, {api.ActRelease, room, api.Pot{Have: full}},
	} {
		l := api.Ledger{Accounts: []api.Account{{Name: "a", Free: c.free, Kept: c.kept}}}
		for n, want := range map[int64]api.Errno{9: api.OK, 10: api.OK, 11: api.ErrPot, full: api.ErrPot} {
			m, e := Do(l, "k", api.Act{Kind: c.kind, Account: "a", Amount: n})
			if e != want || none(m) != (e != api.OK) {
				t.Errorf("%+v: %d: %+v, %d; want %d", c, n, m, e, want)
			}
		}
	}
	l := mustDo(t, mustOpen(t, api.Ledger{}, "a", 10), "k1", reserve("a", 4))
	if m, e := Do(l, "k2", release("a", 1)); !none(m) || e != api.ErrPot {
		t.Errorf("what is pending was released: %+v, %d", m, e)
	}
	l = mustEnd(t, l, "k1", Keep)
	if m, e := Do(l, "k2", release("a", 4)); none(m) || e != api.OK {
		t.Errorf("what is kept could not be released: %d", e)
	}
}

// P7.3: 499 marks and 500.
func TestDoAtLimit(t *testing.T) {
	l := marks(t, 499)
	if m, e := Do(l, "zz", debit("cash", 1000)); !none(m) || e != api.ErrPot {
		t.Error("too little at 499 marks", len(m.Marks), e)
	}
	for _, key := range []string{"a", "k1250x", "zz"} {
		m, e := Do(l, key, debit("cash", 1))
		if want, _ := toldDo(l, key, debit("cash", 1)); e != api.OK || !same(m, want) || len(m.Marks) != 500 {
			t.Errorf("the 500th mark, %q: %d, %d", key, len(m.Marks), e)
		}
	}
	l = marks(t, 500)
	for what, c := range map[string]struct {
		key  string
		a    api.Act
		want api.Errno
	}{
		"one more": {"zz", debit("cash", 1), api.ErrBig}, "one more ahead of all": {"a", debit("cash", 1), api.ErrBig},
		"one more for which too little is there": {"zz", debit("cash", full), api.ErrBig}, "of no account": {"zz", debit("none", 1), api.ErrNone},
		"one that may not be": {"zz", debit("cash", 0), api.ErrAct}, "no key": {"", debit("cash", 1), api.ErrArg},
		"one that is done": {keyOf(2), debit("cash", 1), api.OK}, "another one": {keyOf(2), debit("cash", 2), api.ErrKey},
		"one that is kept": {keyOf(0), debit("cash", 1), api.ErrKey}, "one that is undone": {keyOf(1), debit("cash", 1), api.ErrKey},
	} {
		m, e := Do(l, c.key, c.a)
		if e != c.want || e == api.OK && !same(m, l) || e != api.OK && !none(m) {
			t.Errorf("%s at 500 marks: %d marks, %d; want %d", what, len(m.Marks), e, c.want)
		}
	}
	for _, end := range []ending{Undo, Keep} {
		if m := mustEnd(t, l, keyOf(2), end); len(m.Marks) != 500 || May(m) != api.OK {
			t.Error("ended at 500 marks", len(m.Marks))
		}
	}
}

// P7.3, P7.4, P7.5: where several errors apply, the first of the chapter is told, in every ledger of edges and every wrong one.
func TestOrderOfErrors(t *testing.T) {
	names := append(sampleNames(), "", "Cash")
	keys := append(sampleKeys(), "", strings.Repeat("k", 100), strings.Repeat("k", 101))
	var acts []api.Act
	for _, name := range names {
		for _, n := range []int64{-1, 0, 1, 6, 10, 1000, full, full + 1} {
			for kind := range 6 {
				acts = append(acts, api.Act{Kind: kind, Account: name, Amount: n})
			}
		}
	}
	for _, m := range sample().Marks {
		acts = append(acts, m.Act)
	}
	for _, l := range []api.Ledger{{}, sample(), {Accounts: sample().Accounts[2:]}} {
		checkCalls(t, l, names, keys, []int64{-1, 0, full, full + 1}, acts)
	}
	for what, l := range wrongLedgers() {
		for _, key := range []string{"", "b1c", "b2c", "b3c", "c1", "new", strings.Repeat("k", 101)} {
			for _, a := range []api.Act{{}, debit("cash", 1), debit("none", 1), credit("bank", 20), debit("cash", full), debit("cash", -1)} {
				if m, e := Do(l, key, a); !none(m) || e != api.ErrArg {
					t.Errorf("%s: Do %q: %+v: %d; want ErrArg", what, key, a, e)
				}
			}
			for _, end := range []ending{Undo, Keep} {
				if m, e := end(l, key); !none(m) || e != api.ErrArg {
					t.Errorf("%s: end %q: %d; want ErrArg", what, key, e)
				}
			}
			if n := State(l, key); n != 0 {
				t.Errorf("%s: State %q: %d; want 0", what, key, n)
			}
		}
		for _, name := range names {
			if free, kept, e := Net(l, name, ""); free != 0 || kept != 0 || e != api.ErrArg {
				t.Errorf("%s: Net of %q: %d, %d, %d; want ErrArg", what, name, free, kept, e)
			}
			if x, ok := Find(l, name); ok || x != (api.Account{}) {
				t.Errorf("%s: Find %q: %+v, %t; want none", what, name, x, ok)
			}
		}
	}
}

// P7.5: Net of all keys, of those that begin with a text, of none.
func TestNet(t *testing.T) {
	for _, c := range []struct {
		name, ahead string
		free, kept  int64
		want        api.Errno
	}{
		{"bank", "", 2 * (20 - 10 + 80 - 40), 2 * (40 - 80), api.OK}, {"bank", "b", 100, -80, api.OK},
		{"bank", "b1", 50, -40, api.OK}, {"bank", "b2", 0, 0, api.OK}, {"bank", "b3", 50, -40, api.OK},
		{"bank", "b1c", 20, 0, api.OK}, {"bank", "b1d", -10, 0, api.OK}, {"bank", "b3l", 80, -80, api.OK}, {"bank", "b3r", -40, 40, api.OK},
		{"bank", "b2c", 0, 0, api.OK}, {"bank", "b1cc", 0, 0, api.OK}, {"bank", "c", 0, 0, api.OK}, {"bank", "1", 0, 0, api.OK}, {"bank", "B", 0, 0, api.OK},
		{"cash", "", -1, 0, api.OK}, {"cash", "c", -1, 0, api.OK}, {"cash", "c1", 6, 0, api.OK}, {"cash", "c2", -7, 0, api.OK}, {"cash", "c3", 0, 0, api.OK}, {"cash", "b", 0, 0, api.OK},
		{"till", "", 0, 0, api.OK}, {"till", strings.Repeat("b", 101), 0, 0, api.OK}, {"cash", "\x00", 0, 0, api.OK}, {"cash", "\xff", 0, 0, api.OK},
		{"none", "", 0, 0, api.ErrNone}, {"", "", 0, 0, api.ErrNone}, {"Cash", "c", 0, 0, api.ErrNone}, {"ban", "b", 0, 0, api.ErrNone}, {"banks", "b", 0, 0, api.ErrNone},
	} {
		if free, kept, e := Net(sample(), c.name, c.ahead); free != c.free || kept != c.kept || e != c.want {
			t.Errorf("Net of %q, %q: %d, %d, %d; want %d, %d, %d", c.name, c.ahead, free, kept, e, c.free, c.kept, c.want)
		}
	}
	if free, kept, e := Net(api.Ledger{}, "cash", ""); free != 0 || kept != 0 || e != api.ErrNone {
		t.Error(free, kept, e)
	}
}

// P7.5: 500 marks that are kept, of the whole limit each, come to far more than a pot can have, and are told.
func TestNetOfMuch(t *testing.T) {
	for kind, want := range map[int][2]int64{
		api.ActDebit: {-500 * full, 0}, api.ActCredit: {500 * full, 0}, api.ActReserve: {-500 * full, 500 * full}, api.ActRelease: {500 * full, -500 * full},
	} {
		l := api.Ledger{Accounts: []api.Account{{Name: "a"}}}
		for i := range 500 {
			l.Marks = append(l.Marks, api.Mark{Key: keyOf(i), Act: api.Act{Kind: kind, Account: "a", Amount: full}, State: api.MarkKept})
		}
		if free, kept, e := Net(l, "a", ""); free != want[0] || kept != want[1] || e != api.OK {
			t.Errorf("kind %d: %d, %d, %d; want %v", kind, free, kept, e, want)
		}
		if free, kept, e := Net(l, "a", "k12"); free != want[0]/5 || kept != want[1]/5 || e != api.OK {
			t.Errorf("kind %d: a fifth of them: %d, %d, %d", kind, free, kept, e)
		}
	}
}

// walk is a ledger, and beside it what its accounts were opened with, and what was done under which key and how it stands.
type walk struct {
	l      api.Ledger
	opened map[string]int64
	marks  map[string]api.Mark
}

func begun(t *testing.T, opened map[string]int64) *walk {
	t.Helper()
	w := &walk{opened: opened, marks: map[string]api.Mark{}}
	for name, n := range opened {
		w.l = mustOpen(t, w.l, name, n)
	}
	return w
}

func (w *walk) open(t *testing.T, name string, amount int64) {
	t.Helper()
	w.l = mustOpen(t, w.l, name, amount)
	w.opened[name] = amount
	w.check(t)
}

func (w *walk) twin() *walk {
	v := &walk{l: w.l, opened: w.opened, marks: map[string]api.Mark{}}
	for key, m := range w.marks {
		v.marks[key] = m
	}
	return v
}

// do does an activity under a key, and tells whether it went; then it must change nothing a second time.
func (w *walk) do(t *testing.T, key string, a api.Act) bool {
	t.Helper()
	old, known := w.marks[key]
	l, e := Do(w.l, key, a)
	switch {
	case known && (old.Act != a || old.State != api.MarkDone):
		if e != api.ErrKey || !none(l) {
			t.Fatalf("%+v: Do %q: %+v: %d", w.l, key, a, e)
		}
		return false
	case known && (e != api.OK || !same(l, w.l)):
		t.Fatalf("%+v: Do %q again: %+v, %d", w.l, key, l, e)
	case e == api.ErrPot && none(l):
		return false
	case e != api.OK:
		t.Fatalf("%+v: Do %q: %+v: %d", w.l, key, a, e)
	}
	if again, e := Do(l, key, a); !same(again, l) || e != api.OK {
		t.Fatalf("%+v: Do %q again: %+v, %d", l, key, again, e)
	}
	w.l, w.marks[key] = l, api.Mark{Key: key, Act: a, State: api.MarkDone}
	w.check(t)
	return true
}

// end undoes or keeps what is done under a key: that must always go, and change nothing a second time.
func (w *walk) end(t *testing.T, key string, keep bool) {
	t.Helper()
	finish, other, state := Undo, Keep, api.MarkUndone
	if keep {
		finish, other, state = Keep, Undo, api.MarkKept
	}
	m := w.marks[key]
	if m.State != api.MarkDone && m.State != state {
		if l, e := finish(w.l, key); e == api.OK || !none(l) {
			t.Fatalf("%+v: keep %t of %q: %+v, %d", w.l, keep, key, l, e)
		}
		return
	}
	l, e := finish(w.l, key)
	if e != api.OK || m.State == state && !same(l, w.l) {
		t.Fatalf("%+v: keep %t of %q: %+v, %d", w.l, keep, key, l, e)
	}
	if again, e := finish(l, key); !same(again, l) || e != api.OK {
		t.Fatalf("%+v: keep %t of %q again: %+v, %d", l, keep, key, again, e)
	}
	if wrong, e := other(l, key); !none(wrong) || e != api.ErrKey {
		t.Fatalf("%+v: keep %t of %q behind the other: %+v, %d", l, !keep, key, wrong, e)
	}
	m.State = state
	w.l, w.marks[key] = l, m
	w.check(t)
}

// check holds each account against what it was opened with and what is in effect, by Net and by the marks beside.
func (w *walk) check(t *testing.T) {
	t.Helper()
	if May(w.l) != api.OK || len(w.l.Accounts) != len(w.opened) || len(w.l.Marks) != len(w.marks) {
		t.Fatalf("%+v: may not be, or has other accounts or marks", w.l)
	}
	want := map[string][2]int64{}
	for key, m := range w.marks {
		if State(w.l, key) != m.State {
			t.Fatalf("%+v: %q: want %+v", w.l, key, m)
		}
		if free, kept := act.Delta(m.Act); m.State != api.MarkUndone {
			n := want[m.Act.Account]
			want[m.Act.Account] = [2]int64{n[0] + free, n[1] + kept}
		}
	}
	for name, first := range w.opened {
		x, ok := Find(w.l, name)
		free, kept, e := Net(w.l, name, "")
		if n := want[name]; !ok || e != api.OK || free != n[0] || kept != n[1] || x.Free.Have != first+free || x.Kept.Have != kept {
			t.Fatalf("%+v: %q, opened with %d, has %+v, Net %d, %d, %d; want %v", w.l, name, first, x, free, kept, e, n)
		}
	}
}

func (w *walk) pending() []string {
	var keys []string
	for key, m := range w.marks {
		if m.State == api.MarkDone {
			keys = append(keys, key)
		}
	}
	slices.Sort(keys)
	return keys
}

// settled holds each account, when nothing is pending, against what it was opened with and what was kept.
func (w *walk) settled(t *testing.T) {
	t.Helper()
	for name, first := range w.opened {
		x, _ := Find(w.l, name)
		want := api.Account{Name: name, Free: api.Pot{Have: first}}
		for _, m := range w.marks {
			if free, kept := act.Delta(m.Act); m.State == api.MarkKept && m.Act.Account == name {
				want.Free.Have += free
				want.Kept.Have += kept
			}
		}
		if x != want {
			t.Fatalf("%+v: %+v; want %+v", w.l, x, want)
		}
	}
}

// endAll undoes, or keeps, all that is pending, in every order.
func (w *walk) endAll(t *testing.T, keep bool) {
	t.Helper()
	keys := w.pending()
	if len(keys) == 0 {
		w.settled(t)
	}
	for _, key := range keys {
		v := w.twin()
		v.end(t, key, keep)
		v.endAll(t, keep)
	}
}

// P7.6, P7.7, P7.8: every short row of doing, undoing and keeping, at the end of which all is undone, and kept, in every order.
func TestEveryRow(t *testing.T) {
	for _, c := range []struct {
		opened map[string]int64
		acts   []api.Act
	}{
		{map[string]int64{"a": 3}, []api.Act{debit("a", 2), credit("a", 2), reserve("a", 2), release("a", 2), debit("a", 1)}},
		{map[string]int64{"a": 2, "b": 0}, []api.Act{reserve("a", 1), release("a", 1), credit("b", 2), debit("b", 1)}},
		{map[string]int64{"a": full}, []api.Act{debit("a", full), credit("a", 1), reserve("a", full), release("a", full), credit("a", full)}},
	} {
		seen := map[string]int{}
		begun(t, c.opened).everyRow(t, 4, c.acts, seen)
		if len(seen) < 100 {
			t.Errorf("only %d ledgers were seen", len(seen))
		}
	}
}

func (w *walk) everyRow(t *testing.T, steps int, acts []api.Act, seen map[string]int) {
	t.Helper()
	now := fmt.Sprint(w.l)
	if seen[now] == 0 {
		w.endAll(t, false)
		w.endAll(t, true)
	}
	if steps == 0 || seen[now] >= steps {
		seen[now] = max(seen[now], 1)
		return
	}
	seen[now] = steps
	for _, key := range []string{"j", "k", "l"} {
		for _, a := range acts {
			if v := w.twin(); v.do(t, key, a) {
				v.everyRow(t, steps-1, acts, seen)
			}
		}
		for _, keep := range []bool{true, false} {
			if w.marks[key].State == 0 {
				continue
			}
			v := w.twin()
			v.end(t, key, keep)
			v.everyRow(t, steps-1, acts, seen)
		}
	}
}

// P7.7, P7.8: long rows by chance, then all undone in reverse order, as sagas go back, in any order, and kept.
func TestLongRows(t *testing.T) {
	r := rand.New(rand.NewSource(77))
	for range 40 {
		scale := []int64{5, 1000, full / 4}[r.Intn(3)]
		opened := map[string]int64{}
		for i := range 1 + r.Intn(4) {
			opened["acc"+strconv.Itoa(i)] = r.Int63n(scale*4 + 1)
		}
		w := begun(t, opened)
		for i := range 60 {
			key := strconv.Itoa(r.Intn(40))
			if i%20 == 19 {
				w.open(t, "acc"+strconv.Itoa(len(opened)), r.Int63n(scale*4+1))
			}
			if r.Intn(3) == 0 {
				w.end(t, key, r.Intn(2) == 0)
				continue
			}
			w.do(t, key, api.Act{Kind: 1 + r.Intn(4), Account: "acc" + strconv.Itoa(r.Intn(len(opened))), Amount: 1 + r.Int63n(scale)})
		}
		keys := w.pending()
		back, kept, mixed := w.twin(), w.twin(), w.twin()
		for i, at := range r.Perm(len(keys)) {
			back.end(t, keys[len(keys)-1-i], false)
			kept.end(t, keys[at], true)
			mixed.end(t, keys[at], r.Intn(2) == 0)
		}
		for _, v := range []*walk{back, kept, mixed} {
			v.settled(t)
		}
	}
}

// P7.1 to P7.5: ledgers by chance, spoilt or not, with all calls.
func TestByChance(t *testing.T) {
	r := rand.New(rand.NewSource(75))
	names, keys := []string{"a", "b", "c"}, []string{"k", "k1", "k12", "l", ""}
	may := map[bool]int{}
	for range 4000 {
		l := some(r)
		may[mayBe(l)]++
		acts := []api.Act{{Kind: r.Intn(6), Account: names[r.Intn(3)], Amount: r.Int63n(5)}}
		for _, m := range l.Marks {
			acts = append(acts, m.Act)
		}
		checkCalls(t, l, names, keys, []int64{0, full, full + 1}, acts)
	}
	if may[true] < 100 || may[false] < 100 {
		t.Error("of one kind there were too few", may)
	}
}

// some has a ledger that mostly is as it must be.
func some(r *rand.Rand) api.Ledger {
	var l api.Ledger
	for _, name := range []string{"a", "b"}[:r.Intn(3)] {
		l.Accounts = append(l.Accounts, api.Account{Name: name, Free: api.Pot{Have: 10}, Kept: api.Pot{Have: 10}})
	}
	for _, key := range []string{"k", "k1", "k12", "l"} {
		if len(l.Accounts) == 0 || r.Intn(3) == 0 {
			continue
		}
		at := r.Intn(len(l.Accounts))
		x := &l.Accounts[at]
		m := api.Mark{Key: key, Act: api.Act{Kind: 1 + r.Intn(4), Account: x.Name, Amount: 1 + r.Int63n(3)}, State: 1 + r.Intn(3)}
		if m.State == api.MarkDone {
			p := waits([2]api.Pot{x.Free, x.Kept}, m.Act)
			x.Free, x.Kept = p[0], p[1]
		}
		l.Marks = append(l.Marks, m)
	}
	spoilSome(r, &l)
	return l
}

func spoilSome(r *rand.Rand, l *api.Ledger) {
	if len(l.Marks) > 0 {
		m := &l.Marks[r.Intn(len(l.Marks))]
		switch r.Intn(20) {
		case 0:
			m.State = r.Intn(6) - 1
		case 1:
			m.Act.Amount += r.Int63n(3) - 1
		case 2:
			m.Act.Kind = r.Intn(6)
		case 3:
			m.Key = "k1"
		case 4:
			m.Act.Account = "b"
		}
	}
	if len(l.Accounts) > 0 {
		x := &l.Accounts[r.Intn(len(l.Accounts))]
		p := []*int64{&x.Free.In, &x.Free.Out, &x.Kept.In, &x.Kept.Out, &x.Free.Have, &x.Kept.Have}
		switch r.Intn(10) {
		case 0:
			*p[r.Intn(len(p))] += r.Int63n(3) - 1
		case 1:
			x.Name = "b"
		}
	}
}

// roomy has a ledger whose lists have room behind their ends, with something in it.
func roomy(l api.Ledger) (whole, part api.Ledger) {
	whole = twin(l)
	for i := range 5 {
		whole.Accounts = append(whole.Accounts, api.Account{Name: "room" + strconv.Itoa(i), Free: api.Pot{Have: 7}})
		whole.Marks = append(whole.Marks, api.Mark{Key: "room" + strconv.Itoa(i), State: 9})
	}
	return whole, api.Ledger{Accounts: whole.Accounts[:len(l.Accounts)], Marks: whole.Marks[:len(l.Marks)]}
}

// answers has what each call that tells a ledger answers, by what was called.
func answers(l api.Ledger) map[string]api.Ledger {
	told := map[string]api.Ledger{}
	add := func(what string, m api.Ledger, e api.Errno) {
		if e == api.OK {
			told[what] = m
		}
	}
	m, e := Open(l, "aaa", 1)
	add("Open at the beginning", m, e)
	m, e = Open(l, "zzz", 1)
	add("Open at the end", m, e)
	m, e = Do(l, "a", debit("bank", 1))
	add("Do at the beginning", m, e)
	m, e = Do(l, "z", debit("bank", 1))
	add("Do at the end", m, e)
	m, e = Do(l, "b1c", credit("bank", 20))
	add("Do again", m, e)
	for _, key := range []string{"b1c", "b1r", "b2c", "b3c"} {
		m, e = Undo(l, key)
		add("Undo "+key, m, e)
		m, e = Keep(l, key)
		add("Keep "+key, m, e)
	}
	return told
}

// P7.1 to P7.5: what is handed in is not changed, its spare room neither, whether a call goes or not, and whatever is done with the answer.
func TestNotChanged(t *testing.T) {
	bad := wrongLedgers()
	for what, l := range map[string]api.Ledger{"the sample": sample(), "nothing": {}, "names fall": bad["names fall"], "keys fall": bad["keys fall"]} {
		whole, part := roomy(l)
		was := twin(whole)
		told := answers(part)
		checkCalls(t, part, sampleNames(), sampleKeys(), []int64{1}, []api.Act{debit("bank", 1), credit("bank", 20), debit("cash", full)})
		for _, m := range told {
			clear(m.Accounts[:cap(m.Accounts)])
			clear(m.Marks[:cap(m.Marks)])
		}
		if !same(whole, was) {
			t.Errorf("%s: what was handed in is changed: %+v; was %+v", what, whole, was)
		}
		if what == "the sample" && len(told) != 11 {
			t.Errorf("%d calls went", len(told))
		}
	}
}

// texts has the places in memory of all texts of a ledger.
func texts(l api.Ledger) []*byte {
	var all []*byte
	for _, x := range l.Accounts {
		all = append(all, unsafe.StringData(x.Name))
	}
	for _, m := range l.Marks {
		all = append(all, unsafe.StringData(m.Key), unsafe.StringData(m.Act.Account))
	}
	return all
}

// fresh has the sample, with each text in a place of its own.
func fresh() api.Ledger {
	l := sample()
	for i := range l.Accounts {
		l.Accounts[i].Name = strings.Clone(l.Accounts[i].Name)
	}
	for i := range l.Marks {
		l.Marks[i].Key, l.Marks[i].Act.Account = strings.Clone(l.Marks[i].Key), strings.Clone(l.Marks[i].Act.Account)
	}
	return l
}

// P7.1 to P7.4: what is handed out is new memory, its texts too, also those of names, keys and activities that came in.
func TestNewMemory(t *testing.T) {
	l := fresh()
	given := texts(l)
	for what, m := range answers(l) {
		all := texts(m)
		for i, at := range all {
			if slices.Contains(given, at) || slices.Contains(all[:i], at) {
				t.Errorf("%s: a text is not new: %+v", what, m)
			}
		}
		if unsafe.SliceData(m.Accounts) == unsafe.SliceData(l.Accounts) || unsafe.SliceData(m.Marks) == unsafe.SliceData(l.Marks) {
			t.Errorf("%s: a list is not new", what)
		}
	}
	for _, name := range []string{"bank", "cash", "till"} {
		if x, ok := Find(l, name); !ok || slices.Contains(given, unsafe.StringData(x.Name)) {
			t.Errorf("Find %q: the name is not new", name)
		}
	}
	name, key, account := strings.Clone("coin"), strings.Clone("key"), strings.Clone("cash")
	if m := mustOpen(t, l, name, 1); slices.Contains(texts(m), unsafe.StringData(name)) {
		t.Error("Open: the name that came in is handed out")
	}
	if m := mustDo(t, l, key, debit(account, 1)); slices.Contains(texts(m), unsafe.StringData(key)) || slices.Contains(texts(m), unsafe.StringData(account)) {
		t.Error("Do: the key or the account that came in is handed out")
	}
}
