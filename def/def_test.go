package def

import (
	"fmt"
	"math"
	"math/rand"
	"regexp"
	"slices"
	"strconv"
	"strings"
	"testing"
	"unsafe"

	"entente/api"
	"entente/lexic"
)

const full = int64(1000000000000000) // the greatest amount

func own(kind int, account string, amount int64, tries int) api.Step {
	return api.Step{Act: api.Act{Kind: kind, Account: account, Amount: amount}, Tries: tries}
}

func ask(org int, sub string, wait int) api.Step { return api.Step{Org: org, Sub: sub, Wait: wait} }

func saga(name string, steps ...api.Step) api.Def { return api.Def{Name: name, Steps: steps} }

// copied has a definition with steps of its own.
func copied(d api.Def) api.Def { return api.Def{Name: d.Name, Steps: slices.Clone(d.Steps)} }

func equal(a, b api.Def) bool { return a.Name == b.Name && slices.Equal(a.Steps, b.Steps) }

func empty(d api.Def) bool { return d.Name == "" && len(d.Steps) == 0 }

func syntax(at int) api.Fault { return api.Fault{Err: api.ErrSyntax, At: at} }

func noDef(at int) api.Fault { return api.Fault{Err: api.ErrDef, At: at} }

// tokensOf has the tokens of a text that Scan must take.
func tokensOf(t *testing.T, s string) []api.Token {
	t.Helper()
	l, f := lexic.Scan(s)
	if f != (api.Fault{}) {
		t.Fatalf("Scan(%.80q): %v", s, f)
	}
	return l
}

// The chapter's own words once more, as patterns: of tokens with a blank behind each.
const (
	aWord   = `[a-z][a-z0-9]{0,15} `
	aNumber = `(?:0|[1-9][0-9]{0,15}) `
	ownStep = `(?:debit|credit|reserve|release) ` + aWord + aNumber + `(?:tries ` + aNumber + `)?; `
	askStep = `ask ` + aNumber + aWord + `(?:wait ` + aNumber + `)?; `
)

var (
	written  = regexp.MustCompile(`^saga ` + aWord + `\{ (?:` + ownStep + `|` + askStep + `)*\} $`)
	eachStep = regexp.MustCompile(`(debit|credit|reserve|release|ask) (\S+) (\S+) (?:(?:tries|wait) (\S+) )?; `)
	aName    = regexp.MustCompile(`^[a-z][a-z0-9]{0,15}$`)
	tooLong  = regexp.MustCompile(`^[0-9]{10,}$`)
)

// rests has, for each beginning of a definition, one way in which it can go on to its end.
var rests = []string{
	"saga a { } ", "a { } ", "{ } ", "} ", "a 1 ; } ", "1 ; } ", "; } ", "1 a ; } ", "a ; } ", "",
}

// goesOn tells whether something could be written that begins so.
func goesOn(s string) bool {
	return slices.ContainsFunc(rests, func(rest string) bool { return written.MatchString(s + rest) })
}

// wantNumber has a number that is no amount; one of more than nine digits is none that may be.
func wantNumber(s string, without int) int {
	if s == "" {
		return without
	}
	if tooLong.MatchString(s) {
		return math.MinInt
	}
	n, _ := strconv.Atoi(s)
	return n
}

// wantRead has what a written definition says.
func wantRead(s string) api.Def {
	head, body, _ := strings.Cut(s, " { ")
	d := api.Def{Name: strings.TrimPrefix(head, "saga ")}
	for _, m := range eachStep.FindAllStringSubmatch(body, -1) {
		if m[1] == "ask" {
			d.Steps = append(d.Steps, ask(wantNumber(m[2], 0), m[3], wantNumber(m[4], 20)))
			continue
		}
		amount, _ := strconv.ParseInt(m[3], 10, 64)
		kind := 1 + slices.Index([]string{"debit", "credit", "reserve", "release"}, m[1])
		d.Steps = append(d.Steps, own(kind, m[2], amount, wantNumber(m[4], 1)))
	}
	return d
}

// wantOwn and wantAsk are the second reading of which steps may be.
func wantOwn(s api.Step) bool {
	kind := slices.Contains([]int{1, 2, 3, 4}, s.Act.Kind)
	amount := s.Act.Amount > 0 && s.Act.Amount <= full
	return kind && amount && aName.MatchString(s.Act.Account) && slices.Contains([]int{1, 2, 3, 4, 5}, s.Tries) &&
		s == own(s.Act.Kind, s.Act.Account, s.Act.Amount, s.Tries)
}

func wantAsk(s api.Step) bool {
	return aName.MatchString(s.Sub) && s.Org >= 0 && s.Org < 16 && s.Wait > 0 && s.Wait < 51 && s == ask(s.Org, s.Sub, s.Wait)
}

// wantCheck is the second reading of P9.1.
func wantCheck(d api.Def) api.Errno {
	bad := func(s api.Step) bool { return !wantOwn(s) && !wantAsk(s) }
	if !aName.MatchString(d.Name) || len(d.Steps) == 0 || len(d.Steps) > 8 || slices.ContainsFunc(d.Steps, bad) {
		return api.ErrDef
	}
	return api.OK
}

// wantParse is the second reading of P9.2, of tokens that may be.
func wantParse(l []api.Token, at int) (api.Def, int, api.Fault) {
	if at < 0 || at >= len(l) {
		return api.Def{}, 0, api.Fault{Err: api.ErrArg}
	}
	s := ""
	for i := at; ; i++ {
		if l[i].Kind == api.TokEnd {
			return api.Def{}, 0, syntax(l[i].At)
		}
		s += l[i].Text + " "
		if written.MatchString(s) {
			d := wantRead(s)
			if wantCheck(d) != api.OK {
				return api.Def{}, 0, noDef(l[at].At)
			}
			return d, i + 1, api.Fault{}
		}
		if !goesOn(s) {
			return api.Def{}, 0, syntax(l[i].At)
		}
	}
}

// wantText is the second reading of P9.2's Text.
func wantText(s string) (api.Def, api.Fault) {
	l, f := lexic.Scan(s)
	if f.Err != api.OK {
		return api.Def{}, f
	}
	d, to, f := wantParse(l, 0)
	if f.Err == api.OK && to != len(l)-1 {
		return api.Def{}, syntax(l[to].At)
	}
	return d, f
}

// parses holds Parse against what it must answer.
func parses(t *testing.T, l []api.Token, at int, want api.Def, behind int, fault api.Fault) {
	t.Helper()
	d, to, f := Parse(l, at)
	if f != fault || to != behind || !equal(d, want) || f.Err != api.OK && !empty(d) {
		t.Errorf("Parse(%.200v of %d, %d): %v, %d, %v; want %v, %d, %v", l, len(l), at, d, to, f, want, behind, fault)
	}
}

// answers holds Text against what it must answer.
func answers(t *testing.T, s string, want api.Def, fault api.Fault) {
	t.Helper()
	d, f := Text(s)
	if f != fault || !equal(d, want) || f.Err != api.OK && !empty(d) {
		t.Errorf("Text(%.200q) of %d bytes: %v, %v; want %v, %v", s, len(s), d, f, want, fault)
	}
}

// reads holds Text, and the second reading, against what both must answer.
func reads(t *testing.T, s string, want api.Def, fault api.Fault) {
	t.Helper()
	answers(t, s, want, fault)
	if d, f := wantText(s); f != fault || !equal(d, want) {
		t.Errorf("the second reading of %.200q: %v, %v; want %v, %v", s, d, f, want, fault)
	}
}

// follows holds Text and Parse against the second reading, and what is read against P9.5.
func follows(t *testing.T, s string) api.Errno {
	t.Helper()
	want, fault := wantText(s)
	answers(t, s, want, fault)
	l, f := lexic.Scan(s)
	if f.Err != api.OK {
		return f.Err
	}
	if fault.Err == api.OK {
		back(t, want)
		parses(t, l, 0, want, len(l)-1, fault)
	} else if d, to, f := Parse(l, 0); f != fault && (f.Err != api.OK || l[to].At != fault.At) || f.Err != api.OK && (!empty(d) || to != 0) {
		t.Errorf("Parse of %q: %v, %d, %v; Text must tell %v", s, d, to, f, fault)
	}
	return fault.Err
}

// back is P9.4 and P9.5 of a definition that may be.
func back(t *testing.T, d api.Def) {
	t.Helper()
	s, e := Show(d)
	if e != api.OK {
		t.Fatalf("Show(%v): error %d", d, int(e))
	}
	c, f := Text(s)
	if f != (api.Fault{}) || !equal(c, d) || !Same(c, d) {
		t.Fatalf("Text(%q): %v, %v; want %v", s, c, f, d)
	}
	if again, e := Show(c); again != s || e != api.OK {
		t.Fatalf("Show of that: %q, error %d; want %q", again, int(e), s)
	}
}

// checks holds Check, Show and Same of one definition against what they must answer.
func checks(t *testing.T, d api.Def, want api.Errno) {
	t.Helper()
	if second := wantCheck(d); second != want {
		t.Errorf("the second reading of %v: error %d; want %d", d, int(second), int(want))
	}
	if e := Check(d); e != want {
		t.Errorf("Check(%v): error %d; want %d", d, int(e), int(want))
	}
	if s, e := Show(d); e != want || (s == "") != (want != api.OK) {
		t.Errorf("Show(%v): %q, error %d; want %d", d, s, int(e), int(want))
	}
	if b := Same(d, copied(d)); b != (want == api.OK) {
		t.Errorf("Same(%v and itself): %v", d, b)
	}
	if want == api.OK {
		back(t, d)
	}
}

// stepChecks holds a step, alone and at each place among others, against what Check must answer.
func stepChecks(t *testing.T, s api.Step, want api.Errno) {
	t.Helper()
	a, b := own(api.ActDebit, "cash", 5, 1), ask(2, "hotel", 20)
	for _, steps := range [][]api.Step{{s}, {s, a}, {a, s}, {b, s}, {s, b}, {a, s, b}, {s, s}, {a, b, a, b, a, b, a, s}, {s, b, a, b, a, b, a, b}} {
		checks(t, saga("t", steps...), want)
	}
}

// P9.1: definitions read by hand, of 0 to 9 steps and more.
func TestCheckByHand(t *testing.T) {
	a, b := own(api.ActDebit, "cash", 5, 3), ask(2, "hotel", 20)
	checks(t, api.Def{}, api.ErrDef)
	checks(t, saga("t"), api.ErrDef)
	checks(t, api.Def{Name: "t", Steps: []api.Step{}}, api.ErrDef)
	for n := range 30 {
		want := api.OK
		if n < 1 || n > 8 {
			want = api.ErrDef
		}
		checks(t, saga("t", slices.Repeat([]api.Step{a}, n)...), want)
		checks(t, saga("t", slices.Repeat([]api.Step{b}, n)...), want)
		checks(t, saga("t", slices.Repeat([]api.Step{a, b}, n)[:n]...), want)
	}
	checks(t, saga("t", slices.Repeat([]api.Step{a}, 100000)...), api.ErrDef)
}

// names has texts, and whether they are names.
func names() map[string]bool {
	return map[string]bool{
		"a": true, "z": true, "t": true, "a0": true, "z9z9": true, "saga": true, "ask": true, "tries": true, "abcdefghijklmnop": true, "a123456789012345": true,
		"": false, "abcdefghijklmnopq": false, "a1234567890123456": false, "0": false, "5": false, "5a": false, "A": false, "aB": false, "a b": false, " a": false, "a ": false,
		"a\n": false, "\na": false, "a_b": false, "a-b": false, "a.b": false, "é": false, "aé": false, "\x00": false, "a\x00": false, "\xff": false, "a\xff": false, "{": false, ";": false, "a;": false,
		"a#": false, "ａ": false, "`": false, "a`": false, "a/": false, "a:": false, "a@": false, "a[": false, "a{": false, strings.Repeat("a", 100000): false,
	}
}

// P9.1: a Name, an Account and a Sub that are names, and that are none.
func TestCheckOfNames(t *testing.T) {
	for name, is := range names() {
		want := api.OK
		if !is {
			want = api.ErrDef
		}
		checks(t, saga(name, own(api.ActDebit, "cash", 5, 1)), want)
		checks(t, saga(name, ask(2, "hotel", 20)), want)
		checks(t, saga(name), api.ErrDef)
		stepChecks(t, own(api.ActCredit, name, 5, 1), want)
		stepChecks(t, ask(2, name, 20), want)
	}
}

// numbers has edges of an int.
func numbers() []int {
	l := []int{math.MinInt, math.MinInt + 1, math.MinInt32, -100, -2, -1, 100, 255, 256, 257, 1000, math.MaxInt32, math.MaxInt - 1, math.MaxInt}
	for n := range 60 {
		l = append(l, n, 1<<32+n, -1<<32+n)
	}
	return l
}

// P9.1: steps of their own: each of their numbers, within its range and outside.
func TestCheckOfOwnSteps(t *testing.T) {
	errno := func(ok bool) api.Errno {
		if ok {
			return api.OK
		}
		return api.ErrDef
	}
	for _, n := range numbers() {
		for kind := 1; kind <= 4; kind++ {
			stepChecks(t, own(kind, "cash", 5, n), errno(n >= 1 && n <= 5))
			s := own(kind, "cash", 5, 1)
			s.Org = n
			stepChecks(t, s, errno(n == 0))
			s = own(kind, "cash", 5, 1)
			s.Wait = n
			stepChecks(t, s, errno(n == 0))
		}
		stepChecks(t, own(n, "cash", 5, 1), errno(n >= 1 && n <= 4))
	}
	for _, n := range []int64{math.MinInt64, -full, -1, 0, 1, 2, 1 << 32, full - 1, full, full + 1, 2 * full, math.MaxInt64} {
		for kind := 1; kind <= 4; kind++ {
			stepChecks(t, own(kind, "cash", n, 5), errno(n >= 1 && n <= full))
		}
	}
	s := own(api.ActDebit, "cash", 5, 1)
	s.Sub = "hotel"
	stepChecks(t, s, api.ErrDef)
}

// P9.1: steps that ask: each of their numbers, within its range and outside, and each part that must be empty.
func TestCheckOfAskingSteps(t *testing.T) {
	errno := func(ok bool) api.Errno {
		if ok {
			return api.OK
		}
		return api.ErrDef
	}
	for _, n := range numbers() {
		stepChecks(t, ask(n, "hotel", 20), errno(n >= 0 && n <= 15))
		stepChecks(t, ask(2, "hotel", n), errno(n >= 1 && n <= 50))
		s := ask(2, "hotel", 20)
		s.Tries = n
		stepChecks(t, s, errno(n == 0))
		s = ask(2, "hotel", 20)
		s.Act.Kind = n
		stepChecks(t, s, errno(n == 0))
		s = ask(2, "hotel", 20)
		s.Act.Amount = int64(n)
		stepChecks(t, s, errno(n == 0))
	}
	for name := range names() {
		s := ask(2, "hotel", 20)
		s.Act.Account = name
		stepChecks(t, s, errno(name == ""))
	}
	s := ask(2, "hotel", 20)
	s.Act = api.Act{Kind: api.ActDebit, Account: "cash", Amount: 5}
	stepChecks(t, s, api.ErrDef)
}

// everyStep goes through all steps whose fields have one of some values.
func everyStep(each func(api.Step)) {
	for _, kind := range []int{0, 1, 4, 5} {
		for _, account := range []string{"", "cash", "5"} {
			for _, amount := range []int64{0, 1, full + 1} {
				for _, org := range []int{-1, 0, 15, 16} {
					for _, sub := range []string{"", "hotel", "5"} {
						for _, tries := range []int{0, 1, 5, 6} {
							for _, wait := range []int{0, 1, 50, 51} {
								each(api.Step{Act: api.Act{Kind: kind, Account: account, Amount: amount}, Org: org, Sub: sub, Tries: tries, Wait: wait})
							}
						}
					}
				}
			}
		}
	}
}

// P9.1: steps that are neither, and that are both in part.
func TestCheckOfEveryStep(t *testing.T) {
	count := map[api.Errno]int{}
	everyStep(func(s api.Step) {
		want := wantCheck(saga("t", s))
		checks(t, saga("t", s), want)
		count[want]++
	})
	// Two kinds with two tries are of their own; two organisations with two waits ask.
	if count[api.OK] != 4+4 || count[api.ErrDef] < 1000 {
		t.Error("of one kind there were too many, or too few", count)
	}
	stepChecks(t, api.Step{}, api.ErrDef)
}

// P9.1: definitions that differ in one field alone are not the same.
func TestSame(t *testing.T) {
	d := saga("trip", own(api.ActDebit, "cash", 5, 3), ask(2, "hotel", 20), own(api.ActRelease, "stock", 1, 1))
	change := func(at int, f func(*api.Step)) api.Def {
		c := copied(d)
		f(&c.Steps[at])
		return c
	}
	others := []api.Def{
		saga("trop", d.Steps...), saga("tripp", d.Steps...), saga("tri", d.Steps...),
		saga("trip", d.Steps[:2]...), saga("trip", d.Steps[1:]...), saga("trip", d.Steps[0]),
		saga("trip", append(slices.Clone(d.Steps), d.Steps[2])...),
		saga("trip", d.Steps[1], d.Steps[0], d.Steps[2]), saga("trip", d.Steps[0], d.Steps[2], d.Steps[1]),
	}
	for _, at := range []int{0, 2} {
		others = append(others,
			change(at, func(s *api.Step) { s.Act.Kind = api.ActCredit }),
			change(at, func(s *api.Step) { s.Act.Kind = api.ActReserve }),
			change(at, func(s *api.Step) { s.Act.Account += "x" }),
			change(at, func(s *api.Step) { s.Act.Amount++ }),
			change(at, func(s *api.Step) { s.Tries++ }),
			change(at, func(s *api.Step) { *s = d.Steps[1] }))
	}
	others = append(others,
		change(1, func(s *api.Step) { s.Org++ }),
		change(1, func(s *api.Step) { s.Sub = "motel" }),
		change(1, func(s *api.Step) { s.Wait++ }),
		change(1, func(s *api.Step) { *s = d.Steps[0] }))
	if !Same(d, d) || !Same(d, copied(d)) {
		t.Error("not the same as itself")
	}
	for _, c := range others {
		checks(t, c, api.OK)
		if Same(d, c) || Same(c, d) {
			t.Errorf("%v and %v are not the same", d, c)
		}
	}
}

// P9.1: what may not be is not the same as anything, not as itself.
func TestSameOfWhatMayNotBe(t *testing.T) {
	good := saga("t", own(api.ActDebit, "cash", 5, 1))
	for _, d := range []api.Def{
		{}, saga("t"), saga("", good.Steps...), saga("T", good.Steps...), saga("t", api.Step{}), saga("t", own(api.ActDebit, "cash", 5, 6)),
		saga("t", slices.Repeat(good.Steps, 9)...), saga("t", ask(16, "hotel", 20)), saga("t", good.Steps[0], api.Step{}), saga("t", ask(2, "hotel", 0)),
	} {
		if Same(d, d) || Same(d, copied(d)) || Same(d, good) || Same(good, d) {
			t.Errorf("%v is the same as something", d)
		}
	}
}

// P9.2: the chapter's examples, and texts read by hand.
func TestTextByHand(t *testing.T) {
	trip := saga("trip", own(api.ActDebit, "cash", 5, 3), ask(2, "hotel", 20))
	for s, want := range map[string]api.Def{
		"saga trip { debit cash 5 tries 3; ask 2 hotel; }":                                      trip,
		"saga trip{debit cash 5 tries 3;ask 2 hotel;}":                                          trip,
		"saga trip{debit cash 5tries 3;ask 2hotel;}":                                            trip,
		" \t\n# x\nsaga # saga\n trip\n{\n\tdebit cash 5 tries 3 ; # 7\nask 2 hotel\n; } \n# }": trip,
		"saga trip {\n  debit cash 5 tries 3;\n  ask 2 hotel wait 20;\n}\n":                     trip,
		"saga t { debit a 1; }":                                                                 saga("t", own(1, "a", 1, 1)),
		"saga t { credit a 1; }":                                                                saga("t", own(2, "a", 1, 1)),
		"saga t { reserve a 1; }":                                                               saga("t", own(3, "a", 1, 1)),
		"saga t { release a 1; }":                                                               saga("t", own(4, "a", 1, 1)),
		"saga t { ask 0 u; }":                                                                   saga("t", ask(0, "u", 20)),
		"saga t { ask 15 u wait 1; }":                                                           saga("t", ask(15, "u", 1)),
		"saga t { ask 15 u wait 50; }":                                                          saga("t", ask(15, "u", 50)),
		"saga t { debit a 1000000000000000 tries 5; }":                                          saga("t", own(1, "a", full, 5)),
		"saga t { debit a 999999999999999 tries 1; }":                                           saga("t", own(1, "a", full-1, 1)),
		"saga t { ask 1 t; ask 1 t; ask 1 t; }":                                                 saga("t", ask(1, "t", 20), ask(1, "t", 20), ask(1, "t", 20)),
		"saga t { release x 2; credit y 3; reserve z 4; }":                                      saga("t", own(4, "x", 2, 1), own(2, "y", 3, 1), own(3, "z", 4, 1)),
		"saga abcdefghijklmnop { ask 9 ponmlkjihgfedcba; debit z123456789012345 7; }":           saga("abcdefghijklmnop", ask(9, "ponmlkjihgfedcba", 20), own(1, "z123456789012345", 7, 1)),
	} {
		reads(t, s, want, api.Fault{})
		follows(t, s)
	}
}

// P9.2: ErrSyntax at the first token with which nothing goes on.
func TestTextOfWrongTexts(t *testing.T) {
	for s, at := range map[string]int{
		"": 0, " ": 1, "# x": 3, "x": 0, "5": 0, "{": 0, "}": 0, ";": 0, "sag t": 0, "sagas t": 0, "debit cash 5;": 0, " x saga t { debit cash 5; }": 1,
		"saga": 4, "saga ": 5, "saga 5": 5, "saga {": 5, "saga ;": 5, "saga }": 5, "saga t": 6, "saga t t": 7, "saga t 5": 7, "saga t }": 7, "saga t ;": 7, "saga t debit cash 5;": 7,
		"saga t {": 8, "saga t { {": 9, "saga t { ;": 9, "saga t { 5": 9, "saga t { x": 9, "saga t { saga": 9, "saga t { tries 5;": 9, "saga t { wait 5; }": 9, "saga t { debi cash 5; }": 9,
		"saga t { debits cash 5; }": 9, "saga t { pay cash 5; }": 9, "saga t { asks 2 hotel; }": 9, "saga t { as 2 hotel; }": 9,
		"saga t { debit cash; }": 19, "saga t { debit 5; }": 15, "saga t { debit ; }": 15, "saga t { debit": 14, "saga t { debit }": 15, "saga t { debit {": 15, "saga t { debit cash": 19,
		"saga t { debit cash cash": 20, "saga t { debit cash tries 3; }": 20, "saga t { debit cash 5": 21, "saga t { debit cash 5 }": 22, "saga t { debit cash 5 5": 22, "saga t { debit cash 5 x": 22,
		"saga t { debit cash 5 {": 22, "saga t { debit cash 5 wait 2; }": 22, "saga t { debit cash 5 try 2; }": 22, "saga t { debit cash 5 triess 2; }": 22, "saga t { debit cash 5 trie 2; }": 22,
		"saga t { debit cash 5 tries; }": 27, "saga t { debit cash 5 tries": 27, "saga t { debit cash 5 tries x; }": 28, "saga t { debit cash 5 tries tries 3; }": 28,
		"saga t { debit cash 5 tries 3": 29, "saga t { debit cash 5 tries 3 4; }": 30, "saga t { debit cash 5 tries 3 tries 3; }": 30, "saga t { debit cash 5 tries 3 wait 3; }": 30, "saga t { debit cash 5 tries 3 }": 30,
		"saga t { debit cash 5;": 22, "saga t { debit cash 5;; }": 22, "saga t { debit cash 5; ; }": 23, "saga t { debit cash 5; x }": 23, "saga t { debit cash 5; { }": 23, "saga t { debit cash 5; tries 3; }": 23,
		"saga t { ask": 12, "saga t { ask hotel; }": 13, "saga t { ask hotel 2; }": 13, "saga t { ask ; }": 13, "saga t { ask 2": 14, "saga t { ask 2; }": 14, "saga t { ask 2 2": 15, "saga t { ask 2 {": 15,
		"saga t { ask 2 hotel": 20, "saga t { ask 2 hotel }": 21, "saga t { ask 2 hotel 5; }": 21, "saga t { ask 2 hotel x; }": 21, "saga t { ask 2 hotel tries 2; }": 21, "saga t { ask 2 hotel waits 2; }": 21,
		"saga t { ask 2 hotel wait; }": 25, "saga t { ask 2 hotel wait wait 2; }": 26, "saga t { ask 2 hotel wait 2": 27, "saga t { ask 2 hotel wait 2 3; }": 28, "saga t { ask 2 hotel wait 2 tries 3; }": 28,
		"saga t { ask 2 hotel wait 2 wait 2; }": 28, "saga t { ask 2 hotel; ask": 25, "saga t { ask 2 wait 5; }": 20,
		"saga t { debit cash 5; } x": 25, "saga t { debit cash 5; } }": 25, "saga t { debit cash 5; } ;": 25, "saga t { debit cash 5; } 5": 25, "saga t { debit cash 5; }}": 24, "saga t { debit cash 5; } saga t { debit cash 5; }": 25,
		"saga t { debit cash 5; }\n# x\n saga": 30,
	} {
		reads(t, s, api.Def{}, syntax(at))
		follows(t, s)
	}
}

// P9.2: ErrDef at the word saga of what is written as it must be, but may not be.
func TestTextOfDefinitionsThatMayNotBe(t *testing.T) {
	for _, s := range []string{
		"saga t {}", "saga t { }", "saga t { debit cash 0; }", "saga t { debit cash 1000000000000001; }", "saga t { debit cash 9999999999999999; }",
		"saga t { debit cash 5 tries 0; }", "saga t { debit cash 5 tries 6; }", "saga t { debit cash 5 tries 10; }", "saga t { release cash 5 tries 100; }",
		"saga t { ask 16 hotel; }", "saga t { ask 17 hotel; }", "saga t { ask 2 hotel wait 0; }", "saga t { ask 2 hotel wait 51; }", "saga t { ask 100 hotel wait 100; }",
		"saga t { debit cash 5; ask 16 hotel; debit cash 5; }", "saga t { debit cash 0; debit cash 5; }", "saga t { debit cash 5; debit cash 0; }",
		"saga t { debit cash 5; debit cash 5; debit cash 5; debit cash 5; debit cash 5; debit cash 5; debit cash 5; debit cash 5; debit cash 5; }",
	} {
		for _, ahead := range []string{"", " ", "\n\t", "# x\n", strings.Repeat(" ", 1000)} {
			reads(t, ahead+s, api.Def{}, noDef(len(ahead)))
			reads(t, ahead+s+" x", api.Def{}, noDef(len(ahead)))
			reads(t, ahead+s+" saga t { debit cash 5; }", api.Def{}, noDef(len(ahead)))
			reads(t, ahead+s+"\n# x", api.Def{}, noDef(len(ahead)))
		}
	}
}

// P9.2: any number of steps can be written; 1 to 8 may be. What is wrong in how they are written goes ahead of that.
func TestTextOfManySteps(t *testing.T) {
	for n := range 40 {
		for _, one := range []string{"debit a 1;", "ask 1 b;", "credit a 1 tries 2;", "ask 1 b wait 2;"} {
			s := "saga t {" + strings.Repeat(one, n)
			reads(t, s, api.Def{}, syntax(len(s)))
			reads(t, s+"x }", api.Def{}, syntax(len(s)))
			reads(t, s+one[:len(one)-1]+"}", api.Def{}, syntax(len(s)+len(one)-1))
			d, f := Text(s + "}")
			if n >= 1 && n <= 8 && (f != (api.Fault{}) || len(d.Steps) != n) || (n < 1 || n > 8) && f != noDef(0) {
				t.Errorf("%d steps: %v, %v", n, d, f)
			}
			follows(t, s+"}")
		}
	}
}

// P9.2: the words of the language may be names, at every place where a name stands.
func TestWordsAsNames(t *testing.T) {
	words := []string{"saga", "debit", "credit", "reserve", "release", "ask", "tries", "wait"}
	for _, w := range words {
		for _, v := range words {
			reads(t, "saga "+w+" { debit "+v+" 5; }", saga(w, own(1, v, 5, 1)), api.Fault{})
			reads(t, "saga "+w+" { release "+v+" 5 tries 2; }", saga(w, own(4, v, 5, 2)), api.Fault{})
			reads(t, "saga "+w+" { ask 3 "+v+"; }", saga(w, ask(3, v, 20)), api.Fault{})
			reads(t, "saga "+w+" { ask 3 "+v+" wait 7; ask 4 "+w+"; }", saga(w, ask(3, v, 7), ask(4, w, 20)), api.Fault{})
		}
		reads(t, "saga t { debit "+w+"; }", api.Def{}, syntax(15+len(w)))
		reads(t, "saga t { ask 2 "+w+" 7; }", api.Def{}, syntax(16+len(w)))
		if w != "saga" {
			reads(t, w+" t { debit a 1; }", api.Def{}, syntax(0))
		}
	}
}

// digits has numbers of some length, at their edges.
func digits(n int) []string {
	return []string{"1" + strings.Repeat("0", n-1), strings.Repeat("9", n), "1234567890123456"[:n], "4294967297000000"[:n]}
}

// P9.2: numbers of each length. A number of more than nine digits, but an amount, is none that may be.
func TestNumbersOfEachLength(t *testing.T) {
	for n := 1; n <= 16; n++ {
		for _, s := range digits(n) {
			v, _ := strconv.ParseInt(s, 10, 64)
			numberOf(t, "saga t { debit cash ", s, "; }", v <= full)
			numberOf(t, "saga t { debit cash ", s, " tries 2; }", v <= full)
			numberOf(t, "saga t { debit cash 5 tries ", s, "; }", v <= 5)
			numberOf(t, "saga t { ask ", s, " hotel; }", v <= 15)
			numberOf(t, "saga t { ask ", s, " hotel wait 3; }", v <= 15)
			numberOf(t, "saga t { ask 2 hotel wait ", s, "; }", v <= 50)
		}
	}
	// What these wrap round to in 32 bits, or say in their last digits, may be.
	for _, s := range []string{"4294967296", "4294967297", "4294967298", "1000000001", "10000000000", "8589934593", "1000000000000001", "9999999999999996", "4294967296000001"} {
		numberOf(t, "saga t { debit cash 5 tries ", s, "; }", false)
		numberOf(t, "saga t { ask ", s, " hotel; }", false)
		numberOf(t, "saga t { ask 2 hotel wait ", s, "; }", false)
	}
	numberOf(t, "saga t { debit cash ", "0", "; }", false)
	numberOf(t, "saga t { debit cash 5 tries ", "0", "; }", false)
	numberOf(t, "saga t { ask ", "0", " hotel; }", true)
	numberOf(t, "saga t { ask 2 hotel wait ", "0", "; }", false)
}

// numberOf holds a text with a number in it against whether that may stand there, and with a fault behind it.
func numberOf(t *testing.T, ahead, n, behind string, ok bool) {
	t.Helper()
	want := noDef(0)
	if ok {
		want = api.Fault{}
	}
	if _, f := Text(ahead + n + behind); f != want {
		t.Errorf("Text(%q): %v; want %v", ahead+n+behind, f, want)
	}
	follows(t, ahead+n+behind)
	s := ahead + n + strings.TrimSuffix(behind, "}")
	reads(t, s+"7", api.Def{}, syntax(len(s)))
	follows(t, ahead+n+"7")
	follows(t, ahead+n+"x")
}

// P9.2: a number that may not be, ahead of a fault in how it is written and behind it: that fault is told.
func TestSyntaxAheadOfNumbers(t *testing.T) {
	for _, bad := range []string{"debit cash 0;", "debit cash 5 tries 6;", "ask 16 hotel;", "ask 2 hotel wait 51;", "ask 4294967297 hotel;", "debit cash 5 tries 9999999999999999;", "debit cash 1000000000000001;"} {
		for _, wrong := range []string{"x", "5", "{", ";", "debit;", "debit cash;", "debit cash 5 wait 2;", "ask;", "ask 2;", "ask 2 hotel tries 2;"} {
			s := "saga t { " + bad + " " + wrong + " }"
			if e := follows(t, s); e != api.ErrSyntax {
				t.Errorf("%q: error %d", s, int(e))
			}
			s = "saga t { " + wrong + " " + bad + " }"
			if e := follows(t, s); e != api.ErrSyntax {
				t.Errorf("%q: error %d", s, int(e))
			}
			follows(t, "saga t { "+bad+" } "+wrong)
			follows(t, "saga t { debit cash 5; } "+wrong+" "+bad)
		}
	}
}

// P9.2: Scan's faults go ahead of all others, wherever they stand.
func TestScanFaultsFirst(t *testing.T) {
	good := "saga t { debit cash 5; }"
	for _, s := range []string{good, "x", "", "saga t {}", "saga t { ask 16 u; }", "saga t { debit;", good + good, "} {"} {
		for _, bad := range []string{"-", "05", "A", "\xff", "abcdefghijklmnopq", "12345678901234567"} {
			reads(t, s+" "+bad, api.Def{}, api.Fault{Err: api.ErrToken, At: len(s) + 1})
			reads(t, bad+" "+s, api.Def{}, api.Fault{Err: api.ErrToken})
			long := strings.Repeat(" ", 2001)
			reads(t, s+" "+bad+long, api.Def{}, api.Fault{Err: api.ErrBig})
		}
		for _, n := range []int{2001, 2002, 3000, 100000} {
			reads(t, s+strings.Repeat(" ", n-len(s)), api.Def{}, api.Fault{Err: api.ErrBig})
			reads(t, strings.Repeat(" ", n-len(s))+s, api.Def{}, api.Fault{Err: api.ErrBig})
			reads(t, s+"#"+strings.Repeat("x", n-len(s)-1), api.Def{}, api.Fault{Err: api.ErrBig})
		}
	}
	want := saga("t", own(1, "cash", 5, 1))
	reads(t, good+strings.Repeat(" ", 2000-len(good)), want, api.Fault{})
	reads(t, strings.Repeat("\n", 2000-len(good))+good, want, api.Fault{})
	reads(t, good+strings.Repeat(" ", 1999-len(good))+";", api.Def{}, syntax(1999))
	reads(t, strings.Repeat(" ", 1999)+"x", api.Def{}, syntax(1999))
}

// P9.2: texts that Scan takes are read though their tokens, written with blanks, would be too long.
func TestTokensSideBySide(t *testing.T) {
	good := "saga t{debit cash 5;}"
	l := tokensOf(t, good+strings.Repeat(";", 2000-len(good)))
	if lexic.Check(l) != api.ErrBig {
		t.Error("these tokens are not too long")
	}
	parses(t, l, 0, saga("t", own(1, "cash", 5, 1)), 8, api.Fault{})
	parses(t, l, 8, api.Def{}, 0, syntax(len(good)))
	parses(t, l, 1, api.Def{}, 0, syntax(5))
	parses(t, l, len(l)-1, api.Def{}, 0, syntax(2000))
	parses(t, l, len(l), api.Def{}, 0, api.Fault{Err: api.ErrArg})
	reads(t, good+strings.Repeat(";", 2000-len(good)), api.Def{}, syntax(len(good)))
	many := "saga t{" + strings.Repeat("ask 1u;", 280) + "}"
	if lexic.Check(tokensOf(t, many)) != api.ErrBig {
		t.Error("these tokens are not too long")
	}
	reads(t, many, api.Def{}, noDef(0))
	reads(t, many[:len(many)-1], api.Def{}, syntax(len(many)-1))
	endless := append(slices.Repeat(l[:8], 5000), l[len(l)-1])
	parses(t, endless, 0, saga("t", own(1, "cash", 5, 1)), 8, api.Fault{})
	parses(t, endless, 8*4999, saga("t", own(1, "cash", 5, 1)), 8*5000, api.Fault{})
}

// P9.2: Parse from each number of the tokens, and from numbers that none has.
func TestParseFromEachNumber(t *testing.T) {
	trip := saga("trip", own(api.ActDebit, "cash", 5, 3), ask(2, "hotel", 20))
	l := tokensOf(t, "x saga trip { debit cash 5 tries 3; ask 2 hotel; } saga u {} saga saga { ask 1 saga; } saga")
	for at, want := range map[int]api.Def{1: trip, 19: saga("saga", ask(1, "saga", 20))} {
		d, to, f := Parse(l, at)
		if !equal(d, want) || f != (api.Fault{}) || to != map[int]int{1: 15, 19: 27}[at] {
			t.Error(at, d, to, f)
		}
	}
	parses(t, l, 15, api.Def{}, 0, noDef(l[15].At))
	parses(t, l, 20, api.Def{}, 0, syntax(l[21].At)) // saga { ..
	parses(t, l, 27, api.Def{}, 0, syntax(l[28].At)) // saga, and the end
	parses(t, l, 28, api.Def{}, 0, syntax(l[28].At))
	for at := -3; at < len(l)+3; at++ {
		want, to, fault := wantParse(l, at)
		parses(t, l, at, want, to, fault)
		if (at < 0 || at >= len(l)) != (fault.Err == api.ErrArg) {
			t.Error(at, fault)
		}
	}
	for _, at := range []int{-1, len(l), len(l) + 1, 1 << 32, 1<<32 + 1, -1 << 32, math.MinInt, math.MaxInt} {
		parses(t, l, at, api.Def{}, 0, api.Fault{Err: api.ErrArg})
		parses(t, []api.Token{{}}, at, api.Def{}, 0, api.Fault{Err: api.ErrArg})
		parses(t, nil, at, api.Def{}, 0, api.Fault{Err: api.ErrToken})
	}
	parses(t, []api.Token{{At: 7}}, 0, api.Def{}, 0, syntax(7))
}

// P9.2: tokens that may not be are ErrToken at 0, ahead of a number that no token has.
func TestParseOfWrongTokens(t *testing.T) {
	good := tokensOf(t, "saga t { debit cash 5; } x")
	var rows [][]api.Token
	for at := range good {
		for _, k := range []api.Token{
			{Kind: api.TokWord, Text: "A"}, {Kind: api.TokWord}, {Kind: api.TokNum, Text: "05"}, {Kind: api.TokSign, Text: "saga"}, {Kind: api.TokSign, Text: "debit"}, {Kind: api.TokNum, Text: "t"},
			{Kind: 4, Text: "saga"}, {Kind: -1, Text: ";"}, {Text: "x"}, {Kind: api.TokWord, Text: "abcdefghijklmnopq"}, {Kind: math.MaxInt, Text: "5"},
		} {
			l := slices.Clone(good)
			l[at] = k
			rows = append(rows, l)
		}
		rows = append(rows, good[:at])
		if at < len(good)-1 {
			l := slices.Clone(good)
			l[at] = api.Token{}
			rows = append(rows, l)
		}
	}
	rows = append(rows, nil, []api.Token{}, append(slices.Clone(good), api.Token{}), append(slices.Clone(good), good...))
	for _, l := range rows {
		for _, at := range []int{0, 1, 8, len(l) - 1, len(l), len(l) + 1, -1, math.MinInt, math.MaxInt} {
			parses(t, l, at, api.Def{}, 0, api.Fault{Err: api.ErrToken})
		}
	}
}

// P9.2: faults tell what the tokens say of their places, whatever that is.
func TestPlacesAsTold(t *testing.T) {
	for _, s := range []string{"saga t { debit cash 5; }", "saga t {}", "saga t { ask 16 u; }", "saga t { x", "saga t { debit cash 5", "x", ""} {
		for _, n := range []int{-1, 0, 1, 5000, math.MinInt, math.MaxInt} {
			l := tokensOf(t, s)
			for i := range l {
				l[i].At = n
			}
			want, to, fault := wantParse(l, 0)
			parses(t, l, 0, want, to, fault)
			if fault.Err != api.OK && fault.At != n {
				t.Error(s, n, fault)
			}
		}
	}
}

// all has a text with everything that can be written.
const all = "saga trip { debit cash 5 tries 3; ask 2 hotel wait 7; release stock 1; ask 0 bus; reserve seats 4; credit bank 6 tries 1; }"

// P9.2: texts that end at each token.
func TestTextsThatEndAtEachToken(t *testing.T) {
	l := tokensOf(t, all)
	for _, k := range l[:len(l)-1] {
		s := all[:k.At]
		reads(t, s, api.Def{}, syntax(len(s)))
		u := strings.TrimRight(s, " ")
		reads(t, u, api.Def{}, syntax(len(u)))
		reads(t, s+"# x", api.Def{}, syntax(len(s)+3))
	}
	if e := follows(t, all); e != api.OK {
		t.Error(int(e))
	}
}

// P9.2: each token of a definition changed into each other one, left out, doubled, and with each other one ahead of it.
func TestEachTokenChanged(t *testing.T) {
	others := []string{"saga", "debit", "credit", "reserve", "release", "ask", "tries", "wait", "x", "0", "1", "5", "6", "16", "51", "999999999", "4294967297", "9999999999999999", "{", "}", ";"}
	count := map[api.Errno]int{}
	for i, n := 0, len(tokensOf(t, all))-1; i < n; i++ {
		l := strings.Fields(strings.ReplaceAll(all, ";", " ;"))
		try := func(to ...string) {
			count[follows(t, strings.Join(slices.Replace(slices.Clone(l), i, i+1, to...), " "))]++
		}
		try()
		try(l[i], l[i])
		for _, other := range others {
			try(other)
			try(other, l[i])
			for _, more := range others {
				try(other, more)
			}
		}
	}
	if count[api.OK] < 50 || count[api.ErrSyntax] < 1000 || count[api.ErrDef] < 50 {
		t.Error("of one kind there were too few", count)
	}
}

// P9.2: every short row of tokens, behind each beginning.
func TestEveryShortRow(t *testing.T) {
	pieces := []string{"saga", "debit", "ask", "tries", "wait", "x", "3", "{", "}", ";"}
	count := map[api.Errno]int{}
	var grow func(string, int)
	grow = func(s string, left int) {
		count[follows(t, s)]++
		if left > 0 {
			for _, p := range pieces {
				grow(s+" "+p, left-1)
			}
		}
	}
	for _, s := range []string{"", "saga t", "saga t {", "saga t { debit a", "saga t { debit a 1", "saga t { debit a 1;", "saga t { debit a 1 tries", "saga t { ask 1", "saga t { ask 1 b", "saga t { ask 1 b wait", "saga t { ask 1 b wait 2 ;", "saga t { ask 1 b; }"} {
		grow(s, 3)
	}
	grow("saga t {", 4)
	if count[api.OK] < 10 || count[api.ErrSyntax] < 1000 || count[api.ErrDef] < 10 {
		t.Error("of one kind there were too few", count)
	}
}

// someName has some name, often one of the language's words.
func someName(r *rand.Rand) string {
	if r.Intn(3) == 0 {
		return []string{"saga", "debit", "credit", "reserve", "release", "ask", "tries", "wait"}[r.Intn(8)]
	}
	const letters = "abcdefghijklmnopqrstuvwxyz0123456789"
	b := []byte{letters[r.Intn(26)]}
	for range r.Intn(16) {
		b = append(b, letters[r.Intn(36)])
	}
	return string(b)
}

// someDef has some definition that may be.
func someDef(r *rand.Rand) api.Def {
	d := saga(someName(r))
	for range 1 + r.Intn(8) {
		if r.Intn(2) == 0 {
			d.Steps = append(d.Steps, ask(r.Intn(16), someName(r), 1+r.Intn(50)))
		} else {
			amount := 1 + r.Int63n([]int64{5, 1000000, full}[r.Intn(3)])
			d.Steps = append(d.Steps, own(1+r.Intn(4), someName(r), amount, 1+r.Intn(5)))
		}
	}
	return d
}

// someText writes a definition by chance: with what may be left out left out now and then, and blanks of all kinds.
func someText(r *rand.Rand, d api.Def) string {
	blank := func() string { return []string{" ", "\n", "\t", "  ", " # ; }\n", "#\n"}[r.Intn(6)] }
	l := []string{"saga", d.Name, "{"}
	for _, s := range d.Steps {
		if s.Sub != "" {
			l = append(l, "ask", strconv.Itoa(s.Org), s.Sub)
			if s.Wait != 20 || r.Intn(2) == 0 {
				l = append(l, "wait", strconv.Itoa(s.Wait))
			}
		} else {
			l = append(l, []string{"", "debit", "credit", "reserve", "release"}[s.Act.Kind], s.Act.Account, strconv.FormatInt(s.Act.Amount, 10))
			if s.Tries != 1 || r.Intn(2) == 0 {
				l = append(l, "tries", strconv.Itoa(s.Tries))
			}
		}
		l = append(l, ";")
	}
	text := ""
	for _, s := range append(l, "}") {
		text += blank() + s
	}
	return text + blank()
}

// P9.2, P9.4, P9.5: definitions by chance, written by chance.
func TestDefinitionsByChance(t *testing.T) {
	r := rand.New(rand.NewSource(91))
	for range 1000 {
		d := someDef(r)
		checks(t, d, api.OK)
		s := someText(r, d)
		reads(t, s, d, api.Fault{})
		cut := s[:r.Intn(len(s))]
		follows(t, cut)
		at := r.Intn(len(s))
		follows(t, s[:at]+[]string{"x", " ", ";", "0", "7", " saga ", " } ", " tries 2 ", " wait 2 "}[r.Intn(9)]+s[at:])
	}
}

// P9.2: Parse of rows of definitions, one behind the other.
func TestParseOneBehindTheOther(t *testing.T) {
	r := rand.New(rand.NewSource(92))
	for range 200 {
		var defs []api.Def
		var l []api.Token
		for range 1 + r.Intn(8) {
			d := someDef(r)
			defs = append(defs, d)
			s, _ := Show(d)
			row := tokensOf(t, s)
			l = append(l, row[:len(row)-1]...)
		}
		l = append(l, api.Token{})
		at := 0
		for i, want := range defs {
			d, to, f := Parse(l, at)
			if !equal(d, want) || to <= at || f != (api.Fault{}) {
				t.Fatalf("number %d: %v, %d, %v; want %v", i, d, to, f, want)
			}
			at = to
		}
		if at != len(l)-1 {
			t.Fatal(at, len(l))
		}
	}
}

// P9.3: texts read by hand, byte for byte.
func TestShowByHand(t *testing.T) {
	for want, d := range map[string]api.Def{
		"saga trip {\n  debit cash 5 tries 3;\n  ask 2 hotel wait 20;\n}\n":            saga("trip", own(api.ActDebit, "cash", 5, 3), ask(2, "hotel", 20)),
		"saga t {\n  debit a 1 tries 1;\n}\n":                                          saga("t", own(1, "a", 1, 1)),
		"saga t {\n  credit a 1 tries 1;\n}\n":                                         saga("t", own(2, "a", 1, 1)),
		"saga t {\n  reserve a 1 tries 1;\n}\n":                                        saga("t", own(3, "a", 1, 1)),
		"saga t {\n  release a 1 tries 1;\n}\n":                                        saga("t", own(4, "a", 1, 1)),
		"saga t {\n  release a 1000000000000000 tries 5;\n}\n":                         saga("t", own(4, "a", full, 5)),
		"saga t {\n  ask 0 u wait 1;\n}\n":                                             saga("t", ask(0, "u", 1)),
		"saga t {\n  ask 15 u wait 50;\n}\n":                                           saga("t", ask(15, "u", 50)),
		"saga saga {\n  ask 1 wait wait 20;\n  debit tries 2 tries 1;\n}\n":            saga("saga", ask(1, "wait", 20), own(1, "tries", 2, 1)),
		"saga abcdefghijklmnop {\n" + strings.Repeat("  ask 9 u wait 9;\n", 8) + "}\n": saga("abcdefghijklmnop", slices.Repeat([]api.Step{ask(9, "u", 9)}, 8)...),
	} {
		if s, e := Show(d); s != want || e != api.OK {
			t.Errorf("Show(%v): %q, error %d; want %q", d, s, int(e), want)
		}
		back(t, d)
	}
}

// P9.3: the text by its rule, of definitions by chance.
func TestShowByChance(t *testing.T) {
	r := rand.New(rand.NewSource(93))
	for range 2000 {
		d := someDef(r)
		want := fmt.Sprintf("saga %s {\n", d.Name)
		for _, s := range d.Steps {
			if s.Sub != "" {
				want += fmt.Sprintf("  ask %d %s wait %d;\n", s.Org, s.Sub, s.Wait)
			} else {
				want += fmt.Sprintf("  %s %s %d tries %d;\n", []string{"", "debit", "credit", "reserve", "release"}[s.Act.Kind], s.Act.Account, s.Act.Amount, s.Tries)
			}
		}
		if s, e := Show(d); s != want+"}\n" || e != api.OK {
			t.Fatalf("Show(%v): %q, error %d; want %q", d, s, int(e), want)
		}
	}
}

// P9.4: the longest text of all is read again.
func TestLongestText(t *testing.T) {
	const name = "abcdefghijklmnop"
	d := saga(name, slices.Repeat([]api.Step{own(api.ActReserve, name, full, 5)}, 8)...)
	s, e := Show(d)
	if e != api.OK || len(s) > api.MaxText {
		t.Error(len(s), int(e))
	}
	back(t, d)
}

// P9.4, P9.5: every number of every field.
func TestBackOfEachNumber(t *testing.T) {
	for tries := 1; tries <= 5; tries++ {
		for kind := 1; kind <= 4; kind++ {
			for n := int64(1); n <= full; n *= 10 {
				checks(t, saga("t", own(kind, "cash", n, tries)), api.OK)
				checks(t, saga("t", own(kind, "cash", max(n-1, 1), tries)), api.OK)
			}
		}
	}
	for org := range 16 {
		for wait := 1; wait <= 50; wait++ {
			checks(t, saga("t", ask(org, "hotel", wait)), api.OK)
		}
	}
}

// inside tells whether a text stands in another one's memory.
func inside(part, whole string) bool {
	from := uintptr(unsafe.Pointer(unsafe.StringData(whole)))
	here := uintptr(unsafe.Pointer(unsafe.StringData(part)))
	return part != "" && from <= here && here < from+uintptr(len(whole))
}

func textsOf(d api.Def) []string {
	l := []string{d.Name}
	for _, s := range d.Steps {
		l = append(l, s.Act.Account, s.Sub)
	}
	return l
}

// P9.2: what is handed out is new memory.
func TestNewMemory(t *testing.T) {
	s := strings.Clone(all)
	l := tokensOf(t, s)
	fromText, _ := Text(s)
	fromTokens, _, _ := Parse(l, 0)
	for _, part := range textsOf(fromText) {
		if inside(part, s) {
			t.Errorf("%q is a piece of the text", part)
		}
	}
	for _, part := range textsOf(fromTokens) {
		for _, k := range l {
			if inside(part, k.Text) {
				t.Errorf("%q is a token's", part)
			}
		}
	}
	want := copied(fromTokens)
	clear(fromTokens.Steps[:cap(fromTokens.Steps)])
	clear(fromText.Steps[:cap(fromText.Steps)])
	parses(t, l, 0, want, len(l)-1, api.Fault{})
	reads(t, s, want, api.Fault{})
}

// P9.1, P9.2, P9.3: what is handed in is not changed, nor what stands in its spare room.
func TestNotChanged(t *testing.T) {
	spare := append(tokensOf(t, all+" x"), api.Token{Kind: 9, Text: "y", At: 9})
	was := slices.Clone(spare)
	for n := range len(spare) + 1 {
		for _, at := range []int{0, 1, n} {
			Parse(spare[:n], at)
		}
	}
	if !slices.Equal(spare, was) {
		t.Error("tokens were changed", spare)
	}
	d, _ := Text(all)
	steps := append(slices.Clone(d.Steps), api.Step{Sub: "x"}, api.Step{Org: 9})
	whole := slices.Clone(steps)
	for n := range len(steps) + 1 {
		c := api.Def{Name: "t", Steps: steps[:n]}
		Check(c)
		Show(c)
		Same(c, c)
	}
	if !slices.Equal(steps, whole) {
		t.Error("steps were changed", steps)
	}
}
