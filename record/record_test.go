package record

import (
	"encoding/binary"
	"encoding/hex"
	"fmt"
	"math"
	"math/rand"
	"reflect"
	"regexp"
	"slices"
	"strconv"
	"strings"
	"testing"
	"unsafe"

	"entente/api"
)

const full = int64(1000000000000000) // the greatest amount

var namePattern = regexp.MustCompile(`^[a-z][a-z0-9]{0,15}$`)

// moveWords has the chapter's words of the kinds of moves, from 1 on.
var moveWords = strings.Split(" begin refuse fail do ask got lost hold commit back undo jam again end kept force", " ")

// The kinds of moves that have a Step of a definition, and those that have a Why, by the chapter's words.
var (
	withStep = []int{api.MoveFail, api.MoveDo, api.MoveAsk, api.MoveGot, api.MoveLost, api.MoveUndo, api.MoveJam, api.MoveKept}
	withWhy  = []int{api.MoveRefuse, api.MoveBack}
)

// made is an id of a root, a number, and hops' steps and organisations in turn.
func made(root, n int, hops ...int) api.Id {
	id := api.Id{Root: root, N: n}
	for i := 0; i < len(hops); i += 2 {
		id.Hops = append(id.Hops, api.Hop{Step: hops[i], Org: hops[i+1]})
	}
	return id
}

func own(kind int, account string, amount int64, tries int) api.Step {
	return api.Step{Act: api.Act{Kind: kind, Account: account, Amount: amount}, Tries: tries}
}

func ask(org int, sub string, wait int) api.Step { return api.Step{Org: org, Sub: sub, Wait: wait} }

func saga(name string, steps ...api.Step) api.Def { return api.Def{Name: name, Steps: steps} }

// idTold tells whether an id may be, by the words of chapter 3.
func idTold(id api.Id) bool {
	path := []int{id.Root}
	for _, hop := range id.Hops {
		if hop.Step < 0 || hop.Step > 7 {
			return false
		}
		path = append(path, hop.Org)
	}
	slices.Sort(path)
	differ := len(slices.Compact(slices.Clone(path))) == len(path)
	return differ && path[0] >= 0 && path[len(path)-1] <= 15 && id.N >= 1 && id.N <= 999999 && len(id.Hops) <= 4
}

func idText(id api.Id) string {
	s := fmt.Sprintf("%d.%d", id.Root, id.N)
	for _, hop := range id.Hops {
		s += fmt.Sprintf("/%d@%d", hop.Step, hop.Org)
	}
	return s
}

// stepTold tells whether a step may be, by the words of chapter 9.
func stepTold(s api.Step) bool {
	if s.Sub == "" {
		a := s.Act
		return a.Kind >= 1 && a.Kind <= 4 && namePattern.MatchString(a.Account) && a.Amount >= 1 && a.Amount <= full &&
			s.Org == 0 && s.Wait == 0 && s.Tries >= 1 && s.Tries <= 5
	}
	return namePattern.MatchString(s.Sub) && s.Act == api.Act{} && s.Tries == 0 && s.Org >= 0 && s.Org <= 15 && s.Wait >= 1 && s.Wait <= 50
}

func defTold(d api.Def) bool {
	for _, s := range d.Steps {
		if !stepTold(s) {
			return false
		}
	}
	return namePattern.MatchString(d.Name) && len(d.Steps) >= 1 && len(d.Steps) <= 8
}

func noDef(d api.Def) bool { return d.Name == "" && len(d.Steps) == 0 }

// defText is the text of a definition that may be, by the words of chapter 9, and the empty text of an empty one.
func defText(d api.Def) string {
	if noDef(d) {
		return ""
	}
	s := "saga " + d.Name + " {\n"
	for _, x := range d.Steps {
		if x.Sub != "" {
			s += fmt.Sprintf("  ask %d %s wait %d;\n", x.Org, x.Sub, x.Wait)
			continue
		}
		s += fmt.Sprintf("  %s %s %d tries %d;\n", []string{"", "debit", "credit", "reserve", "release"}[x.Act.Kind], x.Act.Account, x.Act.Amount, x.Tries)
	}
	return s + "}\n"
}

// moveTold tells whether a move may be, by the chapter's words.
func moveTold(m api.Move) bool {
	if m.Kind < 1 || m.Kind > 16 || !idTold(m.Id) || m.Kind == api.MoveRefuse && len(m.Id.Hops) == 0 {
		return false
	}
	switch {
	case m.Kind == api.MoveBegin:
		return defTold(m.Def) && m.Why == 0 && m.Step == 0
	case slices.Contains(withWhy, m.Kind):
		return noDef(m.Def) && m.Why >= 1 && m.Why <= 9 && m.Step == 0
	case slices.Contains(withStep, m.Kind):
		return noDef(m.Def) && m.Why == 0 && m.Step >= 0 && m.Step <= 7
	case m.Kind == api.MoveForce:
		return noDef(m.Def) && m.Why == 0 && (m.Step == 0 || m.Step == 1)
	}
	return noDef(m.Def) && m.Why == 0 && m.Step == 0
}

// shownTold is the text of a move that may be, by the chapter's words.
func shownTold(m api.Move) string {
	s := moveWords[m.Kind] + " " + idText(m.Id)
	switch {
	case m.Kind == api.MoveBegin:
		return s + " " + m.Def.Name
	case slices.Contains(withWhy, m.Kind):
		return s + " " + strconv.Itoa(m.Why)
	case slices.Contains(withStep, m.Kind), m.Kind == api.MoveForce:
		return s + " " + strconv.Itoa(m.Step)
	}
	return s
}

// plain has a record with nil for each list that has no element, so that records can be held against each other.
func plain(r api.Record) api.Record {
	if len(r.Move.Id.Hops) == 0 {
		r.Move.Id.Hops = nil
	}
	if len(r.Move.Def.Steps) == 0 {
		r.Move.Def.Steps = nil
	}
	if len(r.Def.Steps) == 0 {
		r.Def.Steps = nil
	}
	return r
}

func same(a, b api.Record) bool { return reflect.DeepEqual(plain(a), plain(b)) }

// recordTold tells whether a record may be, by the chapter's words.
func recordTold(r api.Record) bool {
	var only api.Record
	fits := false
	switch r.Kind {
	case 1:
		only, fits = api.Record{Kind: 1, Move: r.Move}, moveTold(r.Move)
	case 2:
		only, fits = api.Record{Kind: 2, Name: r.Name, Amount: r.Amount}, namePattern.MatchString(r.Name) && r.Amount >= 0 && r.Amount <= full
	case 3:
		only, fits = api.Record{Kind: 3, Def: r.Def}, defTold(r.Def)
	case 4:
		only, fits = api.Record{Kind: 4}, true
	case 5:
		only, fits = api.Record{Kind: 5, Text: r.Text}, len(r.Text) <= 29000
	}
	return fits && same(r, only)
}

// laid lays numbers, amounts and texts, by the words of chapter 1.
func laid(parts ...any) string {
	var b []byte
	for _, part := range parts {
		switch x := part.(type) {
		case int:
			b = binary.AppendUvarint(b, uint64(x))
		case uint64:
			b = binary.AppendUvarint(b, x)
		case int64:
			b = binary.AppendVarint(b, x)
		case string:
			b = binary.AppendUvarint(b, uint64(len(x)))
			b = append(b, x...)
		}
	}
	return string(b)
}

// bytesTold is the bytes of a record that may be, by the chapter's words.
func bytesTold(r api.Record) string {
	switch r.Kind {
	case 1:
		return laid(1, r.Move.Kind, idText(r.Move.Id), r.Move.Step, r.Move.Why, defText(r.Move.Def))
	case 2:
		return laid(2, r.Name, r.Amount)
	case 3:
		return laid(3, defText(r.Def))
	case 5:
		return laid(5, r.Text)
	}
	return laid(r.Kind)
}

func ofMove(m api.Move) api.Record { return api.Record{Kind: api.RecMove, Move: m} }

// roots and children have ids that may be: without a hop, and with one to four, at the edges of their numbers.
func roots() []api.Id {
	return []api.Id{made(0, 7), made(0, 1), made(15, 999999), {Root: 9, N: 10, Hops: []api.Hop{}}}
}

func children() []api.Id {
	return []api.Id{
		made(0, 7, 2, 3), made(0, 1, 0, 15), made(15, 999999, 7, 0), made(0, 7, 2, 3, 0, 5), made(1, 1, 0, 2, 1, 3, 2, 4),
		made(15, 999999, 7, 14, 7, 13, 7, 12, 7, 11), made(4, 1, 0, 3, 0, 2, 0, 1, 0, 0),
	}
}

// strangers has ids that may not be.
func strangers() []api.Id {
	l := []api.Id{
		{}, {Hops: []api.Hop{}}, made(0, 0), made(0, -1), made(0, 1000000), made(-1, 7), made(16, 7),
		made(0, 7, -1, 3), made(0, 7, 8, 3), made(0, 7, 2, -1), made(0, 7, 2, 16), made(0, 7, 2, 0), made(0, 7, 2, 3, 0, 3),
		made(1, 1, 0, 2, 1, 3, 2, 4, 7, 5, 0, 6), made(1, 1, 0, 2, 1, 3, 2, 4, 7, 1), {Root: 0, N: 1, Hops: make([]api.Hop, 1000)},
	}
	for _, n := range []int{math.MinInt, math.MaxInt, 1 << 32} {
		l = append(l, made(n, 7, 2, 3), made(0, n, 2, 3), made(0, 7, n, 3), made(0, 7, 2, n))
	}
	return l
}

// hotel is a definition with a step of each sort; widest has the longest text of all.
func hotel() api.Def { return saga("hotel", own(1, "cash", 5, 1), ask(2, "taxi", 20)) }

func widest() api.Def {
	const name = "abcdefghijklmnop"
	return saga(name, slices.Repeat([]api.Step{own(3, name, full, 5)}, 8)...)
}

func goodDefs() []api.Def {
	return []api.Def{
		hotel(), widest(), saga("a", ask(0, "a", 1)), saga("b", ask(15, "abcdefghijklmnop", 50)), saga("c", own(2, "x", 1, 5), own(4, "x", full, 1)),
		saga("hotel", own(1, "cash", 5, 1)), saga("hotel", ask(2, "taxi", 20), own(1, "cash", 5, 1)),
	}
}

func emptyDefs() []api.Def { return []api.Def{{}, {Steps: []api.Step{}}} }

// badDefs has definitions that are neither empty nor such that may be.
func badDefs() []api.Def {
	return []api.Def{
		saga("hotel"), {Name: "hotel", Steps: []api.Step{}}, saga("", own(1, "cash", 5, 1)), saga("", ask(2, "taxi", 20)), saga("", api.Step{}),
		saga("Hotel", own(1, "cash", 5, 1)), saga("abcdefghijklmnopq", own(1, "cash", 5, 1)), saga("hotel", api.Step{}),
		saga("hotel", own(1, "cash", 5, 0)), saga("hotel", own(1, "cash", 5, 6)), saga("hotel", own(5, "cash", 5, 1)), saga("hotel", own(1, "cash", 0, 1)),
		saga("hotel", own(1, "cash", full+1, 1)), saga("hotel", own(1, "", 5, 1)), saga("hotel", ask(16, "taxi", 20)), saga("hotel", ask(-1, "taxi", 20)),
		saga("hotel", ask(2, "taxi", 0)), saga("hotel", ask(2, "taxi", 51)), saga("hotel", ask(2, "Taxi", 20)),
		saga("hotel", own(1, "cash", 5, 1), api.Step{}), saga("hotel", slices.Repeat([]api.Step{own(1, "cash", 5, 1)}, 9)...),
		saga(" "), saga("\x00"), saga(strings.Repeat("a", 3000), own(1, "cash", 5, 1)),
	}
}

func moveKinds() []int {
	l := []int{math.MinInt, -1 << 32, -1, 255, 256, 257, 1 << 32, 1<<32 + 1, math.MaxInt}
	for kind := range 19 {
		l = append(l, kind)
	}
	return l
}

func stepsOf() []int {
	return []int{math.MinInt, -1, 0, 1, 2, 3, 7, 8, 9, 256, 1 << 32, 1<<32 + 1, math.MaxInt}
}

func whysOf() []int {
	return []int{math.MinInt, -1, 0, 1, 2, 5, 8, 9, 10, 11, 256, 1 << 32, 1<<32 + 1, math.MaxInt}
}

// goodMoves has moves that may be: each kind of each id, with each Step, Why or definition that it can have.
func goodMoves() []api.Move {
	var l []api.Move
	for _, id := range append(roots(), children()...) {
		for kind := 1; kind <= 16; kind++ {
			for step := range 8 {
				for why := range 10 {
					for _, d := range append(goodDefs(), emptyDefs()...) {
						m := api.Move{Kind: kind, Id: id, Step: step, Why: why, Def: d}
						if moveTold(m) {
							l = append(l, m)
						}
					}
				}
			}
		}
	}
	return l
}

func names() []string {
	return []string{
		"", "a", "z", "cash", "a1", "abcdefghijklmnop", "z999999999999999",
		"abcdefghijklmnopq", "1a", "A", "casH", "cash ", " cash", "ca sh", "cash\n", "\x00", "é", "\xff", "ca_sh", strings.Repeat("a", 40000),
	}
}

func amounts() []int64 {
	return []int64{math.MinInt64, -full, -1, 0, 1, 63, 64, 12345, 1 << 32, full - 1, full, full + 1, math.MaxInt64}
}

func texts() []string {
	return []string{"", "\x00", "\x00x", "a", "cash", strings.Repeat("\x80", 127), strings.Repeat("i", 128), strings.Repeat("\xff", 29000), strings.Repeat("i", 29001), strings.Repeat("i", 60000)}
}

func recordKinds() []int {
	return []int{math.MinInt, -1, 0, 1, 2, 3, 4, 5, 6, 7, 255, 256, 257, 1 << 32, 1<<32 + 4, math.MaxInt}
}

// goodRecords has records that may be, of each kind.
func goodRecords() []api.Record {
	l := []api.Record{{Kind: 4}, {Kind: 4, Move: api.Move{Id: api.Id{Hops: []api.Hop{}}, Def: api.Def{Steps: []api.Step{}}}, Def: api.Def{Steps: []api.Step{}}}}
	for _, m := range goodMoves() {
		l = append(l, ofMove(m))
	}
	for _, name := range names() {
		for _, amount := range amounts() {
			l = append(l, api.Record{Kind: 2, Name: name, Amount: amount})
		}
	}
	for _, d := range goodDefs() {
		l = append(l, api.Record{Kind: 3, Def: d})
	}
	for _, text := range texts() {
		l = append(l, api.Record{Kind: 5, Text: text})
	}
	return slices.DeleteFunc(l, func(r api.Record) bool { return !recordTold(r) })
}

// The chapter's examples.
func TestExample(t *testing.T) {
	if s, e := Show(api.Move{Kind: api.MoveDo, Id: made(0, 7), Step: 2}); s != "do 0.7 2" || e != api.OK {
		t.Error(s, int(e))
	}
	if s, e := Encode(api.Record{Kind: api.RecEpoch}); s != "\x04" || e != api.OK {
		t.Errorf("%x, error %d", s, int(e))
	}
}

// P14.1: moves that may be, and such that may not, each for one reason.
func TestMove(t *testing.T) {
	id, child := made(0, 7), made(0, 7, 2, 3)
	for _, m := range []api.Move{
		{Kind: 1, Id: id, Def: hotel()}, {Kind: 1, Id: child, Def: hotel()}, {Kind: 2, Id: child, Why: 1}, {Kind: 2, Id: child, Why: 9},
		{Kind: 3, Id: id}, {Kind: 4, Id: id, Step: 7}, {Kind: 5, Id: id, Step: 7}, {Kind: 6, Id: id, Step: 7}, {Kind: 7, Id: id, Step: 7},
		{Kind: 8, Id: id}, {Kind: 9, Id: id}, {Kind: 10, Id: id, Why: 1}, {Kind: 10, Id: child, Why: 9}, {Kind: 11, Id: id, Step: 7}, {Kind: 12, Id: id, Step: 7},
		{Kind: 13, Id: id}, {Kind: 14, Id: id}, {Kind: 15, Id: id, Step: 7}, {Kind: 16, Id: id}, {Kind: 16, Id: id, Step: 1},
	} {
		if e := Move(m); e != api.OK {
			t.Errorf("Move(%+v): error %d", m, int(e))
		}
	}
	for _, m := range []api.Move{
		{}, {Kind: 0, Id: id}, {Kind: 17, Id: id}, {Kind: -1, Id: id}, {Kind: 1, Id: id}, {Kind: 1, Def: hotel()}, {Kind: 1, Id: id, Def: saga("hotel")},
		{Kind: 1, Id: id, Def: hotel(), Step: 1}, {Kind: 1, Id: id, Def: hotel(), Why: 1}, {Kind: 2, Id: id, Why: 1}, {Kind: 2, Id: child}, {Kind: 2, Id: child, Why: 10},
		{Kind: 2, Id: child, Why: 1, Step: 1}, {Kind: 2, Id: child, Why: 1, Def: hotel()}, {Kind: 3, Id: id, Step: -1}, {Kind: 3, Id: id, Step: 8},
		{Kind: 4, Id: id, Why: 1}, {Kind: 4, Id: id, Def: hotel()}, {Kind: 4, Id: id, Def: saga("hotel")}, {Kind: 4, Id: id, Def: saga("", api.Step{})},
		{Kind: 8, Id: id, Step: 1}, {Kind: 8, Id: id, Why: 1}, {Kind: 8, Id: id, Def: hotel()}, {Kind: 8, Id: made(0, 0)},
		{Kind: 10, Id: id}, {Kind: 10, Id: id, Why: 10}, {Kind: 10, Id: id, Why: -1}, {Kind: 16, Id: id, Step: 2}, {Kind: 16, Id: id, Step: -1}, {Kind: 16, Id: id, Step: 1, Why: 1},
	} {
		if e := Move(m); e != api.ErrRecord {
			t.Errorf("Move(%+v): error %d", m, int(e))
		}
	}
}

// checkMove holds a move against the chapter's words.
func checkMove(t *testing.T, m api.Move) {
	t.Helper()
	want, shown := api.ErrRecord, ""
	if moveTold(m) {
		want, shown = api.OK, shownTold(m)
	}
	if e := Move(m); e != want {
		t.Fatalf("Move(%.300v): error %d; want %d", m, int(e), int(want))
	}
	if s, e := Show(m); s != shown || e != want {
		t.Fatalf("Show(%.300v) = %q, error %d; want %q, %d", m, s, int(e), shown, int(want))
	}
	if e := Check(ofMove(m)); e != want {
		t.Fatalf("Check of the move %.300v: error %d; want %d", m, int(e), int(want))
	}
}

// P14.1, P14.3: every edge of each field with every edge of the others, held against the chapter's words.
func TestMovesAgainstTheWords(t *testing.T) {
	ids := slices.Concat(roots(), children(), strangers())
	defs := []api.Def{{}, {Steps: []api.Step{}}, hotel(), saga("hotel"), saga("", own(1, "cash", 5, 1)), saga("hotel", own(1, "cash", 5, 6))}
	for _, kind := range moveKinds() {
		for _, id := range ids {
			for _, step := range stepsOf() {
				for _, why := range whysOf() {
					for _, d := range defs {
						checkMove(t, api.Move{Kind: kind, Id: id, Step: step, Why: why, Def: d})
					}
				}
			}
		}
	}
	for _, kind := range moveKinds() {
		for _, d := range slices.Concat(goodDefs(), emptyDefs(), badDefs()) {
			checkMove(t, api.Move{Kind: kind, Id: made(0, 7, 2, 3), Def: d})
			checkMove(t, api.Move{Kind: kind, Id: made(0, 7, 2, 3), Def: d, Why: 3})
		}
	}
}

// checkRecord holds a record against the chapter's words.
func checkRecord(t *testing.T, r api.Record) {
	t.Helper()
	want, bytes := api.ErrRecord, ""
	if recordTold(r) {
		want, bytes = api.OK, bytesTold(r)
	}
	if e := Check(r); e != want {
		t.Fatalf("Check(%.300v): error %d; want %d", r, int(e), int(want))
	}
	if s, e := Encode(r); s != bytes || e != want {
		t.Fatalf("Encode(%.300v) = %.300q, error %d; want %.300q, %d", r, s, int(e), bytes, int(want))
	}
}

// P14.1, P14.2: every edge of each field with every edge of the others, held against the chapter's words.
func TestRecordsAgainstTheWords(t *testing.T) {
	id := made(0, 7, 2, 3)
	moves := []api.Move{
		{}, {Id: api.Id{Hops: []api.Hop{}}, Def: api.Def{Steps: []api.Step{}}}, {Kind: 1, Id: id, Def: hotel()}, {Kind: 8, Id: made(0, 7)}, {Kind: 4, Id: id, Step: 7}, {Kind: 4, Id: id, Step: 8},
		{Kind: 1}, {Kind: -1}, {Id: made(1, 0)}, {Id: made(0, 1)}, {Id: made(0, 0, 0, 0)}, {Step: 1}, {Why: 1}, {Def: saga("a")}, {Def: saga("", api.Step{})}, {Def: hotel()},
	}
	defs := []api.Def{{}, {Steps: []api.Step{}}, hotel(), saga("a"), saga("", api.Step{}), saga("", own(1, "cash", 5, 1)), saga("hotel", own(1, "cash", 5, 6))}
	for _, kind := range recordKinds() {
		for _, m := range moves {
			for _, name := range []string{"", "cash", "Cash"} {
				for _, amount := range []int64{0, 1, -1, full, full + 1, 1 << 32} {
					for _, d := range defs {
						for _, text := range []string{"", "\x00", "cash"} {
							checkRecord(t, api.Record{Kind: kind, Move: m, Name: name, Amount: amount, Def: d, Text: text})
						}
					}
				}
			}
		}
	}
}

// P14.1, P14.2: every name with every amount, every definition and every text alone.
func TestFieldsAgainstTheWords(t *testing.T) {
	for _, kind := range recordKinds() {
		for _, name := range names() {
			for _, amount := range amounts() {
				checkRecord(t, api.Record{Kind: kind, Name: name, Amount: amount})
			}
		}
		for _, d := range slices.Concat(goodDefs(), emptyDefs(), badDefs()) {
			checkRecord(t, api.Record{Kind: kind, Def: d})
			checkRecord(t, api.Record{Kind: kind, Move: api.Move{Kind: 1, Id: made(0, 7), Def: d}})
		}
		for n := range 40 {
			checkRecord(t, api.Record{Kind: kind, Text: strings.Repeat("t", 28980+n)})
		}
		for _, text := range texts() {
			checkRecord(t, api.Record{Kind: kind, Text: text})
		}
	}
}

// P14.2: bytes written out by hand, a record of each kind and a move of each sort.
func TestBytes(t *testing.T) {
	text := hex.EncodeToString([]byte("saga t {\n  ask 1 u wait 20;\n}\n"))
	for _, c := range []struct {
		r    api.Record
		want string
	}{
		{ofMove(api.Move{Kind: 4, Id: made(0, 7), Step: 2}), "01 04 03 302e37 02 00 00"},
		{ofMove(api.Move{Kind: 8, Id: made(0, 7, 2, 3)}), "01 08 07 302e372f324033 00 00 00"},
		{ofMove(api.Move{Kind: 2, Id: made(0, 7, 2, 3), Why: 8}), "01 02 07 302e372f324033 00 08 00"},
		{ofMove(api.Move{Kind: 16, Id: made(0, 7), Step: 1}), "01 10 03 302e37 01 00 00"},
		{ofMove(api.Move{Kind: 1, Id: made(0, 7), Def: saga("t", ask(1, "u", 20))}), "01 01 03 302e37 00 00 1e " + text},
		{api.Record{Kind: 2, Name: "cash", Amount: 12}, "02 04 63617368 18"},
		{api.Record{Kind: 2, Name: "a", Amount: 0}, "02 01 61 00"},
		{api.Record{Kind: 2, Name: "a", Amount: 64}, "02 01 61 8001"},
		{api.Record{Kind: 2, Name: "a", Amount: full}, "02 01 61 8080b4ccd4dfc603"},
		{api.Record{Kind: 3, Def: saga("t", ask(1, "u", 20))}, "03 1e " + text},
		{api.Record{Kind: 4}, "04"},
		{api.Record{Kind: 5}, "05 00"},
		{api.Record{Kind: 5, Text: "\x00x"}, "05 02 0078"},
	} {
		want := hexed(t, c.want)
		if s, e := Encode(c.r); s != want || e != api.OK {
			t.Errorf("Encode(%+v) = %x, error %d; want %x", c.r, s, int(e), want)
		}
		if r, e := Decode(want); !same(r, c.r) || e != api.OK {
			t.Errorf("Decode(%x) = %+v, error %d", want, r, int(e))
		}
	}
}

func hexed(t *testing.T, s string) string {
	t.Helper()
	b, err := hex.DecodeString(strings.ReplaceAll(s, " ", ""))
	if err != nil {
		t.Fatal(err)
	}
	return string(b)
}

// P14.2, P14.4: records that may be, their bytes, and back.
func TestGoodRecords(t *testing.T) {
	for _, r := range goodRecords() {
		s, e := Encode(r)
		if s != bytesTold(r) || e != api.OK {
			t.Fatalf("Encode(%.300v) = %.300q, error %d; want %.300q", r, s, int(e), bytesTold(r))
		}
		d, e := Decode(s)
		if !same(d, r) || e != api.OK {
			t.Fatalf("Decode of Encode(%.300v) = %.300v, error %d", r, d, int(e))
		}
		if again, e := Encode(d); again != s || e != api.OK {
			t.Fatalf("Encode of Decode(%.300q) = %.300q, error %d", s, again, int(e))
		}
	}
}

// P14.5: records that are not the same have unlike bytes; the same ones, with no list and with an empty one, the same bytes.
func TestApart(t *testing.T) {
	told := map[string]api.Record{}
	for _, r := range goodRecords() {
		s, _ := Encode(r)
		if other, ok := told[s]; ok && !same(r, other) {
			t.Fatalf("%.300v and %.300v have the bytes %.300q", r, other, s)
		}
		told[s] = r
	}
	unlike := map[string]int{}
	for _, r := range goodRecords() {
		unlike[fmt.Sprintf("%v", plain(r))]++
	}
	if len(unlike) != len(told) {
		t.Errorf("%d records, %d bytes", len(unlike), len(told))
	}
}

// P14.5: two records that differ in one field alone have unlike bytes.
func TestApartByOneField(t *testing.T) {
	id := made(0, 7, 2, 3)
	pairs := [][2]api.Record{
		{ofMove(api.Move{Kind: 3, Id: id}), ofMove(api.Move{Kind: 4, Id: id})}, {ofMove(api.Move{Kind: 8, Id: id}), ofMove(api.Move{Kind: 8, Id: made(0, 7)})},
		{ofMove(api.Move{Kind: 4, Id: id, Step: 1}), ofMove(api.Move{Kind: 4, Id: id, Step: 2})}, {ofMove(api.Move{Kind: 10, Id: id, Why: 1}), ofMove(api.Move{Kind: 10, Id: id, Why: 2})},
		{ofMove(api.Move{Kind: 1, Id: id, Def: saga("t", ask(1, "u", 20))}), ofMove(api.Move{Kind: 1, Id: id, Def: saga("t", ask(1, "u", 21))})},
		{{Kind: 2, Name: "a"}, {Kind: 2, Name: "b"}}, {{Kind: 2, Name: "a"}, {Kind: 2, Name: "a", Amount: 1}},
		{{Kind: 3, Def: saga("t", ask(1, "u", 20))}, {Kind: 3, Def: saga("u", ask(1, "u", 20))}}, {{Kind: 5}, {Kind: 5, Text: "\x00"}}, {{Kind: 4}, {Kind: 5}},
	}
	for _, p := range pairs {
		a, e := Encode(p[0])
		b, f := Encode(p[1])
		if a == b || e != api.OK || f != api.OK {
			t.Errorf("%v and %v: %q and %q, errors %d, %d", p[0], p[1], a, b, int(e), int(f))
		}
	}
}

func refuses(t *testing.T, s string) {
	t.Helper()
	if r, e := Decode(s); e != api.ErrRecord || !reflect.DeepEqual(r, api.Record{}) {
		t.Fatalf("Decode(%.300q) = %.300v, error %d", s, r, int(e))
	}
}

// samples has a record of each kind, and a move of each sort.
func samples() []api.Record {
	return []api.Record{
		ofMove(api.Move{Kind: 1, Id: made(0, 7, 2, 3), Def: hotel()}), ofMove(api.Move{Kind: 2, Id: made(0, 7, 2, 3), Why: 8}), ofMove(api.Move{Kind: 4, Id: made(0, 7), Step: 2}),
		ofMove(api.Move{Kind: 8, Id: made(15, 999999, 7, 14, 7, 13, 7, 12, 7, 11)}), ofMove(api.Move{Kind: 16, Id: made(0, 7), Step: 1}),
		{Kind: 2, Name: "cash", Amount: 12}, {Kind: 2, Name: "a", Amount: full}, {Kind: 3, Def: hotel()}, {Kind: 3, Def: widest()}, {Kind: 4}, {Kind: 5}, {Kind: 5, Text: strings.Repeat("i", 300)},
	}
}

// P14.2: the empty text, bytes cut short at each place, bytes behind the last one.
func TestDecodeOfCutBytes(t *testing.T) {
	refuses(t, "")
	for _, r := range samples() {
		s := bytesTold(r)
		for n := range len(s) {
			refuses(t, s[:n])
		}
		for b := range 256 {
			refuses(t, s+string([]byte{byte(b)}))
		}
		refuses(t, s+s)
		refuses(t, "\x00"+s)
	}
	long := bytesTold(api.Record{Kind: 5, Text: strings.Repeat("\x05", 29000)})
	for _, n := range []int{1, 2, 3, 4, 100, 28999, len(long) - 1} {
		refuses(t, long[:n])
	}
	refuses(t, long+"\x00")
}

// P14.2: numbers laid with a group too many, in each place where one stands.
func TestDecodeOfNumbersLaidOtherwise(t *testing.T) {
	text := hex.EncodeToString([]byte(defText(saga("t", ask(1, "u", 20)))))
	for _, s := range []string{
		"8400", "848000", "84808080808080808000", "8100 04 03 302e37 02 00 00", "01 8400 03 302e37 02 00 00", "01 04 8300 302e37 02 00 00",
		"01 04 03 302e37 8200 00 00", "01 04 03 302e37 02 8000 00", "01 04 03 302e37 02 00 8000", "01 0a 03 302e37 00 8300 00",
		"01 01 03 302e37 00 00 9e00 " + text, "8200 04 63617368 18", "02 8400 63617368 18", "02 04 63617368 9800", "02 04 63617368 8000",
		"8300 1e " + text, "03 9e00 " + text, "8500 00", "05 8000", "05 8200 0078",
	} {
		refuses(t, hexed(t, s))
	}
}

// P14.2: well laid, but with numbers too great for their field; some would wrap round to one that may be.
func TestDecodeOfGreatNumbers(t *testing.T) {
	for _, high := range []uint64{1 << 8, 1 << 31, 1 << 32, 1 << 63, math.MaxUint64 &^ 31} {
		refuses(t, laid(high+4))
		refuses(t, laid(high+1, 4, "0.7", 2, 0, ""))
		refuses(t, laid(1, high+4, "0.7", 2, 0, ""))
		refuses(t, laid(1, 4, "0.7", high+2, 0, ""))
		refuses(t, laid(1, 4, "0.7", high, 0, ""))
		refuses(t, laid(1, 8, "0.7", high, 0, ""))
		refuses(t, laid(1, 4, "0.7", 2, high, ""))
		refuses(t, laid(1, 10, "0.7", 0, high+3, ""))
		refuses(t, laid(1, 16, "0.7", high+1, 0, ""))
		refuses(t, laid(high+2, "cash", int64(12)))
		refuses(t, laid(high+5, "x"))
		refuses(t, string(binary.AppendUvarint([]byte{5}, high))+"x")
	}
	for _, n := range []int64{-1, -12, full + 1, math.MaxInt64, math.MinInt64} {
		refuses(t, laid(2, "cash", n))
	}
}

// P14.2: texts of ids and of definitions that read as one, but that Show would write otherwise, and such that read as none.
func TestDecodeOfOtherTexts(t *testing.T) {
	for _, id := range []string{"", "0", "0.", ".7", "0.07", "00.7", "+0.7", "0.+7", " 0.7", "0.7 ", "0.7/", "0.7\n", "0,7", "0.7/2@03", "0.0", "16.7", "0.1000000", "-0.7", "0.7/2@0", "0.7/8@3", strings.Repeat("/", 20000)} {
		refuses(t, laid(1, 4, id, 2, 0, ""))
		refuses(t, laid(1, 1, id, 0, 0, defText(hotel())))
	}
	good := defText(saga("t", own(1, "cash", 5, 1), ask(1, "u", 20)))
	for _, text := range []string{
		"saga t { debit cash 5 tries 1; ask 1 u wait 20; }", "saga t {\n  debit cash 5;\n  ask 1 u wait 20;\n}\n", "saga t {\n  debit cash 5 tries 1;\n  ask 1 u;\n}\n",
		good[:len(good)-1], good + "\n", " " + good, good + " ", good + "# a remark", "# a remark\n" + good, strings.ReplaceAll(good, "  ", "\t"), strings.ReplaceAll(good, "  ", " "),
		strings.ReplaceAll(good, ";", " ;"), strings.ReplaceAll(good, "\n", "\r\n"), strings.ReplaceAll(good, "{\n", "{"), good + good, good + "saga",
		"", "saga", "saga t {\n}\n", "saga t {\n  debit cash 0 tries 1;\n}\n", "saga t {\n  debit cash 5 tries 6;\n}\n", "saga t {\n  ask 16 u wait 20;\n}\n", "x", "\x00", strings.Repeat(" ", 3000) + good,
	} {
		refuses(t, laid(3, text))
		refuses(t, laid(1, 1, "0.7", 0, 0, text))
		if text != "" {
			refuses(t, laid(1, 4, "0.7", 2, 0, text))
			refuses(t, laid(1, 8, "0.7", 0, 0, text))
		}
	}
	for _, s := range []string{laid(3, good), laid(1, 1, "0.7", 0, 0, good)} {
		if _, e := Decode(s); e != api.OK {
			t.Errorf("Decode(%q): error %d", s, int(e))
		}
	}
}

// P14.2: well laid, but no record that may be.
func TestDecodeOfRecordsThatMayNotBe(t *testing.T) {
	good := defText(hotel())
	for _, s := range []string{
		laid(0), laid(6), laid(0, ""), laid(6, ""), laid(7), laid(1), laid(2), laid(3), laid(5), laid(4, ""), laid(4, 4), laid(1, 0, "", 0, 0, ""), laid(1, 0, "0.7", 0, 0, ""), laid(1, 17, "0.7", 0, 0, ""),
		laid(1, 2, "0.7", 0, 1, ""), laid(1, 2, "0.7/2@3", 0, 0, ""), laid(1, 2, "0.7/2@3", 0, 10, ""), laid(1, 2, "0.7/2@3", 1, 1, ""), laid(1, 2, "0.7/2@3", 0, 1, good),
		laid(1, 1, "0.7", 0, 0, ""), laid(1, 1, "0.7", 1, 0, good), laid(1, 1, "0.7", 0, 1, good), laid(1, 4, "0.7", 8, 0, ""), laid(1, 4, "0.7", 2, 1, ""), laid(1, 4, "0.7", 2, 0, good),
		laid(1, 8, "0.7", 1, 0, ""), laid(1, 8, "0.7", 0, 1, ""), laid(1, 8, "0.7", 0, 0, good), laid(1, 10, "0.7", 0, 0, ""), laid(1, 10, "0.7", 0, 10, ""), laid(1, 10, "0.7", 1, 1, ""),
		laid(1, 16, "0.7", 2, 0, ""), laid(2, "", int64(0)), laid(2, "Cash", int64(12)), laid(2, "abcdefghijklmnopq", int64(12)), laid(2, "cash", full+1), laid(3, ""), laid(5, strings.Repeat("i", 29001)),
	} {
		refuses(t, s)
	}
}

// recordOf reads bytes without looking at their form.
func recordOf(body string) (r api.Record) {
	number := func() int {
		n, size := binary.Uvarint([]byte(body))
		body = body[max(size, 0):]
		return int(n)
	}
	text := func() string {
		size := min(max(number(), 0), len(body))
		s := body[:size]
		body = body[size:]
		return s
	}
	switch r.Kind = number(); r.Kind {
	case 1:
		r.Move = api.Move{Kind: number(), Id: idOf(text()), Step: number(), Why: number(), Def: defOf(text())}
	case 2:
		r.Name = text()
		r.Amount, _ = binary.Varint([]byte(body))
	case 3:
		r.Def = defOf(text())
	case 5:
		r.Text = text()
	}
	return r
}

func idOf(s string) (id api.Id) {
	first, rest, more := strings.Cut(s, "/")
	fmt.Sscanf(first, "%d.%d", &id.Root, &id.N)
	for more {
		var hop api.Hop
		first, rest, more = strings.Cut(rest, "/")
		fmt.Sscanf(first, "%d@%d", &hop.Step, &hop.Org)
		id.Hops = append(id.Hops, hop)
	}
	return id
}

func defOf(s string) (d api.Def) {
	for _, line := range strings.Split(s, "\n") {
		words := strings.Fields(strings.ReplaceAll(line, ";", " "))
		numberOf := func(i int) int {
			n, _ := strconv.Atoi(words[i])
			return n
		}
		if len(words) == 3 && words[0] == "saga" {
			d.Name = words[1]
		}
		if len(words) != 5 {
			continue
		}
		if words[0] == "ask" {
			d.Steps = append(d.Steps, ask(numberOf(1), words[2], numberOf(4)))
			continue
		}
		kind := 1 + slices.Index([]string{"debit", "credit", "reserve", "release"}, words[0])
		d.Steps = append(d.Steps, own(kind, words[1], int64(numberOf(2)), numberOf(4)))
	}
	return d
}

// checkDecode holds Decode of any bytes against the chapter's words, and tells whether they are a record's.
func checkDecode(t *testing.T, s string) bool {
	t.Helper()
	r := recordOf(s)
	if !recordTold(r) || bytesTold(r) != s {
		refuses(t, s)
		return false
	}
	d, e := Decode(s)
	if !same(r, d) || e != api.OK {
		t.Fatalf("Decode(%.300q) = %.300v, error %d; want %.300v", s, d, int(e), r)
	}
	if again, e := Encode(d); again != s || e != api.OK {
		t.Fatalf("Encode of Decode(%.300q) = %.300q, error %d", s, again, int(e))
	}
	return true
}

// P14.2, P14.4: bytes that are changed, lost and new: a record is told of those alone that are its bytes.
func TestDecodeAgainstTheWords(t *testing.T) {
	r := rand.New(rand.NewSource(14))
	all := slices.DeleteFunc(goodRecords(), func(r api.Record) bool { return len(r.Text) > 200 })
	all = append(all, slices.Repeat(samples(), 100)...)
	good := 0
	for range 80000 {
		body := []byte(bytesTold(all[r.Intn(len(all))]))
		for range r.Intn(3) {
			at := r.Intn(len(body) + 1)
			switch r.Intn(4) {
			case 0:
				body = slices.Insert(body, at, byte(r.Intn(256)>>r.Intn(8)))
			case 1:
				body = slices.Delete(body, at, min(at+1+r.Intn(2), len(body)))
			default:
				if at < len(body) {
					body[at] = byte(int(body[at]) + r.Intn(5) - 2)
				}
			}
		}
		if checkDecode(t, string(body)) {
			good++
		}
	}
	if good < 15000 || good > 65000 {
		t.Error("hardly any bytes of one of both sorts", good)
	}
}

// P14.2: all bytes of up to two, and longer ones of all sorts.
func TestDecodeOfAnyBytes(t *testing.T) {
	for a := range 256 {
		checkDecode(t, string([]byte{byte(a)}))
		for b := range 256 {
			checkDecode(t, string([]byte{byte(a), byte(b)}))
		}
	}
	r := rand.New(rand.NewSource(15))
	for range 60000 {
		b := make([]byte, r.Intn(40))
		for i := range b {
			b[i] = byte(r.Intn(256) >> r.Intn(8))
		}
		if len(b) > 0 {
			b[0] = byte(r.Intn(7))
		}
		checkDecode(t, string(b))
	}
}

// P14.3: the word of each kind, and what stands behind.
func TestShow(t *testing.T) {
	id := made(0, 7, 2, 3, 0, 5)
	for want, m := range map[string]api.Move{
		"begin 0.7/2@3/0@5 hotel": {Kind: 1, Def: hotel()}, "refuse 0.7/2@3/0@5 1": {Kind: 2, Why: 1}, "refuse 0.7/2@3/0@5 9": {Kind: 2, Why: 9},
		"fail 0.7/2@3/0@5 0": {Kind: 3}, "do 0.7/2@3/0@5 7": {Kind: 4, Step: 7}, "ask 0.7/2@3/0@5 1": {Kind: 5, Step: 1}, "got 0.7/2@3/0@5 2": {Kind: 6, Step: 2},
		"lost 0.7/2@3/0@5 3": {Kind: 7, Step: 3}, "hold 0.7/2@3/0@5": {Kind: 8}, "commit 0.7/2@3/0@5": {Kind: 9}, "back 0.7/2@3/0@5 5": {Kind: 10, Why: 5},
		"undo 0.7/2@3/0@5 4": {Kind: 11, Step: 4}, "jam 0.7/2@3/0@5 5": {Kind: 12, Step: 5}, "again 0.7/2@3/0@5": {Kind: 13}, "end 0.7/2@3/0@5": {Kind: 14},
		"kept 0.7/2@3/0@5 6": {Kind: 15, Step: 6}, "force 0.7/2@3/0@5 0": {Kind: 16}, "force 0.7/2@3/0@5 1": {Kind: 16, Step: 1},
	} {
		m.Id = id
		if s, e := Show(m); s != want || e != api.OK {
			t.Errorf("Show(%v) = %q, error %d; want %q", m, s, int(e), want)
		}
	}
	for _, m := range []api.Move{{}, {Kind: 0, Id: id}, {Kind: 17, Id: id}, {Kind: 1, Id: id}, {Kind: 4, Id: id, Step: 8}, {Kind: 8, Id: id, Why: 1}, {Kind: 2, Id: made(0, 7), Why: 1}} {
		if s, e := Show(m); s != "" || e != api.ErrRecord {
			t.Errorf("Show(%v) = %q, error %d", m, s, int(e))
		}
	}
}

// apart tells that two texts have no byte of memory in common.
func apart(a, b string) bool {
	if a == "" || b == "" {
		return true
	}
	x, y := uintptr(unsafe.Pointer(unsafe.StringData(a))), uintptr(unsafe.Pointer(unsafe.StringData(b)))
	return x+uintptr(len(a)) <= y || y+uintptr(len(b)) <= x
}

// textsOf has all texts of a record.
func textsOf(r api.Record) []string {
	l := []string{r.Name, r.Text}
	for _, d := range []api.Def{r.Move.Def, r.Def} {
		l = append(l, d.Name)
		for _, s := range d.Steps {
			l = append(l, s.Act.Account, s.Sub)
		}
	}
	return l
}

// spoil overwrites a record's lists, with their spare room.
func spoil(r api.Record) {
	hops, steps, more := r.Move.Id.Hops, r.Move.Def.Steps, r.Def.Steps
	for i := range hops[:cap(hops)] {
		hops[:cap(hops)][i] = api.Hop{Step: 6, Org: 6}
	}
	clear(steps[:cap(steps)])
	clear(more[:cap(more)])
}

// Rule 4: a record that is told shares no memory with the bytes, nor with the one that was told ahead; bytes and texts share none with a record.
func TestNewMemory(t *testing.T) {
	for _, r := range samples() {
		s := strings.Clone(bytesTold(r))
		a, _ := Decode(s)
		b, _ := Decode(s)
		for i, text := range textsOf(a) {
			if !apart(text, s) || !apart(text, textsOf(b)[i]) {
				t.Errorf("%.99q stands in memory that is not new", text)
			}
		}
		spoil(a)
		if c, e := Decode(s); !same(b, r) || !same(c, r) || e != api.OK {
			t.Errorf("what was told is changed: %.300v, %.300v", b, c)
		}
		laidBytes, _ := Encode(b)
		shown, _ := Show(b.Move)
		for _, text := range textsOf(b) {
			if !apart(laidBytes, text) || !apart(shown, text) {
				t.Errorf("what is told stands in the memory of %.99q", text)
			}
		}
	}
}

// Rule 4, rule 5: what is handed in stays as it is, its spare room too; the same is answered again.
func TestArgumentsStay(t *testing.T) {
	hops := []api.Hop{{Step: 2, Org: 3}, {Step: 0, Org: 5}, {Step: 9, Org: 9}, {Step: 9, Org: 9}}
	steps := []api.Step{own(1, "cash", 5, 1), ask(2, "taxi", 20), {Sub: "x"}, {Org: 9}}
	wasHops, wasSteps := slices.Clone(hops), slices.Clone(steps)
	d := api.Def{Name: "hotel", Steps: steps[:2]}
	for _, m := range []api.Move{{Kind: 1, Def: d}, {Kind: 2, Why: 3}, {Kind: 4, Step: 3}, {Kind: 17}, {Kind: 4, Def: d}} {
		m.Id = api.Id{Root: 0, N: 7, Hops: hops[:2]}
		for _, r := range []api.Record{ofMove(m), {Kind: 3, Def: d}, {Kind: 4, Def: d}, {Kind: 5, Move: m}, {Kind: 6, Move: m, Def: d}, {Kind: 2, Name: "cash", Amount: 3}} {
			first := ""
			for i := range 3 {
				shown, e := Show(m)
				s, f := Encode(r)
				g, h := Decode(s)
				told := fmt.Sprint(shown, s, g, int(e), int(f), int(h), int(Move(m)), int(Check(r)))
				if i == 0 {
					first = told
				}
				if told != first {
					t.Errorf("%q, and then %q", first, told)
				}
			}
		}
	}
	if !slices.Equal(hops, wasHops) || !slices.Equal(steps, wasSteps) {
		t.Error("lists are changed", hops, steps)
	}
}
