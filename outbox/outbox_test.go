package outbox

import (
	"fmt"
	"math"
	"math/rand"
	"reflect"
	"regexp"
	"slices"
	"strings"
	"testing"
	"unsafe"

	"entente/api"
)

// The chapter's numbers, written out.
const (
	billion = 1000000000
	dueEnd  = 1000000016
	sentEnd = 1000000
	room    = 12
)

var namePattern = regexp.MustCompile(`^[a-z][a-z0-9]{0,15}$`)

// made is an id of a root, a number, and hops' steps and organisations in turn.
func made(root, n int, hops ...int) api.Id {
	id := api.Id{Root: root, N: n}
	for i := 0; i < len(hops); i += 2 {
		id.Hops = append(id.Hops, api.Hop{Step: hops[i], Org: hops[i+1]})
	}
	return id
}

func offer(id api.Id, def string) api.Note { return api.Note{Kind: 1, Id: id, Def: def} }

func gone(id api.Id, why int) api.Note { return api.Note{Kind: 6, Id: id, Why: why} }

// nth is a note that may be, another one for each number from 0 on: all kinds, and ids of one to four hops.
func nth(i int) api.Note {
	n := api.Note{Kind: i%7 + 1, Id: made(0, i/7+1, 2, 3, 0, 5, 7, 15, 1, 1)}
	n.Id.Hops = n.Id.Hops[:i%4+1]
	switch n.Kind {
	case 1:
		n.Def = "hotel"
	case 6:
		n.Why = i%9 + 1
	}
	return n
}

// idTold tells whether an id may be, by the words of chapter 3.
func idTold(id api.Id) bool {
	if id.N < 1 || id.N > 999999 || len(id.Hops) > 4 {
		return false
	}
	path := []int{id.Root}
	for _, hop := range id.Hops {
		if hop.Step < 0 || hop.Step > 7 {
			return false
		}
		path = append(path, hop.Org)
	}
	for i, org := range path {
		if org < 0 || org > 15 || slices.Index(path, org) != i {
			return false
		}
	}
	return true
}

// noteTold tells whether a note may be, by the words of chapter 13.
func noteTold(n api.Note) bool {
	if !idTold(n.Id) || len(n.Id.Hops) == 0 {
		return false
	}
	switch n.Kind {
	case 1:
		return namePattern.MatchString(n.Def) && n.Why == 0
	case 6:
		return n.Def == "" && n.Why >= 1 && n.Why <= 9
	case 2, 3, 4, 5, 7:
		return n.Def == "" && n.Why == 0
	}
	return false
}

func sameNotes(a, b api.Note) bool {
	return a.Kind == b.Kind && a.Id.Root == b.Id.Root && a.Id.N == b.Id.N && slices.Equal(a.Id.Hops, b.Id.Hops) && a.Def == b.Def && a.Why == b.Why
}

func sameItems(a, b []api.Item) bool {
	return slices.EqualFunc(a, b, func(x, y api.Item) bool {
		return x.Seq == y.Seq && x.Due == y.Due && x.Sent == y.Sent && sameNotes(x.Note, y.Note)
	})
}

func hasTold(l []api.Item, n api.Note) bool {
	return slices.ContainsFunc(l, func(x api.Item) bool { return sameNotes(x.Note, n) })
}

// outboxTold tells whether items are an outbox, by the chapter's words.
func outboxTold(l []api.Item) bool {
	if len(l) > room {
		return false
	}
	for i, x := range l {
		if x.Seq < 1 || x.Seq > billion || x.Due < 0 || x.Due > dueEnd || x.Sent < 0 || x.Sent > sentEnd || !noteTold(x.Note) {
			return false
		}
		for _, y := range l[i+1:] {
			if y.Seq <= x.Seq || sameNotes(x.Note, y.Note) {
				return false
			}
		}
	}
	return true
}

func timeTold(now int) bool { return now >= 0 && now <= billion }

// pushTold is what Push answers, by the chapter's words.
func pushTold(l []api.Item, from, now int, notes []api.Note) ([]api.Item, api.Errno) {
	if !outboxTold(l) || from < 1 || from > billion+1 || !timeTold(now) {
		return nil, 2
	}
	box := slices.Clone(l)
	for _, n := range notes {
		if !noteTold(n) {
			return nil, 130
		}
		if hasTold(box, n) {
			continue
		}
		if len(box) == room {
			return nil, 190
		}
		next := from
		if len(box) > 0 && next <= box[len(box)-1].Seq {
			next = box[len(box)-1].Seq + 1
		}
		if next > billion {
			return nil, 180
		}
		box = append(box, api.Item{Seq: next, Due: now, Note: n})
	}
	return box, 0
}

// answeredTold is what Answered answers, by the chapter's words.
func answeredTold(l []api.Item, low int) []api.Item {
	if !outboxTold(l) {
		return nil
	}
	return slices.DeleteFunc(slices.Clone(l), func(x api.Item) bool { return x.Seq <= low })
}

// anewTold is what Anew answers, by the chapter's words.
func anewTold(l []api.Item, now int) []api.Item {
	if !outboxTold(l) || !timeTold(now) {
		return nil
	}
	var anew []api.Item
	for i, x := range l {
		anew = append(anew, api.Item{Seq: i + 1, Due: now, Note: x.Note})
	}
	return anew
}

// delayTold is how long a note is waited for that was sent so often, by the words of chapter 11.
func delayTold(sent int) int { return []int{1, 2, 4, 8}[min(sent, 3)] }

// dueTold is what Due answers, by the chapter's words.
func dueTold(l []api.Item, now int) ([]api.Item, []api.Item) {
	if !outboxTold(l) || !timeTold(now) {
		return nil, nil
	}
	var all, due []api.Item
	for _, x := range l {
		if x.Due > now {
			all = append(all, x)
			continue
		}
		if x.Sent < sentEnd {
			x.Sent++
		}
		x.Due = now + delayTold(x.Sent)
		all, due = append(all, x), append(due, x)
	}
	return all, due
}

// shown writes items so that they can be read where a test fails.
func shown(l []api.Item) string {
	s := ""
	for _, x := range l {
		s += fmt.Sprintf(" %d due %d sent %d %v;", x.Seq, x.Due, x.Sent, x.Note)
	}
	return fmt.Sprintf("%d items:%.600s", len(l), s)
}

// holdMay holds May against the chapter's words.
func holdMay(t *testing.T, l []api.Item) {
	t.Helper()
	want := api.Errno(2)
	if outboxTold(l) {
		want = 0
	}
	if e := May(l); e != want {
		t.Fatalf("May of %s: error %d, want %d", shown(l), int(e), int(want))
	}
}

func holdHas(t *testing.T, l []api.Item, n api.Note) {
	t.Helper()
	if got, want := Has(l, n), outboxTold(l) && hasTold(l, n); got != want {
		t.Fatalf("Has of %s of %v: %v, want %v", shown(l), n, got, want)
	}
}

// holdPush holds Push against the chapter's words, and sees that an outbox comes of it.
func holdPush(t *testing.T, l []api.Item, from, now int, notes ...api.Note) []api.Item {
	t.Helper()
	want, wantErr := pushTold(l, from, now, notes)
	got, e := Push(l, from, now, notes...)
	if !sameItems(got, want) || e != wantErr {
		t.Fatalf("Push of %s from %d at %d of %.400v:\n%s, error %d, want\n%s, error %d", shown(l), from, now, notes, shown(got), int(e), shown(want), int(wantErr))
	}
	if May(got) != api.OK {
		t.Fatalf("Push of %s from %d at %d of %v makes no outbox: %s", shown(l), from, now, notes, shown(got))
	}
	return got
}

func holdAnswered(t *testing.T, l []api.Item, low int) []api.Item {
	t.Helper()
	got, want := Answered(l, low), answeredTold(l, low)
	if !sameItems(got, want) || May(got) != api.OK {
		t.Fatalf("Answered of %s up to %d:\n%s, want\n%s", shown(l), low, shown(got), shown(want))
	}
	return got
}

func holdAnew(t *testing.T, l []api.Item, now int) []api.Item {
	t.Helper()
	got, want := Anew(l, now), anewTold(l, now)
	if !sameItems(got, want) || May(got) != api.OK {
		t.Fatalf("Anew of %s at %d:\n%s, want\n%s", shown(l), now, shown(got), shown(want))
	}
	return got
}

func holdDue(t *testing.T, l []api.Item, now int) ([]api.Item, []api.Item) {
	t.Helper()
	all, due := Due(l, now)
	wantAll, wantDue := dueTold(l, now)
	if !sameItems(all, wantAll) || !sameItems(due, wantDue) || May(all) != api.OK {
		t.Fatalf("Due of %s at %d:\n%s, and %s, want\n%s, and %s", shown(l), now, shown(all), shown(due), shown(wantAll), shown(wantDue))
	}
	return all, due
}

// around are the numbers next to others.
func around(l ...int) []int {
	var all []int
	for _, n := range l {
		all = append(all, n-1, n, n+1)
	}
	return all
}

// numbers are those that may be asked of any outbox: edges, and the numbers next to its own.
func numbers(l []api.Item) []int {
	all := append(around(0, billion), math.MinInt, math.MaxInt, billion+2, dueEnd, dueEnd+1)
	for _, x := range l {
		if x.Seq > -billion && x.Seq < 2*billion && x.Due > -billion && x.Due < 2*billion {
			all = append(all, around(x.Seq, x.Due)...)
		}
	}
	return all
}

// holdCalls holds every call against the chapter's words, of these items and of each number that matters to them.
func holdCalls(t *testing.T, l []api.Item) {
	t.Helper()
	holdMay(t, l)
	notes := []api.Note{{}, nth(0), nth(50), {Kind: 8, Id: made(0, 1, 0, 1)}}
	for _, x := range l {
		notes = append(notes, x.Note)
	}
	for _, n := range notes {
		holdHas(t, l, n)
	}
	for _, n := range numbers(l) {
		holdAnswered(t, l, n)
		holdAnew(t, l, n)
		holdDue(t, l, n)
		holdPush(t, l, n, 5)
		holdPush(t, l, 1, n)
		holdPush(t, l, n, 5, nth(60))
		holdPush(t, l, 1, n, nth(60), nth(61))
		holdPush(t, l, n, n, nth(60))
	}
}

// boxOf is an outbox of so many items, whose numbers, times and counts differ.
func boxOf(count int) []api.Item {
	var l []api.Item
	for i := range count {
		l = append(l, api.Item{Seq: 3 + 2*i, Due: 10 + i*7%5, Sent: i % 6, Note: nth(i)})
	}
	return l
}

// wrongNotes are notes that may not be, each by one thing alone.
func wrongNotes() []api.Note {
	id := made(0, 7, 2, 3)
	wrong := []api.Note{
		{}, {Kind: 0, Id: id}, {Kind: -1, Id: id}, {Kind: 8, Id: id}, {Kind: math.MaxInt, Id: id}, {Kind: math.MinInt, Id: id},
		offer(id, ""), offer(id, "Hotel"), offer(id, "4hotel"), offer(id, "ho tel"), offer(id, strings.Repeat("a", 17)), {Kind: 1, Id: id, Def: "hotel", Why: 1},
		gone(id, 0), gone(id, -1), gone(id, 10), gone(id, math.MaxInt), {Kind: 6, Id: id, Why: 1, Def: "hotel"},
	}
	for _, kind := range []int{2, 3, 4, 5, 7} {
		wrong = append(wrong, api.Note{Kind: kind, Id: id, Def: "hotel"}, api.Note{Kind: kind, Id: id, Why: 1}, api.Note{Kind: kind, Id: id, Why: -1})
	}
	for _, id := range []api.Id{
		{}, made(0, 7), made(-1, 7, 2, 3), made(16, 7, 2, 3), made(0, 0, 2, 3), made(0, 1000000, 2, 3), made(0, 7, -1, 3), made(0, 7, 8, 3),
		made(0, 7, 2, -1), made(0, 7, 2, 16), made(0, 7, 2, 0), made(0, 7, 2, 3, 2, 3), made(0, 7, 2, 3, 1, 4, 8, 5), made(0, 7, 0, 1, 0, 2, 0, 3, 0, 4, 0, 5),
	} {
		wrong = append(wrong, api.Note{Kind: 5, Id: id})
	}
	return append(wrong, api.Note{Kind: 5, Id: api.Id{N: 1, Hops: make([]api.Hop, 100000)}}, offer(id, strings.Repeat("a", 1<<20)))
}

// goodNotes are notes that may be, at the edges of each field, no two the same.
func goodNotes() []api.Note {
	good := []api.Note{
		offer(made(0, 7, 2, 3), "hotel"), offer(made(0, 7, 2, 3), "a"), offer(made(0, 7, 2, 3), strings.Repeat("z", 16)),
		{Kind: 2, Id: made(0, 1, 0, 1)}, {Kind: 3, Id: made(15, 999999, 7, 0)}, {Kind: 4, Id: made(0, 7, 7, 15)}, {Kind: 7, Id: made(4, 7, 0, 1, 0, 2, 0, 3, 0, 5)},
	}
	for why := 1; why <= 9; why++ {
		good = append(good, gone(made(0, 7, 2, 3), why))
	}
	return good
}

// alike are rows of notes that differ from the first of their row in one field alone.
func alike() [][]api.Note {
	id := made(0, 7, 2, 3, 1, 4)
	var ids []api.Note
	for _, id := range []api.Id{
		id, made(1, 7, 2, 3, 1, 4), made(0, 8, 2, 3, 1, 4), made(0, 7, 3, 3, 1, 4), made(0, 7, 2, 5, 1, 4), made(0, 7, 2, 3, 0, 4), made(0, 7, 2, 3, 1, 5),
		made(0, 7, 2, 3), made(0, 7, 1, 4), made(0, 7, 2, 3, 1, 4, 0, 5), made(0, 7, 1, 4, 2, 3), made(0, 7, 2, 4, 1, 3),
	} {
		ids = append(ids, api.Note{Kind: 5, Id: id})
	}
	return [][]api.Note{
		ids,
		{{Kind: 2, Id: id}, {Kind: 3, Id: id}, {Kind: 4, Id: id}, {Kind: 5, Id: id}, {Kind: 7, Id: id}},
		{offer(id, "hotel"), offer(id, "hote"), offer(id, "hotel1"), offer(id, "motel"), offer(id, "hotem")},
		{gone(id, 5), gone(id, 1), gone(id, 9), gone(id, 4), gone(id, 6)},
	}
}

// again is a note in other memory.
func again(n api.Note) api.Note {
	n.Id.Hops = append(make([]api.Hop, 0, 9), n.Id.Hops...)
	n.Def = strings.Clone(n.Def)
	return n
}

// wrongBoxes are rows that are no outbox, each by one thing alone, at every place of a row.
func wrongBoxes() [][]api.Item {
	all := [][]api.Item{boxOf(13), boxOf(14), boxOf(100)}
	for _, count := range []int{1, 2, 5, 12} {
		for at := range count {
			change := func(f func(x *api.Item)) {
				l := boxOf(count)
				f(&l[at])
				all = append(all, l)
			}
			for _, seq := range []int{0, -1, math.MinInt, billion + 1, math.MaxInt} {
				change(func(x *api.Item) { x.Seq = seq })
			}
			for _, due := range []int{-1, math.MinInt, dueEnd + 1, math.MaxInt} {
				change(func(x *api.Item) { x.Due = due })
			}
			for _, sent := range []int{-1, math.MinInt, sentEnd + 1, math.MaxInt} {
				change(func(x *api.Item) { x.Sent = sent })
			}
			if count == 12 && at != 6 {
				continue
			}
			for _, n := range wrongNotes() {
				change(func(x *api.Item) { x.Note = n })
			}
		}
	}
	return append(all, wrongOrders()...)
}

// wrongOrders are rows whose numbers don't rise, or of which two notes are the same.
func wrongOrders() [][]api.Item {
	var all [][]api.Item
	for _, count := range []int{2, 3, 12} {
		for at := 1; at < count; at++ {
			for _, by := range []int{0, -1, -2} {
				l := boxOf(count)
				l[at].Seq = l[at-1].Seq + by
				if at+1 < count {
					l[at+1].Seq = 1000
				}
				for i := at + 2; i < count; i++ {
					l[i].Seq = 1000 + i
				}
				all = append(all, l)
			}
			for ahead := range at {
				l := boxOf(count)
				l[at].Note = again(l[ahead].Note)
				all = append(all, l)
			}
		}
	}
	return all
}

// TestMayOfSizes: P19.1, no item, 12 and 13.
func TestMayOfSizes(t *testing.T) {
	for count := range 13 {
		if e := May(boxOf(count)); e != api.OK {
			t.Errorf("May of %d items: error %d", count, int(e))
		}
	}
	for _, count := range []int{13, 14, 24, 1000} {
		if e := May(boxOf(count)); e != api.ErrArg {
			t.Errorf("May of %d items: error %d", count, int(e))
		}
	}
	if May(nil) != api.OK || May([]api.Item{}) != api.OK {
		t.Error("no item is an outbox")
	}
	huge := make([]api.Item, 1000000)
	if e := May(huge); e != api.ErrArg {
		t.Errorf("May of a million items: error %d", int(e))
	}
}

// TestMayOfEdges: P19.1, each number of an item at its edges and beyond them, at each place.
func TestMayOfEdges(t *testing.T) {
	expect := func(l []api.Item, want api.Errno) {
		t.Helper()
		if e := May(l); e != want {
			t.Errorf("May of %s: error %d, want %d", shown(l), int(e), int(want))
		}
	}
	for _, count := range []int{1, 2, 12} {
		for at := range count {
			for due, want := range map[int]api.Errno{-1: 2, 0: 0, 1: 0, billion: 0, billion + 1: 0, dueEnd: 0, dueEnd + 1: 2} {
				l := boxOf(count)
				l[at].Due = due
				expect(l, want)
			}
			for sent, want := range map[int]api.Errno{-1: 2, 0: 0, 1: 0, sentEnd: 0, sentEnd + 1: 2} {
				l := boxOf(count)
				l[at].Sent = sent
				expect(l, want)
			}
		}
		for seq, want := range map[int]api.Errno{-1: 2, 0: 2, 1: 0, 2: 0} {
			l := boxOf(count)
			l[0].Seq = seq
			expect(l, want)
		}
		for seq, want := range map[int]api.Errno{billion - 1: 0, billion: 0, billion + 1: 2} {
			l := boxOf(count)
			l[count-1].Seq = seq
			expect(l, want)
		}
	}
}

// TestMayOfOrders: P19.1, numbers that rise, are alike, or fall.
func TestMayOfOrders(t *testing.T) {
	for seqs, want := range map[[3]int]api.Errno{
		{1, 2, 3}: 0, {1, 5, 9}: 0, {1, 2, billion}: 0, {billion - 2, billion - 1, billion}: 0,
		{1, 1, 2}: 2, {1, 2, 2}: 2, {2, 1, 3}: 2, {1, 3, 2}: 2, {3, 2, 1}: 2, {5, 1, 5}: 2, {5, 6, 5}: 2, {5, 6, 1}: 2, {1, 1, 1}: 2, {billion, billion, billion}: 2,
		{0, 1, 2}: 2, {-1, 0, 1}: 2, {billion - 1, billion, billion + 1}: 2, {1, 0, 2}: 2, {1, billion + 1, 2}: 2,
	} {
		l := boxOf(3)
		for i := range l {
			l[i].Seq = seqs[i]
		}
		if e := May(l); e != want {
			t.Errorf("May of the numbers %v: error %d, want %d", seqs, int(e), int(want))
		}
	}
}

// TestMayOfNotes: P19.1, notes that may be and such that may not, alone and among others.
func TestMayOfNotes(t *testing.T) {
	for _, n := range goodNotes() {
		for at := range 3 {
			l := boxOf(3)
			l[at].Note = n
			holdMay(t, l)
			if e := May([]api.Item{{Seq: 1, Note: n}}); e != api.OK {
				t.Errorf("May of %v: error %d", n, int(e))
			}
		}
	}
	for _, n := range wrongNotes() {
		for at := range 3 {
			l := boxOf(3)
			l[at].Note = n
			if May(l) != api.ErrArg || May([]api.Item{{Seq: 1, Note: n}}) != api.ErrArg {
				t.Errorf("May of %.100v tells no error", n)
			}
		}
	}
}

// TestMayOfNotesAlike: P19.1, the same note twice, at any two places, and two that differ in one field alone.
func TestMayOfNotesAlike(t *testing.T) {
	for a := range room {
		for b := range a {
			l := boxOf(room)
			l[a].Note = again(l[b].Note)
			if e := May(l); e != api.ErrArg {
				t.Errorf("May of a note that is %d's and %d's: error %d", b, a, int(e))
			}
		}
	}
	for _, row := range alike() {
		for i, a := range row {
			for k, b := range row {
				want := api.OK
				if i == k {
					want = api.ErrArg
				}
				l := []api.Item{{Seq: 1, Note: a}, {Seq: 2, Due: 3, Sent: 4, Note: again(b)}}
				if e := May(l); e != want {
					t.Errorf("May of %v and %v: error %d, want %d", a, b, int(e), int(want))
				}
			}
		}
	}
}

// TestHas: P19.1, notes that are there, at each place, and such that are not.
func TestHas(t *testing.T) {
	for count := range room + 1 {
		l := boxOf(count)
		for i := range 2 * room {
			if got := Has(l, again(nth(i))); got != (i < count) {
				t.Errorf("Has of %d items of the note %d: %v", count, i, got)
			}
		}
		for _, n := range wrongNotes() {
			if Has(l, n) {
				t.Errorf("Has of %d items of %.100v", count, n)
			}
		}
	}
	for _, row := range alike() {
		for i, a := range row {
			l := append(boxOf(2), api.Item{Seq: 100, Note: a})
			for k, b := range row {
				if got := Has(l, again(b)); got != (i == k) {
					t.Errorf("Has of %v of %v: %v", a, b, got)
				}
			}
		}
	}
}

// TestHasOfOthers: P19.1, of what is no outbox no note is there, not even one that stands in it.
func TestHasOfOthers(t *testing.T) {
	for _, l := range wrongBoxes() {
		for _, x := range l {
			if Has(l, x.Note) {
				t.Errorf("Has of %s of %.100v", shown(l), x.Note)
			}
		}
	}
}

// TestCallsOfOutboxes: P19.1 to P19.4, outboxes of every size, at the edges of their numbers.
func TestCallsOfOutboxes(t *testing.T) {
	for count := range room + 1 {
		holdCalls(t, boxOf(count))
		last := boxOf(count)
		for i := range last {
			last[i].Seq, last[i].Due, last[i].Sent = billion-count+1+i, dueEnd-i, sentEnd-i%3
		}
		holdCalls(t, last)
		first := boxOf(count)
		for i := range first {
			first[i].Seq, first[i].Due, first[i].Sent = 1+i, i%2, 0
		}
		holdCalls(t, first)
	}
}

// TestCallsOfOthers: P19.1 to P19.4, rows that are no outbox: ErrArg ahead of all else, and nothing beside it.
func TestCallsOfOthers(t *testing.T) {
	for _, l := range wrongBoxes() {
		if outboxTold(l) {
			t.Fatalf("an outbox: %s", shown(l))
		}
		holdMay(t, l)
		for _, n := range []int{math.MinInt, -1, 0, 1, 10, billion, billion + 1, math.MaxInt} {
			all, due := Due(l, n)
			if len(Answered(l, n))+len(Anew(l, n))+len(all)+len(due) > 0 {
				t.Fatalf("of %s with %d something is answered", shown(l), n)
			}
			for _, notes := range [][]api.Note{nil, {nth(60)}, {nth(0)}, {{}}, {nth(60), {}}} {
				if m, e := Push(l, 1, 0, notes...); len(m) > 0 || e != api.ErrArg {
					t.Fatalf("Push of %s: %s, error %d", shown(l), shown(m), int(e))
				}
				if m, e := Push(l, n, n, notes...); len(m) > 0 || e != api.ErrArg {
					t.Fatalf("Push of %s with %d: %s, error %d", shown(l), n, shown(m), int(e))
				}
			}
		}
	}
}

// expectPush sees that Push answers those numbers, each due at now and never sent if it is new.
func expectPush(t *testing.T, l []api.Item, from, now int, notes []api.Note, seqs ...int) {
	t.Helper()
	m, e := Push(l, from, now, notes...)
	if e != api.OK || len(m) != len(seqs) {
		t.Errorf("Push of %s from %d: %s, error %d, want the numbers %v", shown(l), from, shown(m), int(e), seqs)
		return
	}
	for i, x := range m {
		if x.Seq != seqs[i] || i >= len(l) && (x.Due != now || x.Sent != 0) || i < len(l) && !sameItems(m[i:i+1], l[i:i+1]) {
			t.Errorf("Push of %s from %d at %d: %s, want the numbers %v", shown(l), from, now, shown(m), seqs)
		}
	}
}

// refusePush sees that Push answers that error, and nothing beside it.
func refusePush(t *testing.T, want api.Errno, l []api.Item, from, now int, notes ...api.Note) {
	t.Helper()
	if m, e := Push(l, from, now, notes...); len(m) > 0 || e != want {
		t.Errorf("Push of %s from %d at %d of %.300v: %s, error %d, want error %d", shown(l), from, now, notes, shown(m), int(e), int(want))
	}
}

// some are the notes from one number on, up to another one.
func some(first, behind int) []api.Note {
	var l []api.Note
	for i := first; i < behind; i++ {
		l = append(l, nth(i))
	}
	return l
}

// TestPushNumbers: P19.2, the next number from 1, from below, at and above the last item's, and at the end.
func TestPushNumbers(t *testing.T) {
	expectPush(t, nil, 1, 0, some(0, 1), 1)
	expectPush(t, nil, 1, 0, some(0, 3), 1, 2, 3)
	expectPush(t, nil, 5, 7, some(0, 3), 5, 6, 7)
	expectPush(t, nil, billion, 7, some(0, 1), billion)
	expectPush(t, nil, billion-1, billion, some(0, 2), billion-1, billion)
	expectPush(t, boxOf(2), 1, 0, some(2, 3), 3, 5, 6)
	expectPush(t, boxOf(2), 4, 0, some(2, 4), 3, 5, 6, 7)
	expectPush(t, boxOf(2), 5, 0, some(2, 3), 3, 5, 6)
	expectPush(t, boxOf(2), 6, 0, some(2, 3), 3, 5, 6)
	expectPush(t, boxOf(2), 7, 0, some(2, 5), 3, 5, 7, 8, 9)
	expectPush(t, boxOf(2), billion, 0, some(2, 3), 3, 5, billion)
	refusePush(t, 180, boxOf(2), billion, 0, some(2, 4)...)
	refusePush(t, 180, boxOf(2), billion+1, 0, nth(2))
	refusePush(t, 180, nil, billion+1, 0, nth(2))
	refusePush(t, 180, nil, billion, 0, nth(1), nth(2))
	last := []api.Item{{Seq: billion, Note: nth(0)}}
	for _, from := range []int{1, billion - 1, billion, billion + 1} {
		refusePush(t, 180, last, from, 0, nth(1))
		expectPush(t, last, from, 0, []api.Note{nth(0)}, billion)
		expectPush(t, last, from, 0, nil, billion)
	}
	last[0].Seq = billion - 1
	for _, from := range []int{1, billion - 2, billion - 1, billion} {
		expectPush(t, last, from, 0, some(1, 2), billion-1, billion)
		refusePush(t, 180, last, from, 0, some(1, 3)...)
	}
	refusePush(t, 180, last, billion+1, 0, nth(1))
}

// TestPushArguments: P19.2, the edges of from and now; ErrArg whatever the notes are, also without one.
func TestPushArguments(t *testing.T) {
	for _, l := range [][]api.Item{nil, boxOf(1), boxOf(11), boxOf(12)} {
		for _, notes := range [][]api.Note{nil, {nth(20)}, {nth(0)}, {{}}, {nth(20), {}}, some(0, 14)} {
			for _, bad := range []int{0, -1, math.MinInt, billion + 2, math.MaxInt} {
				refusePush(t, 2, l, bad, 0, notes...)
				refusePush(t, 2, l, bad, -1, notes...)
			}
			for _, bad := range []int{-1, math.MinInt, billion + 1, billion + 2, math.MaxInt} {
				refusePush(t, 2, l, 1, bad, notes...)
				refusePush(t, 2, l, billion+1, bad, notes...)
			}
		}
		for _, from := range []int{1, 2, billion, billion + 1} {
			for _, now := range []int{0, 1, billion - 1, billion} {
				m, e := Push(l, from, now)
				if !sameItems(m, l) || e != api.OK {
					t.Errorf("Push of no note to %s from %d at %d: %s, error %d", shown(l), from, now, shown(m), int(e))
				}
			}
		}
	}
}

// TestPushOfNotesThatAreThere: P19.2, nothing comes of them, whether they were there, or come twice in one call.
func TestPushOfNotesThatAreThere(t *testing.T) {
	expectPush(t, nil, 1, 0, []api.Note{nth(0), again(nth(0))}, 1)
	expectPush(t, nil, 1, 0, []api.Note{nth(0), nth(1), again(nth(0)), again(nth(1)), nth(2), again(nth(1))}, 1, 2, 3)
	expectPush(t, boxOf(3), 9, 0, some(0, 3), 3, 5, 7)
	expectPush(t, boxOf(3), 9, 0, some(0, 4), 3, 5, 7, 9)
	expectPush(t, boxOf(3), 9, 0, []api.Note{nth(5), nth(1), again(nth(5)), nth(6)}, 3, 5, 7, 9, 10)
	full := boxOf(room)
	for i := range room {
		expectPush(t, full, 1, 99, []api.Note{again(nth(i))}, 3, 5, 7, 9, 11, 13, 15, 17, 19, 21, 23, 25)
	}
	expectPush(t, full, billion+1, billion, some(0, room), 3, 5, 7, 9, 11, 13, 15, 17, 19, 21, 23, 25)
	for _, row := range alike() {
		for i, a := range row {
			for k, b := range row {
				m, e := Push(nil, 1, 0, a, again(b))
				if want := map[bool]int{true: 1, false: 2}[i == k]; e != api.OK || len(m) != want {
					t.Errorf("Push of %v and %v: %s, error %d", a, b, shown(m), int(e))
				}
			}
		}
	}
}

// TestPushToTheFull: P19.2, the twelfth note, and the thirteenth, ahead of a number that is too great.
func TestPushToTheFull(t *testing.T) {
	expectPush(t, nil, 1, 0, some(0, 12), 1, 2, 3, 4, 5, 6, 7, 8, 9, 10, 11, 12)
	expectPush(t, nil, 1, 0, append(some(0, 12), some(0, 12)...), 1, 2, 3, 4, 5, 6, 7, 8, 9, 10, 11, 12)
	refusePush(t, 190, nil, 1, 0, some(0, 13)...)
	refusePush(t, 190, nil, 1, 0, append(some(0, 12), append(some(0, 12), nth(12))...)...)
	for count := range room + 1 {
		l := boxOf(count)
		if m, e := Push(l, 1, 0, some(count, room)...); e != api.OK || len(m) != room {
			t.Errorf("Push to %d items: %s, error %d", count, shown(m), int(e))
		}
		refusePush(t, 190, l, 1, 0, some(count, room+1)...)
		refusePush(t, 190, l, 1, 0, some(0, room+1)...)
	}
	full := boxOf(room)
	refusePush(t, 190, full, 1, 0, nth(12))
	refusePush(t, 190, full, 1, 0, nth(0), nth(12))
	refusePush(t, 190, full, billion+1, 0, nth(12))
	full[room-1].Seq = billion
	refusePush(t, 190, full, 1, 0, nth(12))
	refusePush(t, 190, full, billion+1, billion, nth(12))
	refusePush(t, 180, full[1:], 1, 0, nth(12))
}

// TestPushOfWrongNotes: P19.2, one that is refused, at each place; the first error counts, note by note.
func TestPushOfWrongNotes(t *testing.T) {
	for _, n := range wrongNotes() {
		for _, l := range [][]api.Item{nil, boxOf(1), boxOf(12)} {
			refusePush(t, 130, l, 1, 0, n)
			refusePush(t, 130, l, billion+1, 0, n)
			refusePush(t, 130, l, 1, 0, n, n)
			refusePush(t, 130, l, 1, 0, n, nth(30))
			refusePush(t, 130, l, billion+1, 0, n, nth(30), nth(31))
		}
		for _, l := range [][]api.Item{nil, boxOf(1), boxOf(9)} {
			refusePush(t, 130, l, 1, 0, nth(30), n)
			refusePush(t, 130, l, 1, 0, nth(30), n, nth(31))
			refusePush(t, 130, l, 1, 0, nth(30), nth(31), n)
		}
		refusePush(t, 190, boxOf(12), 1, 0, nth(30), n)
		refusePush(t, 130, boxOf(12), 1, 0, nth(3), n, nth(30))
		refusePush(t, 190, boxOf(10), 1, 0, nth(30), nth(31), nth(32), n)
		refusePush(t, 130, boxOf(10), 1, 0, nth(30), nth(31), n, nth(32))
		refusePush(t, 180, nil, billion, 0, nth(30), nth(31), n)
		refusePush(t, 130, nil, billion, 0, nth(30), n, nth(31))
	}
	for _, n := range goodNotes() {
		expectPush(t, nil, 1, 0, []api.Note{n}, 1)
		expectPush(t, boxOf(1), 1, 0, []api.Note{n, again(n)}, 3, 4)
	}
}

// TestPushOneByOne: P19.2, all at once is as one behind the other, from the same number on.
func TestPushOneByOne(t *testing.T) {
	r := rand.New(rand.NewSource(192))
	for range 3000 {
		l := boxOf(r.Intn(room + 1))
		from := []int{1, 4, 20, 40, billion - 2, billion + 1}[r.Intn(6)]
		var notes []api.Note
		for range r.Intn(16) {
			notes = append(notes, nth(r.Intn(20)))
		}
		want, wantErr := l, api.OK
		for _, n := range notes {
			if want, wantErr = Push(want, from, 8, n); wantErr != api.OK {
				break
			}
		}
		if m := holdPush(t, l, from, 8, notes...); wantErr == api.OK && !sameItems(m, want) || wantErr != api.OK && len(m) > 0 {
			t.Fatalf("Push of %s of %v: %s, but one by one %s, error %d", shown(l), notes, shown(m), shown(want), int(wantErr))
		}
	}
}

// seqsOf are the items' numbers.
func seqsOf(l []api.Item) []int {
	var seqs []int
	for _, x := range l {
		seqs = append(seqs, x.Seq)
	}
	return seqs
}

// TestAnswered: P19.3, P19.6, low below all numbers, at each of them, between, and above all.
func TestAnswered(t *testing.T) {
	l := boxOf(3) // the numbers 3, 5 and 7
	for low, want := range map[int][]int{
		math.MinInt: {3, 5, 7}, -1: {3, 5, 7}, 0: {3, 5, 7}, 2: {3, 5, 7}, 3: {5, 7}, 4: {5, 7}, 5: {7}, 6: {7}, 7: {}, 8: {}, billion: {}, billion + 1: {}, math.MaxInt: {},
	} {
		m := Answered(l, low)
		if !slices.Equal(seqsOf(m), want) || !sameItems(m, l[len(l)-len(m):]) {
			t.Errorf("Answered of %s up to %d: %s, want the numbers %v", shown(l), low, shown(m), want)
		}
	}
	if m := Answered([]api.Item{{Seq: billion, Note: nth(0)}}, billion-1); len(m) != 1 {
		t.Errorf("Answered up to one below: %s", shown(m))
	}
	if m := Answered([]api.Item{{Seq: billion, Note: nth(0)}}, billion); len(m) != 0 {
		t.Errorf("Answered up to the last one: %s", shown(m))
	}
	if len(Answered(nil, 0))+len(Answered([]api.Item{}, -1)) > 0 {
		t.Error("Answered of no item answers some")
	}
}

// TestAnsweredIsThereNoMore: P19.6, what is answered is gone, what is left stays as it is, and has its number.
func TestAnsweredIsThereNoMore(t *testing.T) {
	for count := range room + 1 {
		l, _ := Due(boxOf(count), 12)
		for low := range 30 {
			m := holdAnswered(t, l, low)
			for _, x := range l {
				at := slices.IndexFunc(m, func(y api.Item) bool { return y.Seq == x.Seq })
				if x.Seq <= low && (at >= 0 || Has(m, x.Note)) || x.Seq > low && (at < 0 || !sameItems(m[at:at+1], []api.Item{x}) || !Has(m, x.Note)) {
					t.Fatalf("Answered of %s up to %d: %s", shown(l), low, shown(m))
				}
			}
			if n := holdAnswered(t, m, low); !sameItems(n, m) {
				t.Fatalf("Answered twice up to %d: %s, then %s", low, shown(m), shown(n))
			}
		}
	}
	l, _ := Push(nil, 1, 0, some(0, 3)...)
	l, e := Push(Answered(l, 2), 1, 5, nth(0))
	if e != api.OK || !slices.Equal(seqsOf(l), []int{3, 4}) || !sameNotes(l[1].Note, nth(0)) || l[1].Due != 5 {
		t.Errorf("a note that was answered and comes again: %s, error %d", shown(l), int(e))
	}
	l, e = Push(Answered(l, 4), 1, 5, nth(0))
	if e != api.OK || !slices.Equal(seqsOf(l), []int{1}) {
		t.Errorf("a note that comes when all was answered: %s, error %d", shown(l), int(e))
	}
}

// TestAnew: P19.3, the same notes in their order, from 1 on, due now, never sent.
func TestAnew(t *testing.T) {
	for count := range room + 1 {
		l := boxOf(count)
		for i := range l {
			l[i].Seq += 1000 * (i + 1)
			l[i].Sent = []int{0, 1, sentEnd}[i%3]
			l[i].Due = []int{0, billion, dueEnd}[i%3]
		}
		for _, now := range []int{0, 1, 12, billion - 1, billion} {
			m := holdAnew(t, l, now)
			if len(m) != count {
				t.Fatalf("Anew of %d items at %d: %s", count, now, shown(m))
			}
			for i, x := range m {
				if x.Seq != i+1 || x.Due != now || x.Sent != 0 || !sameNotes(x.Note, l[i].Note) {
					t.Fatalf("Anew of %s at %d: %s", shown(l), now, shown(m))
				}
			}
			if _, due := Due(m, now); !sameNotesOf(due, m) {
				t.Fatalf("of %s at %d only %s are due", shown(m), now, shown(due))
			}
		}
		for _, now := range []int{-1, math.MinInt, billion + 1, dueEnd, math.MaxInt} {
			if m := Anew(l, now); len(m) > 0 {
				t.Errorf("Anew at %d, which is no time: %s", now, shown(m))
			}
		}
	}
}

// sameNotesOf tells whether items have the same numbers and notes.
func sameNotesOf(a, b []api.Item) bool {
	return slices.EqualFunc(a, b, func(x, y api.Item) bool { return x.Seq == y.Seq && sameNotes(x.Note, y.Note) })
}

// TestDueAtEdges: P19.4, an item that is due at now, one before it, one behind it, however often it was sent.
func TestDueAtEdges(t *testing.T) {
	for _, now := range []int{0, 1, 10, billion - 1, billion} {
		for sent, want := range map[int][2]int{
			0: {1, 2}, 1: {2, 4}, 2: {3, 8}, 3: {4, 8}, 4: {5, 8}, 100: {101, 8}, sentEnd - 2: {sentEnd - 1, 8}, sentEnd - 1: {sentEnd, 8}, sentEnd: {sentEnd, 8},
		} {
			for _, due := range []int{0, now - 2, now - 1, now, now + 1, now + 2, billion, billion + 1, dueEnd} {
				if due < 0 || due > dueEnd {
					continue
				}
				x := api.Item{Seq: 4, Due: due, Sent: sent, Note: nth(3)}
				all, isDue := Due([]api.Item{x}, now)
				y := x
				if due <= now {
					y.Sent, y.Due = want[0], now+want[1]
				}
				if !sameItems(all, []api.Item{y}) || due <= now && !sameItems(isDue, all) || due > now && len(isDue) > 0 {
					t.Errorf("Due of %s at %d: %s, and %s", shown([]api.Item{x}), now, shown(all), shown(isDue))
				}
			}
		}
	}
}

// TestDueOfEach: P19.4, of twelve items each choice of those that are due, in order, the others as they are.
func TestDueOfEach(t *testing.T) {
	for bits := range 1 << room {
		l := boxOf(room)
		var want []int
		for i := range l {
			l[i].Due, l[i].Sent = 101+i%2, (bits+i)%5
			if bits>>i&1 == 1 {
				l[i].Due = 100 - i%3
				want = append(want, l[i].Seq)
			}
		}
		all, due := holdDue(t, l, 100)
		if !slices.Equal(seqsOf(due), want) || !slices.Equal(seqsOf(all), seqsOf(l)) {
			t.Fatalf("Due of %s: %s, and %s", shown(l), shown(all), shown(due))
		}
	}
}

// TestDueAtNoTime: P19.4, none and none.
func TestDueAtNoTime(t *testing.T) {
	for _, l := range [][]api.Item{nil, boxOf(1), boxOf(12), {{Seq: 1, Due: 0, Note: nth(0)}}} {
		for _, now := range []int{-1, math.MinInt, billion + 1, dueEnd, math.MaxInt} {
			if all, due := Due(l, now); len(all)+len(due) > 0 {
				t.Errorf("Due at %d, which is no time: %s, and %s", now, shown(all), shown(due))
			}
		}
	}
}

// dueTimes are the times at which a note is due, if it is asked for at each of these times.
func dueTimes(t *testing.T, l []api.Item, n api.Note, first, last, by int) []int {
	var times []int
	for now := first; now <= last; now += by {
		var due []api.Item
		l, due = holdDue(t, l, now)
		if hasTold(due, n) {
			times = append(times, now)
		}
	}
	return times
}

// TestDueAgainAndAgain: P19.5, example 1: at once, after 2, 4, 8, 8 and so on, and between not.
func TestDueAgainAndAgain(t *testing.T) {
	for _, start := range []int{0, 1, 77, 500000000, billion - 100} {
		l, e := Push(nil, 1, start, nth(0))
		if e != api.OK {
			t.Fatal(int(e))
		}
		var want []int
		for _, after := range []int{0, 2, 6, 14, 22, 30, 38, 46, 54, 62, 70, 78, 86, 94} {
			want = append(want, start+after)
		}
		if times := dueTimes(t, l, nth(0), start, start+100, 1); !slices.Equal(times, want) {
			t.Errorf("pushed at %d, due at %v", start, times)
		}
	}
	l, _ := Push(nil, 1, billion, nth(0))
	if times := dueTimes(t, l, nth(0), billion-5, billion+5, 1); !slices.Equal(times, []int{billion}) {
		t.Errorf("pushed at the last time, due at %v", times)
	}
}

// TestDueWhenAskedLate: P19.5, the delay begins when the note was told as due, not when it was due.
func TestDueWhenAskedLate(t *testing.T) {
	l, _ := Push(nil, 1, 0, nth(0))
	if times := dueTimes(t, l, nth(0), 0, 60, 3); !slices.Equal(times, []int{0, 3, 9, 18, 27, 36, 45, 54}) {
		t.Errorf("asked for each three, due at %v", times)
	}
	l, due := Due(l, 0)
	l, late := Due(l, 1000)
	if len(due) != 1 || len(late) != 1 || l[0].Due != 1004 || l[0].Sent != 2 {
		t.Errorf("asked for late: %s", shown(l))
	}
	if l, due := Due(l, 500); len(due) > 0 || l[0].Due != 1004 {
		t.Errorf("asked for at an earlier time: %s", shown(l))
	}
}

// TestDueOfSeveral: P19.5, P19.6, each note has its own times, whatever comes behind it, and is due till it is answered.
func TestDueOfSeveral(t *testing.T) {
	starts := []int{0, 0, 1, 5, 5, 9, 14, 20, 21, 22, 23, 40}
	var l []api.Item
	told := map[int][]int{}
	for now := range 121 {
		for i, start := range starts {
			if start == now {
				l = holdPush(t, l, 1, now, nth(i))
			}
		}
		// A note that is there is not due anew because it comes again.
		l = holdPush(t, l, 1, now, l[0].Note, l[len(l)-1].Note)
		var due []api.Item
		l, due = holdDue(t, l, now)
		for _, x := range due {
			told[x.Seq] = append(told[x.Seq], now)
		}
		if now == 60 {
			l = holdAnswered(t, l, 6)
		}
	}
	for i, start := range starts {
		var want []int
		for now, sent := start, 1; now <= 120 && (i >= 6 || now <= 60); sent++ {
			want = append(want, now)
			now += delayTold(sent)
		}
		if !slices.Equal(told[i+1], want) {
			t.Errorf("pushed at %d, due at %v, want %v", start, told[i+1], want)
		}
	}
}

// TestSentToItsEnd: P19.4, P19.5, a note that is sent for ever, up to a million times and further.
func TestSentToItsEnd(t *testing.T) {
	l, _ := Push(nil, 1, 0, nth(0))
	now, sent := 0, 0
	for ; sent < sentEnd+3; sent++ {
		next, due := Due(l, now)
		if len(due) != 1 || next[0].Sent != min(sent+1, sentEnd) || next[0].Due != now+delayTold(sent+1) {
			t.Fatalf("sent %d times, at %d: %s", sent, now, shown(next))
		}
		l, now = next, next[0].Due
	}
	if May(l) != api.OK || now > 9*sentEnd {
		t.Errorf("at %d: %s", now, shown(l))
	}
}

// chance makes numbers that are mostly within a range, at times at its edges, at times beyond.
func chance(r *rand.Rand, low, high int) int {
	switch r.Intn(40) {
	case 0:
		return low - 1
	case 1:
		return high + 1
	case 2:
		return high
	case 3:
		return low
	}
	return low + r.Intn(min(high-low+1, 50))
}

// TestRowsByChance: P19.1 to P19.4, rows of items by chance, outboxes or not.
func TestRowsByChance(t *testing.T) {
	r := rand.New(rand.NewSource(190))
	wrong, outboxes := wrongNotes(), 0
	for range 6000 {
		var l []api.Item
		seq := 0
		for range r.Intn(14) {
			seq += max(0, r.Intn(12)-r.Intn(2))
			x := api.Item{Seq: max(seq, r.Intn(3)), Due: chance(r, 0, dueEnd), Sent: chance(r, 0, sentEnd), Note: nth(r.Intn(300))}
			if r.Intn(80) == 0 {
				x.Note = wrong[r.Intn(len(wrong))]
			}
			l = append(l, x)
		}
		if outboxTold(l) {
			outboxes++
		}
		holdMay(t, l)
		n := nth(r.Intn(300))
		holdHas(t, l, n)
		holdAnswered(t, l, r.Intn(seq+2))
		holdAnew(t, l, chance(r, 0, billion))
		holdDue(t, l, chance(r, 0, billion))
		holdPush(t, l, chance(r, 1, billion+1), chance(r, 0, billion), n, nth(r.Intn(300)), n)
	}
	if outboxes < 1000 || outboxes > 5000 {
		t.Errorf("of 6000 rows %d were outboxes", outboxes)
	}
}

// TestCallsByChance: P19.2 to P19.6, long rows of calls on one outbox, as a link makes them.
func TestCallsByChance(t *testing.T) {
	r := rand.New(rand.NewSource(196))
	for range 200 {
		var l []api.Item
		now, next := 0, 1
		for range 300 {
			switch r.Intn(6) {
			case 0, 1:
				var notes []api.Note
				for range r.Intn(4) {
					notes = append(notes, nth(r.Intn(30)))
				}
				if _, e := Push(l, next, now, notes...); e == api.OK {
					l = holdPush(t, l, next, now, notes...)
				}
				if len(l) > 0 {
					next = max(next, l[len(l)-1].Seq+1)
				}
			case 2:
				l = holdAnswered(t, l, max(0, next-r.Intn(14)))
			case 3:
				if r.Intn(10) == 0 {
					l = holdAnew(t, l, now)
					next = len(l) + 1
				}
			default:
				now += r.Intn(3)
				l, _ = holdDue(t, l, now)
			}
		}
	}
}

// memory is a stretch of memory, and what has it.
type memory struct {
	from, behind uintptr
	what         string
}

// stretch is the memory of a list, its spare room too.
func stretch[T any](l []T, what string) memory {
	var one T
	from := uintptr(unsafe.Pointer(unsafe.SliceData(l)))
	return memory{from, from + uintptr(cap(l))*unsafe.Sizeof(one), what}
}

func textStretch(s, what string) memory {
	return stretch(unsafe.Slice(unsafe.StringData(s), len(s)), what)
}

func notesMemory(what string, notes ...api.Note) []memory {
	var all []memory
	for i, n := range notes {
		where := fmt.Sprintf("%s, note %d", what, i)
		all = append(all, stretch(n.Id.Hops, where+", hops"), textStretch(n.Def, where+", name"))
	}
	return all
}

func itemsMemory(what string, l []api.Item) []memory {
	all := []memory{stretch(l, what)}
	for _, x := range l {
		all = append(all, notesMemory(fmt.Sprintf("%s, item %d", what, x.Seq), x.Note)...)
	}
	return all
}

// holdApart sees that no stretch of new memory lies within another one, new or old.
func holdApart(t *testing.T, old, new []memory) {
	t.Helper()
	for i, a := range new {
		for _, b := range slices.Concat(old, new[i+1:]) {
			if a.from != a.behind && b.from != b.behind && a.from < b.behind && b.from < a.behind {
				t.Fatalf("%s shares memory with %s", a.what, b.what)
			}
		}
	}
}

// stock is items and notes whose lists stand in greater ones, all hops in one, with spare room everywhere.
type stock struct {
	items []api.Item
	notes []api.Note
	hops  []api.Hop
	box   []api.Item
	more  []api.Note
}

// newStock lays copies of items and notes into a stock.
func newStock(l []api.Item, notes ...api.Note) *stock {
	s := &stock{hops: make([]api.Hop, 0, 1000)}
	lay := func(n api.Note) api.Note {
		s.hops = append(s.hops, api.Hop{Step: 91, Org: 91})
		from := len(s.hops)
		s.hops = append(s.hops, n.Id.Hops...)
		n.Id.Hops = s.hops[from:len(s.hops)]
		s.hops = append(s.hops, api.Hop{Step: 92, Org: 92})
		return n
	}
	s.items = append(s.items, api.Item{Seq: 93})
	for _, x := range l {
		x.Note = lay(x.Note)
		s.items = append(s.items, x)
	}
	s.items = append(s.items, api.Item{Seq: 94}, api.Item{Seq: 95})
	s.notes = append(s.notes, api.Note{Kind: 96})
	for _, n := range notes {
		s.notes = append(s.notes, lay(n))
	}
	s.notes = append(s.notes, api.Note{Kind: 97}, api.Note{Kind: 98})
	s.box, s.more = s.items[1:len(l)+1], s.notes[1:len(notes)+1]
	return s
}

// told is a copy of all that a stock has, its spare room too.
func (s *stock) told() [3]any {
	items, notes := slices.Clone(s.items), slices.Clone(s.notes)
	for i := range items {
		items[i].Note = again(items[i].Note)
	}
	for i := range notes {
		notes[i] = again(notes[i])
	}
	return [3]any{items, notes, slices.Clone(s.hops)}
}

// spoil changes all that a stock has.
func (s *stock) spoil() {
	for i := range s.hops {
		s.hops[i] = api.Hop{Step: -5, Org: -6}
	}
	for i := range s.items {
		s.items[i] = api.Item{Seq: -7, Due: -7, Sent: -7, Note: api.Note{Kind: -7}}
	}
	for i := range s.notes {
		s.notes[i] = api.Note{Kind: -8}
	}
}

// spoilAnswer changes all of the items' memory, their spare room too.
func spoilAnswer(l []api.Item) {
	for _, x := range l[:cap(l)] {
		hops := x.Note.Id.Hops[:cap(x.Note.Id.Hops)]
		for i := range hops {
			hops[i] = api.Hop{Step: -1, Org: -2}
		}
	}
	for i := range l[:cap(l)] {
		l[:cap(l)][i] = api.Item{Seq: -3}
	}
}

// deep is a copy of items that shares nothing with them.
func deep(l []api.Item) []api.Item {
	all := slices.Clone(l)
	for i := range all {
		all[i].Note = again(all[i].Note)
	}
	return all
}

// calls are all that answer items, and Has and May.
func calls() map[string]func(s *stock) [2][]api.Item {
	one := func(l []api.Item) [2][]api.Item { return [2][]api.Item{l} }
	return map[string]func(s *stock) [2][]api.Item{
		"May":      func(s *stock) [2][]api.Item { May(s.box); return one(nil) },
		"Has":      func(s *stock) [2][]api.Item { Has(s.box, s.more[0]); return one(nil) },
		"Push":     func(s *stock) [2][]api.Item { l, _ := Push(s.box, 1, 12, s.more...); return one(l) },
		"no note":  func(s *stock) [2][]api.Item { l, _ := Push(s.box, 1, 12); return one(l) },
		"no time":  func(s *stock) [2][]api.Item { l, _ := Push(s.box, 1, -1, s.more...); return one(l) },
		"Answered": func(s *stock) [2][]api.Item { return one(Answered(s.box, 6)) },
		"none":     func(s *stock) [2][]api.Item { return one(Answered(s.box, 0)) },
		"all":      func(s *stock) [2][]api.Item { return one(Answered(s.box, 1000)) },
		"Anew":     func(s *stock) [2][]api.Item { return one(Anew(s.box, 3)) },
		"Due":      func(s *stock) [2][]api.Item { all, due := Due(s.box, 12); return [2][]api.Item{all, due} },
		"all due":  func(s *stock) [2][]api.Item { all, due := Due(s.box, 1000); return [2][]api.Item{all, due} },
		"none due": func(s *stock) [2][]api.Item { all, due := Due(s.box, 0); return [2][]api.Item{all, due} },
	}
}

// stocks are outboxes and other rows, with notes that are fresh, there already, twice, or refused.
func stocks() []func() *stock {
	var all []func() *stock
	rows := [][]api.Item{nil, boxOf(1), boxOf(3), boxOf(11), boxOf(12), boxOf(13), {{Seq: 0, Note: nth(0)}}, {{Seq: 2, Note: nth(0)}, {Seq: 1, Note: nth(1)}}}
	for _, l := range rows {
		for _, notes := range [][]api.Note{{nth(50)}, {nth(56), nth(63), nth(56), nth(0)}, {nth(0)}, {nth(50), {}}, {{}, nth(50)}, some(50, 64)} {
			all = append(all, func() *stock { return newStock(l, notes...) })
		}
	}
	return all
}

// TestWhatIsHandedInStays: rule 4, items, notes and hops that are handed in, and their spare room, whatever is done to the answer.
func TestWhatIsHandedInStays(t *testing.T) {
	for i, fresh := range stocks() {
		for name, call := range calls() {
			s := fresh()
			was := s.told()
			got := call(s)
			if !reflect.DeepEqual(s.told(), was) {
				t.Fatalf("%s of stock %d changed it: %v, was %v", name, i, s.told(), was)
			}
			spoilAnswer(got[0])
			spoilAnswer(got[1])
			if !reflect.DeepEqual(s.told(), was) {
				t.Fatalf("what %s of stock %d answers is the stock's own", name, i)
			}
		}
	}
}

// TestWhatIsHandedInIsNotKept: rule 4, what was answered stays, whatever is done to what was handed in, or to the other list.
func TestWhatIsHandedInIsNotKept(t *testing.T) {
	for i, fresh := range stocks() {
		for name, call := range calls() {
			s := fresh()
			got := call(s)
			was := [2][]api.Item{deep(got[0]), deep(got[1])}
			s.spoil()
			if !sameItems(got[0], was[0]) || !sameItems(got[1], was[1]) {
				t.Fatalf("%s of stock %d keeps what was handed in", name, i)
			}
			spoilAnswer(got[0])
			if !sameItems(got[1], was[1]) {
				t.Fatalf("the lists that %s of stock %d answers share memory", name, i)
			}
		}
	}
}

// TestNewMemory: rule 4, no list and no name of an answer shares memory with another one, or with what was handed in.
func TestNewMemory(t *testing.T) {
	for _, fresh := range stocks() {
		for name, call := range calls() {
			s := fresh()
			old := append(itemsMemory("the outbox", s.box), notesMemory("the notes", s.more...)...)
			old = append(old, stretch(s.more, "the notes"))
			got := call(s)
			holdApart(t, old, append(itemsMemory(name, got[0]), itemsMemory(name+", due", got[1])...))
			next := call(s)
			holdApart(t, append(itemsMemory(name, got[0]), itemsMemory(name+", due", got[1])...), append(itemsMemory(name+" again", next[0]), itemsMemory(name+" again, due", next[1])...))
		}
	}
}

// TestSameAnswersAgain: rule 5, nothing is kept from call to call.
func TestSameAnswersAgain(t *testing.T) {
	for i, fresh := range stocks() {
		for name, call := range calls() {
			first := call(fresh())
			Push(boxOf(3), 40, 9, some(70, 75)...)
			Due(boxOf(12), 11)
			next := call(fresh())
			if !sameItems(first[0], next[0]) || !sameItems(first[1], next[1]) {
				t.Fatalf("%s of stock %d: %s, and then %s", name, i, shown(first[0]), shown(next[0]))
			}
		}
	}
}
