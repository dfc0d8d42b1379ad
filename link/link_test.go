package link

import (
	"fmt"
	"math"
	"math/rand"
	"regexp"
	"slices"
	"strings"
	"testing"

	"entente/api"
)

// The chapter's numbers, written out.
const (
	billion = 1000000000
	room    = 12
	width   = 16
	sentEnd = 1000000
)

var namePattern = regexp.MustCompile(`^[a-z][a-z0-9]{0,15}$`)

// made is an id of a root, a number, and hops' steps and organisations in turn.
func made(root, n int, hops ...int) api.Id {
	id := api.Id{Root: root, N: n}
	for i := 0; i < len(hops); i += 2 {
		id.Hops = append(id.Hops, api.Hop{Step: hops[i], Org: hops[i+1]})
	}
	return id
}

// nth is a note that goes from one organisation to another one, another one for each number from 0 on: of all kinds, with one to four hops.
func nth(from, to, i int) api.Note {
	n := api.Note{Kind: i%7 + 1}
	above, below := from, to
	if n.Kind > 4 {
		above, below = to, from
	}
	path := []int{above, below}
	for org := 15; len(path) < 2+i/7%4; org-- {
		if org != above && org != below {
			path = append([]int{org}, path...)
		}
	}
	n.Id = api.Id{Root: path[0], N: i/7 + 1}
	for k, org := range path[1:] {
		n.Id.Hops = append(n.Id.Hops, api.Hop{Step: (i + k) % 8, Org: org})
	}
	switch n.Kind {
	case 1:
		n.Def = "hotel" + fmt.Sprint(i%3)
	case 6:
		n.Why = i%9 + 1
	}
	return n
}

// some are such notes from one number on, up to another one.
func some(from, to, first, behind int) []api.Note {
	var l []api.Note
	for i := first; i < behind; i++ {
		l = append(l, nth(from, to, i))
	}
	return l
}

// idTold tells whether an id may be, by the words of chapter 3.
func idTold(id api.Id) bool {
	if id.N < 1 || id.N > 999999 || len(id.Hops) > 4 {
		return false
	}
	path := []int{id.Root}
	for _, hop := range id.Hops {
		if hop.Step < 0 || hop.Step > 7 {
			return false
		}
		path = append(path, hop.Org)
	}
	for i, org := range path {
		if org < 0 || org > 15 || slices.Index(path, org) != i {
			return false
		}
	}
	return true
}

// noteTold tells whether a note may be, by the words of chapter 13.
func noteTold(n api.Note) bool {
	if !idTold(n.Id) || len(n.Id.Hops) == 0 {
		return false
	}
	switch n.Kind {
	case 1:
		return namePattern.MatchString(n.Def) && n.Why == 0
	case 6:
		return n.Def == "" && n.Why >= 1 && n.Why <= 9
	case 2, 3, 4, 5, 7:
		return n.Def == "" && n.Why == 0
	}
	return false
}

// goesTold tells whether a note may be and goes from one to another, by the words of chapter 13.
func goesTold(n api.Note, from, to int) bool {
	if !noteTold(n) {
		return false
	}
	path := []int{n.Id.Root}
	for _, hop := range n.Id.Hops {
		path = append(path, hop.Org)
	}
	above, below := path[len(path)-2], path[len(path)-1]
	if n.Kind <= 4 {
		return above == from && below == to
	}
	return below == from && above == to
}

// frameTold tells whether a frame may be, by the words of chapter 13.
func frameTold(f api.Frame) bool {
	for _, n := range []int{f.Seq, f.AckEpoch, f.Ack} {
		if n < 0 || n > billion {
			return false
		}
	}
	if f.From < 0 || f.From > 15 || f.To < 0 || f.To > 15 || f.From == f.To || f.Epoch < 1 || f.Epoch > billion {
		return false
	}
	if f.Seq == 0 {
		return sameNotes(f.Note, api.Note{})
	}
	return goesTold(f.Note, f.From, f.To)
}

func sameNotes(a, b api.Note) bool {
	return a.Kind == b.Kind && a.Id.Root == b.Id.Root && a.Id.N == b.Id.N && slices.Equal(a.Id.Hops, b.Id.Hops) && a.Def == b.Def && a.Why == b.Why
}

func sameItems(a, b []api.Item) bool {
	return slices.EqualFunc(a, b, func(x, y api.Item) bool {
		return x.Seq == y.Seq && x.Due == y.Due && x.Sent == y.Sent && sameNotes(x.Note, y.Note)
	})
}

func sameFrames(a, b []api.Frame) bool {
	return slices.EqualFunc(a, b, func(x, y api.Frame) bool {
		return x.From == y.From && x.To == y.To && x.Epoch == y.Epoch && x.Seq == y.Seq && x.AckEpoch == y.AckEpoch && x.Ack == y.Ack && sameNotes(x.Note, y.Note)
	})
}

// told is a link by the chapter's words: what was taken stands as low and the numbers above it.
type told struct {
	me, peer, epoch, known int
	items                  []api.Item
	next, low              int
	above                  []int
	owes                   bool
}

func (m told) copy() *told {
	m.items, m.above = slices.Clone(m.items), slices.Clone(m.above)
	return &m
}

// is tells whether two links are the same, whose ends and lives are.
func (m *told) is(o *told) bool {
	return m.known == o.known && sameItems(m.items, o.items) && m.next == o.next && m.low == o.low && slices.Equal(m.above, o.above) && m.owes == o.owes
}

func (m *told) waits(n api.Note) bool {
	return slices.ContainsFunc(m.items, func(x api.Item) bool { return sameNotes(x.Note, n) })
}

func timeTold(now int) bool { return now >= 0 && now <= billion }

// send is Send by the chapter's words.
func (m *told) send(now int, notes ...api.Note) api.Errno {
	for _, n := range notes {
		if !goesTold(n, m.me, m.peer) {
			return 130
		}
	}
	if !timeTold(now) {
		return 2
	}
	after := m.copy()
	for _, n := range notes {
		if after.waits(n) {
			continue
		}
		if len(after.items) == room {
			return 190
		}
		if after.next > billion {
			return 180
		}
		after.items = append(after.items, api.Item{Seq: after.next, Due: now, Note: n})
		after.next++
	}
	*m = *after
	return 0
}

// tick is Tick by the chapter's words.
func (m *told) tick(now int) []api.Frame {
	if !timeTold(now) {
		return nil
	}
	var frames []api.Frame
	blank := api.Frame{From: m.me, To: m.peer, Epoch: m.epoch, AckEpoch: m.known, Ack: m.low}
	for i := range m.items {
		x := &m.items[i]
		if x.Due > now {
			continue
		}
		f := blank
		f.Seq, f.Note = x.Seq, x.Note
		frames = append(frames, f)
		x.Sent = min(x.Sent+1, sentEnd)
		x.Due = now + []int{1, 2, 4, 8}[min(x.Sent, 3)]
	}
	if len(frames) == 0 && m.owes {
		frames = append(frames, blank)
	}
	m.owes = false
	return frames
}

// take is Take by the chapter's words.
func (m *told) take(f api.Frame, now int) (api.Note, bool, api.Errno) {
	switch {
	case !frameTold(f) || f.From != m.peer || f.To != m.me:
		return api.Note{}, false, 130
	case !timeTold(now):
		return api.Note{}, false, 2
	case f.Epoch < m.known:
		return api.Note{}, false, 200
	case f.Epoch > m.known:
		m.known, m.low, m.above = f.Epoch, 0, nil
		for i, x := range m.items {
			m.items[i] = api.Item{Seq: i + 1, Due: now, Note: x.Note}
		}
		m.next = len(m.items) + 1
	}
	if f.AckEpoch != m.epoch {
		m.owes = true
		return api.Note{}, false, 200
	}
	m.items = slices.DeleteFunc(m.items, func(x api.Item) bool { return x.Seq <= f.Ack })
	if f.Seq == 0 {
		return api.Note{}, false, 0
	}
	m.owes = true
	if f.Seq > m.low+width {
		return api.Note{}, false, 180
	}
	if f.Seq <= m.low || slices.Contains(m.above, f.Seq) {
		return api.Note{}, false, 0
	}
	m.above = append(m.above, f.Seq)
	slices.Sort(m.above)
	for len(m.above) > 0 && m.above[0] == m.low+1 {
		m.low++
		m.above = m.above[1:]
	}
	return f.Note, true, 0
}

// both is a link, and what the chapter's words make of the same calls.
type both struct {
	t *testing.T
	l *Link
	m *told
}

func newBoth(t *testing.T, me, peer, epoch int) *both {
	t.Helper()
	l, e := New(me, peer, epoch)
	if l == nil || e != api.OK {
		t.Fatalf("New of %d, %d, %d: %v, error %d", me, peer, epoch, l, int(e))
	}
	return &both{t, l, &told{me: me, peer: peer, epoch: epoch, next: 1}}
}

// copy is another link that goes on from where this one stands.
func (b *both) copy() *both {
	l := *b.l
	return &both{b.t, &l, b.m.copy()}
}

// String writes the link so that it can be read where a test fails, and told from others.
func (m *told) String() string {
	s := fmt.Sprintf("link %d to %d of %d: peer %d, next %d, taken %d %v, owes %v;", m.me, m.peer, m.epoch, m.known, m.next, m.low, m.above, m.owes)
	for _, x := range m.items {
		s += fmt.Sprintf(" %d due %d sent %d;", x.Seq, x.Due, x.Sent)
	}
	return s
}

func (b *both) String() string { return b.m.String() }

// hold holds what the link looks like, and what it has, against the chapter's words.
func (b *both) hold(what func() string) {
	b.t.Helper()
	l, m := b.l, b.m
	if l.Waiting() != len(m.items) || l.Peer() != m.known {
		b.t.Fatalf("%s: Waiting %d, Peer %d, want %v", what(), l.Waiting(), l.Peer(), b)
	}
	if !sameItems(l.box, m.items) || l.next != m.next || l.taken.Low != m.low || !slices.Equal(l.taken.Seen, m.above) || l.owes != m.owes {
		b.t.Fatalf("%s:\n%+v, want\n%v", what(), *l, b)
	}
	if l.me != m.me || l.peer != m.peer || l.epoch != m.epoch {
		b.t.Fatalf("%s: the link is another one: %+v, want %v", what(), *l, b)
	}
	for _, x := range m.items {
		if !l.Waits(again(x.Note)) {
			b.t.Fatalf("%s: %v doesn't wait, want %v", what(), x.Note, b)
		}
	}
}

func (b *both) send(now int, notes ...api.Note) api.Errno {
	b.t.Helper()
	was := b.m.copy()
	want, e := b.m.send(now, notes...), b.l.Send(now, notes...)
	what := func() string { return fmt.Sprintf("Send at %d of %.300v by %v", now, notes, was) }
	if e != want {
		b.t.Fatalf("%s: error %d, want %d", what(), int(e), int(want))
	}
	b.hold(what)
	return e
}

func (b *both) tick(now int) []api.Frame {
	b.t.Helper()
	was := b.m.copy()
	want, got := b.m.tick(now), b.l.Tick(now)
	what := func() string { return fmt.Sprintf("Tick at %d by %v", now, was) }
	if !sameFrames(got, want) {
		b.t.Fatalf("%s:\n%v, want\n%v", what(), got, want)
	}
	for _, f := range got {
		if !frameTold(f) {
			b.t.Fatalf("%s: a frame that may not be: %v", what(), f)
		}
	}
	b.hold(what)
	return got
}

func (b *both) take(f api.Frame, now int) (api.Note, bool, api.Errno) {
	b.t.Helper()
	was := b.m.copy()
	wantNote, wantFresh, want := b.m.take(f, now)
	n, fresh, e := b.l.Take(f, now)
	what := func() string { return fmt.Sprintf("Take at %d of %.300v by %v", now, f, was) }
	if !sameNotes(n, wantNote) || fresh != wantFresh || e != want {
		b.t.Fatalf("%s:\n%v, %v, error %d, want\n%v, %v, error %d", what(), n, fresh, int(e), wantNote, wantFresh, int(want))
	}
	b.hold(what)
	return n, fresh, e
}

// again is a note in other memory.
func again(n api.Note) api.Note {
	n.Id.Hops = append(make([]api.Hop, 0, 9), n.Id.Hops...)
	n.Def = strings.Clone(n.Def)
	return n
}

// around are the numbers next to others.
func around(l ...int) []int {
	var all []int
	for _, n := range l {
		all = append(all, n-1, n, n+1)
	}
	return all
}

// distinct are numbers without those that come again.
func distinct(l []int) []int {
	l = slices.Clone(l)
	slices.Sort(l)
	return slices.Compact(l)
}

// TestNew: P20.1, every two of the organisations' edges, every edge of the epochs.
func TestNew(t *testing.T) {
	orgs := []int{math.MinInt, -2, -1, 0, 1, 7, 14, 15, 16, 17, math.MaxInt}
	epochs := map[int]bool{math.MinInt: false, -1: false, 0: false, 1: true, 2: true, 77: true, billion - 1: true, billion: true, billion + 1: false, math.MaxInt: false}
	for _, me := range orgs {
		for _, peer := range orgs {
			for epoch, may := range epochs {
				may = may && me >= 0 && me <= 15 && peer >= 0 && peer <= 15 && me != peer
				l, e := New(me, peer, epoch)
				if may && (l == nil || e != api.OK) || !may && (l != nil || e != api.ErrArg) {
					t.Errorf("New of %d, %d, %d: %v, error %d", me, peer, epoch, l, int(e))
				}
			}
		}
	}
	for me := range 16 {
		for peer := range 16 {
			l, e := New(me, peer, 3)
			if (l != nil) != (me != peer) || (e == api.OK) != (me != peer) {
				t.Errorf("New of %d and %d: %v, error %d", me, peer, l, int(e))
			}
		}
	}
}

// TestNewLink: P20.1, P20.5, a link that was just made has nothing on its way, knows no peer, and owes nothing.
func TestNewLink(t *testing.T) {
	for _, ends := range [][3]int{{0, 1, 1}, {15, 0, billion}, {3, 9, 77}} {
		b := newBoth(t, ends[0], ends[1], ends[2])
		b.hold(func() string { return "New" })
		for _, now := range []int{0, 1, billion, -1, billion + 1} {
			if l := b.tick(now); len(l) > 0 {
				t.Errorf("a link of %v tells at %d: %v", ends, now, l)
			}
		}
		if b.l.Waiting() != 0 || b.l.Peer() != 0 || b.l.Waits(nth(ends[0], ends[1], 0)) || b.l.Waits(api.Note{}) {
			t.Errorf("a link of %v has something", ends)
		}
	}
	a, _ := New(0, 1, 5)
	b, _ := New(0, 1, 5)
	if a == b || a.Send(0, nth(0, 1, 0)) != api.OK || b.Waiting() != 0 {
		t.Error("two links are one")
	}
}

// TestLinksThatNoCallMade: P20.1, nil and a plain Link, whatever they are given.
func TestLinksThatNoCallMade(t *testing.T) {
	plain := &Link{}
	good := api.Frame{From: 0, To: 1, Epoch: 1, Seq: 1, Note: nth(0, 1, 0)}
	for range 2 {
		for _, l := range []*Link{nil, plain} {
			for _, now := range []int{math.MinInt, -1, 0, 1, billion, billion + 1, math.MaxInt} {
				for _, notes := range [][]api.Note{nil, {nth(0, 1, 0)}, {{}}, some(0, 1, 0, 14)} {
					if e := l.Send(now, notes...); e != api.ErrNil {
						t.Errorf("Send at %d: error %d", now, int(e))
					}
				}
				for _, f := range []api.Frame{good, {}, {From: 1, To: 0, Epoch: 1}, {From: 0, To: 0, Epoch: 0}, {Seq: 1}} {
					if n, fresh, e := l.Take(f, now); !sameNotes(n, api.Note{}) || fresh || e != api.ErrNil {
						t.Errorf("Take of %v at %d: %v, %v, error %d", f, now, n, fresh, int(e))
					}
				}
				if frames := l.Tick(now); len(frames) > 0 {
					t.Errorf("Tick at %d: %v", now, frames)
				}
			}
			if l.Waits(nth(0, 1, 0)) || l.Waits(api.Note{}) || l.Waiting() != 0 || l.Peer() != 0 {
				t.Error("it has something")
			}
		}
	}
}

// wrongNotes are notes that a link from 0 to 3 doesn't send: such that may not be, and such whose ends are others.
func wrongNotes() []api.Note {
	id := made(0, 7, 2, 3)
	wrong := []api.Note{
		{}, {Kind: 0, Id: id}, {Kind: -1, Id: id}, {Kind: 8, Id: id}, {Kind: math.MaxInt, Id: id}, {Kind: math.MinInt, Id: id},
		{Kind: 1, Id: id}, {Kind: 1, Id: id, Def: "Hotel"}, {Kind: 1, Id: id, Def: "4hotel"}, {Kind: 1, Id: id, Def: strings.Repeat("a", 17)}, {Kind: 1, Id: id, Def: "hotel", Why: 1},
		{Kind: 2, Id: id, Def: "hotel"}, {Kind: 3, Id: id, Why: 1}, {Kind: 4, Id: id, Why: -1},
		{Kind: 6, Id: made(3, 7, 2, 0)}, {Kind: 6, Id: made(3, 7, 2, 0), Why: 10}, {Kind: 6, Id: made(3, 7, 2, 0), Why: -1}, {Kind: 5, Id: made(3, 7, 2, 0), Def: "a"}, {Kind: 7, Id: made(3, 7, 2, 0), Why: 1},
		{Kind: 2, Id: api.Id{N: 7}}, {Kind: 2, Id: made(0, 0, 2, 3)}, {Kind: 2, Id: made(0, 1000000, 2, 3)}, {Kind: 2, Id: made(0, 7, 8, 3)}, {Kind: 2, Id: made(0, 7, -1, 3)},
		{Kind: 2, Id: made(0, 7, 2, 0)}, {Kind: 2, Id: made(16, 7, 2, 0, 2, 3)}, {Kind: 2, Id: made(3, 7, 2, 0, 2, 3)}, {Kind: 2, Id: made(4, 7, 1, 5, 1, 6, 1, 7, 1, 0, 1, 3)},
		{Kind: 2, Id: api.Id{N: 1, Hops: make([]api.Hop, 100000)}}, {Kind: 1, Id: id, Def: strings.Repeat("a", 1<<20)},
	}
	return append(wrong, otherWays()...)
}

// otherWays are notes that may be, but don't go from 0 to 3.
func otherWays() []api.Note {
	var l []api.Note
	for _, ends := range [][2]int{{3, 0}, {0, 1}, {1, 0}, {1, 3}, {3, 1}, {2, 1}, {0, 15}, {15, 3}} {
		l = append(l, some(ends[0], ends[1], 0, 28)...)
	}
	// Ids in which 0 and 3 stand, but not as the last two.
	for kind := 2; kind <= 4; kind++ {
		l = append(l, api.Note{Kind: kind, Id: made(0, 7, 2, 3, 2, 4)}, api.Note{Kind: kind, Id: made(0, 7, 2, 4, 2, 3)})
	}
	return append(l, api.Note{Kind: 5, Id: made(3, 7, 2, 0, 2, 4)}, api.Note{Kind: 7, Id: made(3, 7, 2, 4, 2, 0)})
}

// TestWrongNotes: the notes that the tests take for wrong are so by the words of chapter 13.
func TestWrongNotes(t *testing.T) {
	for _, n := range wrongNotes() {
		if goesTold(n, 0, 3) {
			t.Errorf("%.200v goes from 0 to 3", n)
		}
	}
	for _, n := range otherWays() {
		if !noteTold(n) {
			t.Errorf("%v may not be", n)
		}
	}
	for i := range 100 {
		for k := range i {
			if sameNotes(nth(0, 3, i), nth(0, 3, k)) {
				t.Errorf("the notes %d and %d are the same", k, i)
			}
		}
		if !goesTold(nth(0, 3, i), 0, 3) || !goesTold(nth(15, 14, i), 15, 14) {
			t.Errorf("the note %d doesn't go", i)
		}
	}
}

// TestSend: P20.2, P20.5, notes one by one and together, each kind, each number of them.
func TestSend(t *testing.T) {
	for count := range room + 1 {
		b, c := newBoth(t, 0, 3, 7), newBoth(t, 0, 3, 7)
		notes := some(0, 3, 0, count)
		if e := b.send(5, notes...); e != api.OK {
			t.Fatalf("Send of %d notes: error %d", count, int(e))
		}
		for _, n := range notes {
			c.send(5, n)
		}
		if b.String() != c.String() || b.l.Waiting() != count {
			t.Fatalf("together %v, one by one %v", b, c)
		}
		for i := range 20 {
			if got := b.l.Waits(again(nth(0, 3, i))); got != (i < count) {
				t.Errorf("of %d notes the %dth waits: %v", count, i, got)
			}
		}
		for _, n := range wrongNotes() {
			if b.l.Waits(n) {
				t.Errorf("%.200v waits", n)
			}
		}
		frames := b.tick(5)
		if len(frames) != count {
			t.Fatalf("of %d notes %v", count, frames)
		}
		for i, f := range frames {
			if want := (api.Frame{From: 0, To: 3, Epoch: 7, Seq: i + 1, Note: notes[i]}); !sameFrames([]api.Frame{f}, []api.Frame{want}) {
				t.Errorf("the note %d goes as %v", i, f)
			}
		}
	}
}

// TestSendOfWrongNotes: P20.2, one note that is refused, at the first place, in the middle and at the end; nothing is sent then.
func TestSendOfWrongNotes(t *testing.T) {
	for _, bad := range wrongNotes() {
		for _, there := range []int{0, 1, 12} {
			b := newBoth(t, 0, 3, 7)
			b.send(5, some(0, 3, 0, there)...)
			was := b.String()
			a, c := nth(0, 3, 20), nth(0, 3, 21)
			for _, notes := range [][]api.Note{{bad}, {bad, a, c}, {a, bad, c}, {a, c, bad}, {bad, bad}, {nth(0, 3, 0), bad}, append(some(0, 3, 0, 14), bad)} {
				// ErrNote is named ahead of what Push answers: no time, and no room.
				for _, now := range []int{5, -1, billion + 1} {
					if e := b.send(now, notes...); e != api.ErrNote {
						t.Fatalf("Send of %.300v: error %d", notes, int(e))
					}
				}
			}
			if b.String() != was || b.l.Waits(a) || b.l.Waits(c) {
				t.Fatalf("behind Send of %.200v: %v, but was %s", bad, b, was)
			}
			if f := b.tick(4); len(f) > 0 {
				t.Fatalf("behind Send of %.200v: %v", bad, f)
			}
		}
	}
}

// TestSendOfOneThatIsThere: P20.2, nothing comes of it, whether it is on its way already or comes twice in the same call.
func TestSendOfOneThatIsThere(t *testing.T) {
	a, c, d := nth(0, 3, 0), nth(0, 3, 1), nth(0, 3, 2)
	for _, row := range []struct {
		notes []api.Note
		count int
		next  int
	}{
		{[]api.Note{a, again(a)}, 1, 2}, {[]api.Note{a, c, again(a), again(c)}, 2, 3}, {[]api.Note{a, again(a), c}, 2, 3}, {[]api.Note{a, c, again(a), d, again(c)}, 3, 4},
	} {
		b := newBoth(t, 0, 3, 7)
		for range 3 {
			if e := b.send(5, row.notes...); e != api.OK || b.l.Waiting() != row.count {
				t.Errorf("Send of %v: error %d, %v", row.notes, int(e), b)
			}
		}
		b.tick(5)
		b.send(6, row.notes...)
		b.send(6, nth(0, 3, 9))
		if f := b.tick(6); len(f) != 1 || f[0].Seq != row.next || !sameNotes(f[0].Note, nth(0, 3, 9)) {
			t.Errorf("behind Send of %v: %v", row.notes, f)
		}
	}
}

// TestSendToTheFull: P20.2, 12 notes on their way, and a 13th; a note that is there is no 13th.
func TestSendToTheFull(t *testing.T) {
	for there := range room + 1 {
		b := newBoth(t, 0, 3, 7)
		b.send(5, some(0, 3, 0, there)...)
		was := b.String()
		if e := b.send(5, some(0, 3, there, room+1)...); e != api.ErrOutbox || b.String() != was {
			t.Errorf("%d there, too many more: error %d, %v", there, int(e), b)
		}
		if e := b.send(5, some(0, 3, 0, room+1)...); e != api.ErrOutbox || b.String() != was {
			t.Errorf("%d there, 13 in all: error %d, %v", there, int(e), b)
		}
		if e := b.send(5, append(some(0, 3, 0, room), some(0, 3, 0, room)...)...); e != api.OK || b.l.Waiting() != room {
			t.Errorf("%d there, 12 in all: error %d, %v", there, int(e), b)
		}
		if e := b.send(-1, nth(0, 3, 12)); e != api.ErrArg {
			t.Errorf("no time, and a 13th: error %d", int(e))
		}
		if e := b.send(5, nth(0, 3, 12)); e != api.ErrOutbox || b.l.Waits(nth(0, 3, 12)) {
			t.Errorf("a 13th: error %d", int(e))
		}
		b.take(api.Frame{From: 3, To: 0, Epoch: 2, AckEpoch: 7, Ack: 1}, 6)
		if e := b.send(5, nth(0, 3, 12)); e != api.OK || b.l.Waiting() != room {
			t.Errorf("a 13th, once one was answered: error %d", int(e))
		}
		if f := b.tick(6); len(f) != room || f[room-1].Seq != 13 {
			t.Errorf("twelve from 2 on: %v", f)
		}
	}
}

// TestSendAtEdgesOfTime: P20.2, at -1, 0, 1000000000 and 1000000001, with notes and with none.
func TestSendAtEdgesOfTime(t *testing.T) {
	for now, want := range map[int]api.Errno{math.MinInt: 2, -1: 2, 0: 0, 1: 0, billion - 1: 0, billion: 0, billion + 1: 2, math.MaxInt: 2} {
		for _, notes := range [][]api.Note{nil, {nth(0, 3, 0)}, {nth(0, 3, 7)}, some(0, 3, 0, 12)} {
			b := newBoth(t, 0, 3, 7)
			b.send(3, nth(0, 3, 7))
			was := b.String()
			if e := b.send(now, notes...); e != want {
				t.Errorf("Send of %d notes at %d: error %d", len(notes), now, int(e))
			}
			if want != api.OK && b.String() != was || len(notes) == 0 && b.String() != was {
				t.Errorf("behind Send of %d notes at %d: %v", len(notes), now, b)
			}
		}
	}
}

// atNumber is a link whose next number is that, with so many items ahead of it.
func atNumber(t *testing.T, next, count int) *both {
	t.Helper()
	b := newBoth(t, 0, 3, 7)
	b.take(api.Frame{From: 3, To: 0, Epoch: 2, AckEpoch: 7}, 0)
	b.l.next, b.m.next = next-count, next-count
	b.send(0, some(0, 3, 40, 40+count)...)
	return b
}

// TestSendAtTheLastNumber: P20.2, the number 1000000000 is the last one, and no note comes behind it.
func TestSendAtTheLastNumber(t *testing.T) {
	for count := range 4 {
		for _, left := range []int{0, 1, 2, 3} {
			b := atNumber(t, billion+1-left, count)
			was := b.String()
			if e := b.send(0, some(0, 3, 0, left+1)...); e != api.ErrWindow || b.String() != was {
				t.Errorf("%d there, %d numbers left, one more: error %d, %v", count, left, int(e), b)
			}
			if e := b.send(0, some(0, 3, 40, 40+count)...); e != api.OK || b.String() != was {
				t.Errorf("%d there, %d numbers left, the same: error %d, %v", count, left, int(e), b)
			}
			if e := b.send(0, some(0, 3, 0, left)...); e != api.OK || b.l.Waiting() != count+left {
				t.Errorf("%d there, %d numbers left, all of them: error %d, %v", count, left, int(e), b)
			}
			if e := b.send(0, nth(0, 3, 9)); e != api.ErrWindow {
				t.Errorf("%d there, no number left: error %d", count, int(e))
			}
			frames := b.tick(0)
			for i, f := range frames {
				if f.Seq != billion+1-len(frames)+i {
					t.Errorf("the numbers of %v", frames)
				}
			}
			b.take(api.Frame{From: 3, To: 0, Epoch: 2, AckEpoch: 7, Ack: billion}, 0)
			if e := b.send(0, nth(0, 3, 9)); e != api.ErrWindow || b.l.Waiting() != 0 {
				t.Errorf("all answered, no number left: error %d", int(e))
			}
			if e := b.send(0); e != api.OK {
				t.Errorf("no note: error %d", int(e))
			}
			// A new session begins at 1 again.
			b.take(api.Frame{From: 3, To: 0, Epoch: 3, AckEpoch: 7}, 0)
			if e := b.send(0, nth(0, 3, 9)); e != api.OK {
				t.Errorf("a new session: error %d", int(e))
			}
			if f := b.tick(0); len(f) != 1 || f[0].Seq != 1 || f[0].AckEpoch != 3 {
				t.Errorf("a new session: %v", f)
			}
		}
	}
	b := atNumber(t, billion+1, 12)
	if e := b.send(0, nth(0, 3, 9)); e != api.ErrOutbox {
		t.Errorf("no room, and no number: error %d", int(e))
	}
}

// TestNumbersGoOn: P20.2, the next number stands behind all that was sent, also where all is answered.
func TestNumbersGoOn(t *testing.T) {
	b := newBoth(t, 0, 3, 7)
	answer := func(ack int) { b.take(api.Frame{From: 3, To: 0, Epoch: 2, AckEpoch: 7, Ack: ack}, 9) }
	answer(0)
	for i := range 40 {
		b.send(9, nth(0, 3, i))
		if f := b.tick(9); len(f) != 1 || f[0].Seq != i+1 {
			t.Fatalf("the note %d: %v", i, f)
		}
		if i%3 == 2 {
			answer(i + 1)
		}
	}
	answer(billion)
	b.send(9, nth(0, 3, 5))
	if f := b.tick(9); len(f) != 1 || f[0].Seq != 41 {
		t.Errorf("a note that was answered, and comes again: %v", f)
	}
}

// TestTickAtEdgesOfTime: P20.3, none at what is no time, and then all that is due is so still, and what is owed too.
func TestTickAtEdgesOfTime(t *testing.T) {
	for _, bad := range []int{math.MinInt, -1, billion + 1, billion + 8, billion + 16, math.MaxInt} {
		b := newBoth(t, 0, 3, 7)
		b.send(0, nth(0, 3, 0))
		b.take(api.Frame{From: 3, To: 0, Epoch: 2}, 0)
		if f := b.tick(bad); len(f) > 0 || !b.l.owes {
			t.Errorf("Tick at %d: %v", bad, f)
		}
		if f := b.tick(0); len(f) != 1 || f[0].Seq != 1 {
			t.Errorf("Tick at 0: %v", f)
		}
		b = newBoth(t, 0, 3, 7)
		b.take(api.Frame{From: 3, To: 0, Epoch: 2}, 0)
		b.tick(bad)
		if f := b.tick(0); len(f) != 1 || f[0].Seq != 0 {
			t.Errorf("an owed frame, behind Tick at %d: %v", bad, f)
		}
	}
	for _, now := range []int{0, 1, billion - 1, billion} {
		b := newBoth(t, 0, 3, 7)
		b.send(now, nth(0, 3, 0))
		if f := b.tick(now); len(f) != 1 {
			t.Errorf("Tick at %d: %v", now, f)
		}
	}
}

// TestTickTimes: P20.3, a note that is never answered is due at 0, 2, 6, 14, 22 and so on, and between not.
func TestTickTimes(t *testing.T) {
	for _, start := range []int{0, 1, 50, billion - 100} {
		b := newBoth(t, 0, 3, 7)
		b.send(start, nth(0, 3, 0))
		var times []int
		for after := range 101 {
			if start+after <= billion && len(b.tick(start+after)) > 0 {
				times = append(times, after)
			}
		}
		if !slices.Equal(times, []int{0, 2, 6, 14, 22, 30, 38, 46, 54, 62, 70, 78, 86, 94}) {
			t.Errorf("sent at %d, due behind it at %v", start, times)
		}
	}
	b := newBoth(t, 0, 3, 7)
	b.send(9, nth(0, 3, 0))
	if f := b.tick(8); len(f) > 0 {
		t.Errorf("ahead of its time: %v", f)
	}
}

// TestTickOwes: P20.3, what is owed goes with each item that is due, or else alone; then nothing is owed.
func TestTickOwes(t *testing.T) {
	for _, due := range []int{0, 1, 2, 12} {
		for _, later := range []int{0, 1} {
			for _, owes := range []bool{false, true} {
				if due+later > room {
					continue
				}
				b := newBoth(t, 0, 3, 7)
				b.take(api.Frame{From: 3, To: 0, Epoch: 2, AckEpoch: 7}, 0)
				b.send(9, some(0, 3, 20, 20+later)...)
				b.send(5, some(0, 3, 0, due)...)
				if owes {
					b.take(api.Frame{From: 3, To: 0, Epoch: 2, AckEpoch: 7, Seq: 1, Note: nth(3, 0, 0)}, 4)
				}
				holdOwed(t, b, due, owes)
			}
		}
	}
}

// holdOwed sees that a link tells so many items at 5, and what it owes in them or alone, and then nothing.
func holdOwed(t *testing.T, b *both, due int, owes bool) {
	t.Helper()
	was, ack, count := b.String(), 0, due
	if owes {
		ack, count = 1, max(due, 1)
	}
	frames := b.tick(5)
	if len(frames) != count {
		t.Fatalf("Tick of %s: %v", was, frames)
	}
	for _, f := range frames {
		if f.From != 0 || f.To != 3 || f.Epoch != 7 || f.AckEpoch != 2 || f.Ack != ack || (f.Seq == 0) != (due == 0) {
			t.Errorf("Tick of %s: %v", was, frames)
		}
		if f.Seq == 0 && !sameNotes(f.Note, api.Note{}) {
			t.Errorf("Tick of %s: a note that has no number: %v", was, f)
		}
	}
	for range 2 {
		if f := b.tick(5); len(f) > 0 {
			t.Errorf("then Tick of %v: %v", b, f)
		}
	}
}

// TestTakeOwes: P20.4, which frames make the link owe one.
func TestTakeOwes(t *testing.T) {
	frame := func(epoch, seq, ackEpoch int) api.Frame {
		f := api.Frame{From: 3, To: 0, Epoch: epoch, Seq: seq, AckEpoch: ackEpoch}
		if seq > 0 {
			f.Note = nth(3, 0, seq)
		}
		return f
	}
	for _, row := range []struct {
		f    api.Frame
		e    api.Errno
		owes bool
	}{
		{frame(9, 0, 7), 0, false}, {frame(9, 3, 7), 0, true}, {frame(9, 4, 7), 0, true}, {frame(9, 2, 7), 0, true}, {frame(9, 18, 7), 0, true}, {frame(9, 19, 7), 180, true},
		{frame(9, 0, 0), 200, true}, {frame(9, 0, 6), 200, true}, {frame(9, 0, 8), 200, true}, {frame(9, 3, 6), 200, true}, {frame(9, 2, 8), 200, true},
		{frame(8, 0, 7), 200, false}, {frame(8, 3, 7), 200, false}, {frame(8, 3, 0), 200, false}, {frame(8, 0, 9), 200, false},
		{frame(10, 0, 7), 0, false}, {frame(10, 1, 7), 0, true}, {frame(10, 17, 7), 180, true}, {frame(10, 0, 6), 200, true}, {frame(10, 5, 0), 200, true},
		{api.Frame{From: 3, To: 0, Epoch: 9, Seq: 3, AckEpoch: 7}, 130, false}, {api.Frame{From: 3, To: 1, Epoch: 10}, 130, false},
	} {
		b := newBoth(t, 0, 3, 7)
		b.take(frame(9, 1, 7), 0)
		b.take(frame(9, 2, 7), 0)
		b.tick(0)
		if _, _, e := b.take(row.f, 1); e != row.e {
			t.Errorf("Take of %v: error %d", row.f, int(e))
		}
		if f := b.tick(1); (len(f) == 1) != row.owes {
			t.Errorf("behind Take of %v: %v", row.f, f)
		}
	}
}

// TestTakeAnswers: P20.4, P20.5, what has a Seq of at most Ack is on its way no more, all else is.
func TestTakeAnswers(t *testing.T) {
	for ack := range 20 {
		for _, seq := range []int{0, 1, 2, 3, 18, 19, billion} {
			b := newBoth(t, 0, 3, 7)
			f := api.Frame{From: 3, To: 0, Epoch: 2, AckEpoch: 7}
			b.take(f, 0)
			b.send(0, some(0, 3, 0, 5)...)
			f.Ack = 5
			b.take(f, 0)
			b.send(0, some(0, 3, 5, 14)...) // the numbers 6 to 14
			if f.Seq, f.Ack = seq, ack; seq > 0 {
				f.Note = nth(3, 0, 2)
			}
			b.take(f, 0)
			for i := range 14 {
				if got := b.l.Waits(nth(0, 3, i)); got != (i+1 > max(ack, 5)) {
					t.Errorf("Ack %d with Seq %d: the number %d waits: %v", ack, seq, i+1, got)
				}
			}
			if want := max(0, 14-max(ack, 5)); b.l.Waiting() != want {
				t.Errorf("Ack %d with Seq %d: %d wait", ack, seq, b.l.Waiting())
			}
		}
	}
}

// TestTakeAnswersNothing: P20.4, a frame of another life answers nothing, whatever its Ack is.
func TestTakeAnswersNothing(t *testing.T) {
	for _, f := range []api.Frame{
		{From: 3, To: 0, Epoch: 2, AckEpoch: 6}, {From: 3, To: 0, Epoch: 2, AckEpoch: 8}, {From: 3, To: 0, Epoch: 2}, {From: 3, To: 0, Epoch: 1, AckEpoch: 7},
		{From: 3, To: 0, Epoch: 3, AckEpoch: 6}, {From: 3, To: 0, Epoch: 3, AckEpoch: billion},
	} {
		b := newBoth(t, 0, 3, 7)
		b.take(api.Frame{From: 3, To: 0, Epoch: 2, AckEpoch: 7}, 0)
		b.send(0, some(0, 3, 0, 3)...)
		for _, ack := range []int{0, 1, 3, 4, billion} {
			f.Ack = ack
			if _, _, e := b.take(f, 0); e != api.ErrEpoch && e != api.OK || b.l.Waiting() != 3 {
				t.Errorf("Take of %v: error %d, %v", f, int(e), b)
			}
		}
	}
}

// TestTakeWindow: P20.4, P20.6, each number from 1 up to 16 above Low is fresh once, one above is too far ahead.
func TestTakeWindow(t *testing.T) {
	for low := range 4 {
		for seq := 1; seq <= low+width+2; seq++ {
			b := newBoth(t, 0, 3, 7)
			f := api.Frame{From: 3, To: 0, Epoch: 2, AckEpoch: 7}
			for i := 1; i <= low; i++ {
				f.Seq, f.Note = i, nth(3, 0, i)
				b.take(f, 0)
			}
			f.Seq, f.Note = seq, nth(3, 0, seq)
			for turn := range 3 {
				n, fresh, e := b.take(f, turn)
				wantFresh, want := turn == 0 && seq > low && seq <= low+width, api.OK
				if seq > low+width {
					want = api.ErrWindow
				}
				if fresh != wantFresh || e != want || sameNotes(n, nth(3, 0, seq)) != wantFresh {
					t.Errorf("low %d, number %d, turn %d: %v, %v, error %d", low, seq, turn, n, fresh, int(e))
				}
			}
			ack := low
			if seq == low+1 {
				ack++
			}
			if l := b.tick(9); len(l) != 1 || l[0].Ack != ack || l[0].AckEpoch != 2 || l[0].Seq != 0 {
				t.Errorf("low %d, number %d: %v", low, seq, l)
			}
		}
	}
}

// TestTakeAtTheLastNumber: P20.4, where the peer's numbers come to their end.
func TestTakeAtTheLastNumber(t *testing.T) {
	for _, low := range []int{billion - 17, billion - 16, billion - 15, billion - 1, billion} {
		for _, seq := range distinct(append(around(low, low+width), billion-1, billion)) {
			b := newBoth(t, 0, 3, 7)
			b.take(api.Frame{From: 3, To: 0, Epoch: 2, AckEpoch: 7}, 0)
			b.l.taken.Low, b.m.low = low, low
			for range 2 {
				b.take(api.Frame{From: 3, To: 0, Epoch: 2, AckEpoch: 7, Seq: seq, Note: nth(3, 0, 1)}, 0)
			}
			b.tick(0)
		}
	}
}

// TestTakeNewLife: P20.4, behind a greater epoch all on the way is numbered anew and due, and the window is empty.
func TestTakeNewLife(t *testing.T) {
	for _, epoch := range []int{3, 4, 99, billion} {
		for _, ackEpoch := range []int{0, 6, 7, 8} {
			for count := range room + 1 {
				b := lived(t, count)
				f := api.Frame{From: 3, To: 0, Epoch: epoch, AckEpoch: ackEpoch}
				_, fresh, e := b.take(f, 6)
				if fresh || (e == api.OK) != (ackEpoch == 7) || b.l.Peer() != epoch || b.l.Waiting() != count {
					t.Fatalf("Take of %v: %v, error %d, %v", f, fresh, int(e), b)
				}
				frames := b.copy().tick(6)
				if count > 0 && len(frames) != count {
					t.Fatalf("behind Take of %v: %v", f, frames)
				}
				for i, g := range frames {
					if count > 0 && g.Seq != i+1 || g.Ack != 0 || g.AckEpoch != epoch {
						t.Fatalf("behind Take of %v: %v", f, frames)
					}
				}
				if e := b.send(6, nth(0, 3, 90)); count < room && (e != api.OK || b.l.box[count].Seq != count+1) {
					t.Fatalf("behind Take of %v: error %d, %v", f, int(e), b)
				}
				for seq := 1; seq <= width; seq++ {
					if _, fresh, _ := b.copy().take(api.Frame{From: 3, To: 0, Epoch: epoch, AckEpoch: 7, Seq: seq, Note: nth(3, 0, 1)}, 6); !fresh {
						t.Fatalf("behind Take of %v: the number %d was taken", f, seq)
					}
				}
				if _, _, e := b.take(api.Frame{From: 3, To: 0, Epoch: 2, AckEpoch: 7, Seq: 7, Note: nth(3, 0, 1)}, 6); e != api.ErrEpoch {
					t.Fatalf("a late frame of an earlier life: error %d", int(e))
				}
			}
		}
	}
}

// lived is a link 0 to 3 of 7 that knows 2, has so many notes on their way, the first of which has the number 4, and has taken 1, 2, 4 and 6.
func lived(t *testing.T, count int) *both {
	t.Helper()
	b := newBoth(t, 0, 3, 7)
	b.take(api.Frame{From: 3, To: 0, Epoch: 2, AckEpoch: 7}, 0)
	b.send(0, some(0, 3, 50, 53)...)
	b.tick(0)
	for i, seq := range []int{1, 2, 4, 6} {
		b.take(api.Frame{From: 3, To: 0, Epoch: 2, AckEpoch: 7, Ack: 3, Seq: seq, Note: nth(3, 0, i)}, 1)
	}
	for i := range count {
		b.send(i%3, nth(0, 3, i))
	}
	b.tick(2)
	return b
}

// stands are links that stand in all kinds of ways.
func stands(t *testing.T) []*both {
	t.Helper()
	all := []*both{newBoth(t, 0, 3, 7), lived(t, 0), lived(t, 1), lived(t, 12), newBoth(t, 0, 3, 1), newBoth(t, 0, 3, billion)}
	unknown := newBoth(t, 0, 3, 7)
	unknown.send(4, some(0, 3, 0, 3)...)
	owing := lived(t, 2)
	owing.take(api.Frame{From: 3, To: 0, Epoch: 2, AckEpoch: 7, Ack: 4, Seq: 3, Note: nth(3, 0, 9)}, 2)
	first := newBoth(t, 0, 3, 7)
	first.take(api.Frame{From: 3, To: 0, Epoch: 1, AckEpoch: 6}, 2)
	last := newBoth(t, 0, 3, 7)
	last.take(api.Frame{From: 3, To: 0, Epoch: billion, AckEpoch: 7, Seq: 2, Note: nth(3, 0, 9)}, 2)
	last.l.taken.Low, last.m.low = billion-9, billion-9
	last.l.taken.Seen, last.m.above = []int{billion - 3}, []int{billion - 3}
	return append(all, unknown, owing, first, last, atNumber(t, billion+1, 3), atNumber(t, billion+1, 0))
}

// framesTo are frames at all edges of a link's numbers.
func framesTo(m *told, orgs, notes bool) []api.Frame {
	epochs := distinct(append(around(m.known), 0, 1, billion, billion+1))
	acks := distinct(append(around(m.epoch), -1, 0, 1, billion, billion+1))
	seqs := distinct(append(around(m.low, m.low+1+width), -1, 0, 1, billion, billion+1))
	lows := []int{-1, 0, 1, billion, billion + 1}
	for _, x := range m.items {
		lows = append(lows, around(x.Seq)...)
	}
	for _, n := range m.above {
		seqs = append(seqs, n)
	}
	ends := [][2]int{{m.peer, m.me}}
	if orgs {
		ends = append(ends, [2]int{m.me, m.peer}, [2]int{m.peer, 9}, [2]int{9, m.me}, [2]int{m.me, m.me}, [2]int{m.peer, m.peer}, [2]int{16, m.me}, [2]int{m.peer, -1}, [2]int{-1, 16})
	}
	carried := []api.Note{nth(m.peer, m.me, 8), {}}
	if notes {
		carried = append(carried, nth(m.me, m.peer, 8), nth(m.peer, 9, 8), nth(9, m.me, 8), api.Note{Kind: 8, Id: made(m.peer, 1, 0, m.me)}, api.Note{Id: api.Id{Hops: []api.Hop{}}})
	}
	var all []api.Frame
	for _, end := range ends {
		for _, epoch := range epochs {
			for _, ackEpoch := range acks {
				for _, seq := range distinct(seqs) {
					for _, low := range distinct(lows) {
						for _, n := range carried {
							all = append(all, api.Frame{From: end[0], To: end[1], Epoch: epoch, Seq: seq, AckEpoch: ackEpoch, Ack: low, Note: n})
						}
					}
				}
			}
		}
	}
	return all
}

// TestTakeAtEdges: P20.4, every frame at the edges of a link's numbers, and what the link tells then.
func TestTakeAtEdges(t *testing.T) {
	for i, b := range stands(t) {
		for k, f := range framesTo(b.m, false, false) {
			c := b.copy()
			c.take(f, 5)
			if (i+k)%5 == 0 {
				c.tick(5)
				c.take(f, 5)
				c.send(6, nth(0, 3, 90), nth(0, 3, 0))
				c.tick(9)
			}
		}
	}
}

// TestTakeOfWrongFrames: P20.4, frames that may not be, are of another one or for another one; what is no time; in their order, and nothing is changed.
func TestTakeOfWrongFrames(t *testing.T) {
	for _, b := range []*both{newBoth(t, 0, 3, 7), lived(t, 3)} {
		was := b.m.copy()
		for i, f := range framesTo(b.m, true, true) {
			wrong := !frameTold(f) || f.From != 3 || f.To != 0
			if i%5 == 0 {
				for _, now := range []int{math.MinInt, -1, billion + 1, math.MaxInt} {
					if _, _, e := b.take(f, now); wrong && e != api.ErrNote || !wrong && e != api.ErrArg {
						t.Fatalf("Take of %v at %d: error %d", f, now, int(e))
					}
				}
			}
			if wrong {
				if _, _, e := b.take(f, 5); e != api.ErrNote {
					t.Fatalf("Take of %v: error %d", f, int(e))
				}
			}
			if !b.m.is(was) {
				t.Fatalf("Take of %v changed %v to %v", f, was, b)
			}
		}
	}
}

// TestTakeAtEdgesOfTime: P20.4, at -1, 0, 1000000000 and 1000000001.
func TestTakeAtEdgesOfTime(t *testing.T) {
	for now, want := range map[int]api.Errno{math.MinInt: 2, -1: 2, 0: 0, 1: 0, billion - 1: 0, billion: 0, billion + 1: 2, math.MaxInt: 2} {
		b := lived(t, 3)
		if _, fresh, e := b.take(api.Frame{From: 3, To: 0, Epoch: 9, AckEpoch: 7, Seq: 1, Note: nth(3, 0, 0)}, now); e != want || fresh != (want == api.OK) {
			t.Errorf("Take at %d: %v, error %d", now, fresh, int(e))
		}
		if want == api.OK && (b.l.box[0].Due != now || len(b.tick(now)) != 3) {
			t.Errorf("Take at %d: %v", now, b)
		}
	}
}

// TestExample: example 1, and P20.3: the first frame is of no known life, its answer tells one, and then the note comes through.
func TestExample(t *testing.T) {
	a, b := newBoth(t, 0, 3, 7), newBoth(t, 3, 0, 9)
	a.send(0, nth(0, 3, 0))
	first := a.tick(0)
	if len(first) != 1 || !sameFrames(first, []api.Frame{{From: 0, To: 3, Epoch: 7, Seq: 1, Note: nth(0, 3, 0)}}) {
		t.Fatal(first)
	}
	if n, fresh, e := b.take(first[0], 0); fresh || e != api.ErrEpoch || !sameNotes(n, api.Note{}) || b.l.Peer() != 7 {
		t.Fatal(n, fresh, int(e))
	}
	answer := b.tick(0)
	if !sameFrames(answer, []api.Frame{{From: 3, To: 0, Epoch: 9, AckEpoch: 7}}) {
		t.Fatal(answer)
	}
	if n, fresh, e := a.take(answer[0], 1); fresh || e != api.OK || !sameNotes(n, api.Note{}) || a.l.Peer() != 9 || a.l.Waiting() != 1 {
		t.Fatal(n, fresh, int(e))
	}
	second := a.tick(1)
	if !sameFrames(second, []api.Frame{{From: 0, To: 3, Epoch: 7, Seq: 1, AckEpoch: 9, Note: nth(0, 3, 0)}}) {
		t.Fatal(second)
	}
	if n, fresh, e := b.take(second[0], 1); !fresh || e != api.OK || !sameNotes(n, nth(0, 3, 0)) {
		t.Fatal(n, fresh, int(e))
	}
	last := b.tick(1)
	if !sameFrames(last, []api.Frame{{From: 3, To: 0, Epoch: 9, AckEpoch: 7, Ack: 1}}) {
		t.Fatal(last)
	}
	if _, _, e := a.take(last[0], 2); e != api.OK || a.l.Waiting() != 0 || len(a.tick(2))+len(b.tick(2)) > 0 {
		t.Fatal(int(e), a)
	}
}

// chance is a number that is mostly next to another one, at times an edge.
func chance(r *rand.Rand, near int) int {
	if r.Intn(12) == 0 {
		return []int{-1, 0, 1, billion, billion + 1, math.MaxInt, math.MinInt}[r.Intn(7)]
	}
	return near + r.Intn(5) - 2
}

// TestCallsByChance: P20.2 to P20.5, long rows of calls on one link, with frames near to what it has.
func TestCallsByChance(t *testing.T) {
	r := rand.New(rand.NewSource(20))
	wrong := wrongNotes()
	for range 400 {
		b := newBoth(t, 0, 3, []int{1, 2, 7, billion}[r.Intn(4)])
		now := 0
		for range 150 {
			switch r.Intn(5) {
			case 0:
				var notes []api.Note
				for range r.Intn(5) {
					if notes = append(notes, nth(0, 3, r.Intn(30))); r.Intn(30) == 0 {
						notes = append(notes, wrong[r.Intn(len(wrong))])
					}
				}
				b.send(chance(r, now+2), notes...)
			case 1:
				b.tick(now)
				now += r.Intn(3)
			default:
				f := api.Frame{From: 3, To: 0, Epoch: b.m.known, AckEpoch: b.m.epoch, Seq: max(0, b.m.low+r.Intn(20)-1), Ack: max(0, b.m.next-r.Intn(14))}
				if f.Note = nth(3, 0, r.Intn(30)); r.Intn(4) == 0 {
					f.Seq, f.Note = 0, api.Note{}
				}
				if r.Intn(6) == 0 {
					f.Epoch = chance(r, f.Epoch)
				}
				if r.Intn(6) == 0 {
					f.AckEpoch = chance(r, f.AckEpoch)
				}
				b.take(f, now)
			}
		}
	}
}
