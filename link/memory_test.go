package link

import (
	"fmt"
	"math/rand"
	"reflect"
	"slices"
	"strings"
	"testing"
	"unsafe"

	"entente/api"
)

// memory is a stretch of memory, and what has it.
type memory struct {
	from, behind uintptr
	what         string
}

// stretch is the memory of a list, its spare room too.
func stretch[T any](l []T, what string) memory {
	var one T
	from := uintptr(unsafe.Pointer(unsafe.SliceData(l)))
	return memory{from, from + uintptr(cap(l))*unsafe.Sizeof(one), what}
}

func textStretch(s, what string) memory {
	return stretch(unsafe.Slice(unsafe.StringData(s), len(s)), what)
}

func noteMemory(what string, n api.Note) []memory {
	return []memory{stretch(n.Id.Hops, what+", hops"), textStretch(n.Def, what+", name")}
}

func framesMemory(what string, l []api.Frame) []memory {
	all := []memory{stretch(l, what)}
	for i, f := range l {
		all = append(all, noteMemory(fmt.Sprintf("%s, frame %d", what, i), f.Note)...)
	}
	return all
}

// linkMemory is what a link keeps.
func linkMemory(l *Link) []memory {
	all := []memory{stretch(l.box, "the link's items"), stretch(l.taken.Seen, "the link's window")}
	for _, x := range l.box {
		all = append(all, noteMemory(fmt.Sprintf("the link's item %d", x.Seq), x.Note)...)
	}
	return all
}

// holdApart sees that no stretch of new memory lies within another one, new or old.
func holdApart(t *testing.T, old, new []memory) {
	t.Helper()
	for i, a := range new {
		for _, b := range slices.Concat(old, new[i+1:]) {
			if a.from != a.behind && b.from != b.behind && a.from < b.behind && b.from < a.behind {
				t.Fatalf("%s shares memory with %s", a.what, b.what)
			}
		}
	}
}

// stock is notes in a greater list, all their hops in one, with spare room everywhere, and names that no one else has.
type stock struct {
	list  []api.Note
	hops  []api.Hop
	notes []api.Note
}

func newStock(notes ...api.Note) *stock {
	s := &stock{hops: make([]api.Hop, 0, 200), list: []api.Note{{Kind: 96}}}
	for _, n := range notes {
		s.hops = append(s.hops, api.Hop{Step: 91, Org: 91})
		from := len(s.hops)
		s.hops = append(s.hops, n.Id.Hops...)
		n.Id.Hops = s.hops[from:len(s.hops)]
		s.hops = append(s.hops, api.Hop{Step: 92, Org: 92})
		n.Def = strings.Clone(n.Def)
		s.list = append(s.list, n)
	}
	s.list = append(s.list, api.Note{Kind: 97}, api.Note{Kind: 98})
	s.notes = s.list[1 : len(notes)+1]
	return s
}

// all is a copy of all that a stock has, its spare room too.
func (s *stock) all() [2]any {
	list := slices.Clone(s.list)
	for i := range list {
		list[i] = again(list[i])
	}
	return [2]any{list, slices.Clone(s.hops[:cap(s.hops)])}
}

func (s *stock) memory() []memory {
	all := []memory{stretch(s.list, "the notes handed in"), stretch(s.hops, "their hops")}
	for _, n := range s.notes {
		all = append(all, textStretch(n.Def, "a name handed in"))
	}
	return all
}

// spoil changes all that a stock has.
func (s *stock) spoil() {
	for i := range s.hops[:cap(s.hops)] {
		s.hops[:cap(s.hops)][i] = api.Hop{Step: -5, Org: -6}
	}
	for i := range s.list {
		s.list[i] = api.Note{Kind: -8}
	}
}

// spoilNote changes all of a note's memory, its spare room too.
func spoilNote(n api.Note) {
	hops := n.Id.Hops[:cap(n.Id.Hops)]
	for i := range hops {
		hops[i] = api.Hop{Step: -1, Org: -2}
	}
}

func spoilFrames(l []api.Frame) {
	for i := range l[:cap(l)] {
		spoilNote(l[:cap(l)][i].Note)
		l[:cap(l)][i] = api.Frame{Seq: -3}
	}
}

// TestSendKeepsNothing: rule 4, notes that are handed in are not changed, and not kept, whether they are sent, there already, or refused.
func TestSendKeepsNothing(t *testing.T) {
	for _, there := range []int{0, 1, 11, 12} {
		for _, notes := range [][]api.Note{nil, some(0, 3, 20, 21), some(0, 3, 20, 32), some(0, 3, 0, 3), some(0, 3, 20, 40), {nth(0, 3, 28), {}}, {nth(0, 3, 28), nth(0, 3, 28)}} {
			for _, now := range []int{5, -1} {
				b := newBoth(t, 0, 3, 7)
				b.send(4, some(0, 3, 0, there)...)
				s := newStock(notes...)
				was := s.all()
				e := b.l.Send(now, s.notes...)
				if !reflect.DeepEqual(s.all(), was) {
					t.Fatalf("Send of %v changed what it was handed", notes)
				}
				if want := b.m.send(now, notes...); e != want {
					t.Fatalf("Send of %v: error %d", notes, int(e))
				}
				holdApart(t, s.memory(), linkMemory(b.l))
				s.spoil()
				b.hold(func() string { return "once the notes were changed" })
				b.tick(6)
				for _, n := range notes {
					b.l.Waits(n)
				}
			}
		}
	}
}

// TestWaitsKeepsNothing: rule 4, a note that is asked for is not changed.
func TestWaitsKeepsNothing(t *testing.T) {
	b := lived(t, 5)
	for i := range 60 {
		s := newStock(nth(0, 3, i))
		was := s.all()
		got := b.l.Waits(s.notes[0])
		if !reflect.DeepEqual(s.all(), was) || got != b.m.waits(nth(0, 3, i)) {
			t.Fatalf("Waits of %v: %v", nth(0, 3, i), got)
		}
		holdApart(t, s.memory(), linkMemory(b.l))
		s.spoil()
		b.hold(func() string { return "once the note was changed" })
	}
}

// TestTakeKeepsNothing: rule 4, a frame's note is not changed and not kept, and what is handed out is new memory.
func TestTakeKeepsNothing(t *testing.T) {
	for i := range 40 {
		for _, seq := range []int{1, 3, 5, 7, 18, 19} {
			b := lived(t, 3)
			s := newStock(nth(3, 0, i))
			was := s.all()
			f := api.Frame{From: 3, To: 0, Epoch: 2, Seq: seq, AckEpoch: 7, Ack: 4, Note: s.notes[0]}
			n, fresh, e := b.l.Take(f, 5)
			if !reflect.DeepEqual(s.all(), was) {
				t.Fatalf("Take of %v changed what it was handed", f)
			}
			want, wantFresh, wantErr := b.m.take(api.Frame{From: 3, To: 0, Epoch: 2, Seq: seq, AckEpoch: 7, Ack: 4, Note: nth(3, 0, i)}, 5)
			if fresh != wantFresh || e != wantErr || !sameNotes(n, want) {
				t.Fatalf("Take of %v: %v, %v, error %d", f, n, fresh, int(e))
			}
			holdApart(t, append(s.memory(), linkMemory(b.l)...), noteMemory("the note handed out", n))
			holdApart(t, s.memory(), linkMemory(b.l))
			s.spoil()
			if !sameNotes(n, want) {
				t.Fatalf("the note handed out is changed: %v", n)
			}
			spoilNote(n)
			b.hold(func() string { return "once the note handed out was changed" })
			b.tick(5)
		}
	}
}

// TestTickHandsOutNewMemory: rule 4, frames share nothing with one another, with the link, or with what was told ahead.
func TestTickHandsOutNewMemory(t *testing.T) {
	for count := range room + 1 {
		b := lived(t, count)
		var told []memory
		var kept [][]api.Frame
		for now := 3; now < 40; now++ {
			frames := b.tick(now)
			new := framesMemory(fmt.Sprintf("Tick at %d", now), frames)
			holdApart(t, append(slices.Clone(told), linkMemory(b.l)...), new)
			told, kept = append(told, new...), append(kept, frames)
			for _, f := range kept[0] {
				if !b.l.Waits(f.Note) && f.Seq > 0 {
					t.Fatalf("at %d what was told is changed: %v", now, f)
				}
			}
		}
		for _, frames := range kept {
			spoilFrames(frames)
		}
		b.hold(func() string { return "once the frames were changed" })
		b.tick(60)
		b.take(api.Frame{From: 3, To: 0, Epoch: 9, AckEpoch: 7}, 61)
		b.tick(61)
	}
}

// TestAnswersStay: rule 4, what a call has answered is not changed by later calls.
func TestAnswersStay(t *testing.T) {
	r := rand.New(rand.NewSource(4))
	b := lived(t, 3)
	var frames, wantFrames []api.Frame
	var notes, wantNotes []api.Note
	for now := range 400 {
		b.send(now, nth(0, 3, r.Intn(30)))
		for _, f := range b.tick(now) {
			frames = append(frames, f)
			f.Note = again(f.Note)
			wantFrames = append(wantFrames, f)
		}
		f := api.Frame{From: 3, To: 0, Epoch: 2 + now/100, Seq: b.m.low + 1 + r.Intn(6), AckEpoch: 7, Ack: max(0, b.m.next-r.Intn(9)), Note: nth(3, 0, r.Intn(30))}
		if n, fresh, _ := b.take(f, now); fresh {
			notes, wantNotes = append(notes, n), append(wantNotes, again(n))
		}
	}
	if !sameFrames(frames, wantFrames) || !slices.EqualFunc(notes, wantNotes, sameNotes) || len(frames) < 100 || len(notes) < 100 {
		t.Errorf("of %d frames and %d notes some are changed", len(frames), len(notes))
	}
}

// script makes a row of calls, and tells all that they answer.
func script(seed int64) string {
	r := rand.New(rand.NewSource(seed))
	a, _ := New(0, 3, 7)
	c, _ := New(3, 0, 9)
	told := ""
	for now := range 60 {
		told += fmt.Sprint(int(a.Send(now, nth(0, 3, r.Intn(30)))), int(c.Send(now, nth(3, 0, r.Intn(30)))))
		for _, f := range a.Tick(now) {
			if told += fmt.Sprint(f); r.Intn(3) > 0 {
				n, fresh, e := c.Take(f, now)
				told += fmt.Sprint(n, fresh, int(e))
			}
		}
		for _, f := range c.Tick(now) {
			if told += fmt.Sprint(f); r.Intn(3) > 0 {
				n, fresh, e := a.Take(f, now)
				told += fmt.Sprint(n, fresh, int(e))
			}
		}
		told += fmt.Sprint(a.Waiting(), c.Waiting(), a.Peer(), c.Peer())
	}
	return told
}

// TestSameAgain: rule 5, the same calls answer the same, whatever other links do.
func TestSameAgain(t *testing.T) {
	for seed := range int64(20) {
		want := script(seed)
		for range 3 {
			if got := script(seed); got != want {
				t.Fatalf("the same calls answer\n%s\nand\n%s", want, got)
			}
			script(seed + 100)
		}
	}
}
