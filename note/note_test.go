package note

import (
	"encoding/binary"
	"encoding/hex"
	"fmt"
	"hash/crc64"
	"math"
	"math/rand"
	"reflect"
	"regexp"
	"slices"
	"strings"
	"testing"
	"unsafe"

	"entente/api"
	"entente/seal"
)

const billion = 1000000000

var namePattern = regexp.MustCompile(`^[a-z][a-z0-9]{0,15}$`)

// made is an id of a root, a number, and hops' steps and organisations in turn.
func made(root, n int, hops ...int) api.Id {
	id := api.Id{Root: root, N: n}
	for i := 0; i < len(hops); i += 2 {
		id.Hops = append(id.Hops, api.Hop{Step: hops[i], Org: hops[i+1]})
	}
	return id
}

// pathTold is an id's path, by the words of chapter 3.
func pathTold(id api.Id) []int {
	path := []int{id.Root}
	for _, hop := range id.Hops {
		path = append(path, hop.Org)
	}
	return path
}

// idTold tells whether an id may be, by the words of chapter 3.
func idTold(id api.Id) bool {
	count := map[int]int{}
	for _, org := range pathTold(id) {
		count[org]++
		if org < 0 || org > 15 || count[org] > 1 {
			return false
		}
	}
	for _, hop := range id.Hops {
		if hop.Step < 0 || hop.Step > 7 {
			return false
		}
	}
	return id.N >= 1 && id.N <= 999999 && len(id.Hops) <= 4
}

func textTold(id api.Id) string {
	s := fmt.Sprintf("%d.%d", id.Root, id.N)
	for _, hop := range id.Hops {
		s += fmt.Sprintf("/%d@%d", hop.Step, hop.Org)
	}
	return s
}

// noteTold tells whether a note may be, by the chapter's words.
func noteTold(n api.Note) bool {
	if !idTold(n.Id) || len(n.Id.Hops) == 0 {
		return false
	}
	switch n.Kind {
	case 1:
		return namePattern.MatchString(n.Def) && n.Why == 0
	case 6:
		return n.Def == "" && n.Why >= 1 && n.Why <= 9
	case 2, 3, 4, 5, 7:
		return n.Def == "" && n.Why == 0
	}
	return false
}

// endsTold tells the ends of a note, by the chapter's words.
func endsTold(n api.Note) [2]int {
	if !noteTold(n) {
		return [2]int{-1, -1}
	}
	path := pathTold(n.Id)
	parent, child := path[len(path)-2], path[len(path)-1]
	if n.Kind == 1 || n.Kind == 2 || n.Kind == 3 || n.Kind == 4 {
		return [2]int{parent, child}
	}
	return [2]int{child, parent}
}

// frameTold tells whether a frame may be, by the chapter's words.
func frameTold(f api.Frame) bool {
	if f.From < 0 || f.From > 15 || f.To < 0 || f.To > 15 || f.From == f.To {
		return false
	}
	if f.Epoch < 1 || f.Seq < 0 || f.AckEpoch < 0 || f.Ack < 0 || max(f.Epoch, f.Seq, f.AckEpoch, f.Ack) > billion {
		return false
	}
	if f.Seq == 0 {
		n := f.Note
		if len(n.Id.Hops) == 0 {
			n.Id.Hops = nil
		}
		return reflect.DeepEqual(n, api.Note{})
	}
	return noteTold(f.Note) && endsTold(f.Note) == [2]int{f.From, f.To}
}

// laid lays numbers and texts, by the words of chapter 1.
func laid(parts ...any) string {
	var b []byte
	for _, part := range parts {
		switch x := part.(type) {
		case int:
			b = binary.AppendUvarint(b, uint64(x))
		case uint64:
			b = binary.AppendUvarint(b, x)
		case string:
			b = binary.AppendUvarint(b, uint64(len(x)))
			b = append(b, x...)
		}
	}
	return string(b)
}

// framed puts a body into a frame, by the words of chapter 2.
func framed(version byte, body string) string {
	s := string([]byte{0xe7, version}) + laid(body)
	return string(binary.LittleEndian.AppendUint64([]byte(s), crc64.Checksum([]byte(s), crc64.MakeTable(crc64.ECMA))))
}

// bodyTold is what a frame seals, by the chapter's words.
func bodyTold(f api.Frame) string {
	s := laid(f.From, f.To, f.Epoch, f.Seq, f.AckEpoch, f.Ack)
	if f.Seq != 0 {
		s += laid(f.Note.Kind, textTold(f.Note.Id), f.Note.Def, f.Note.Why)
	}
	return s
}

func bytesTold(f api.Frame) string { return framed(1, bodyTold(f)) }

// same tells whether two frames have the same fields; a list without a hop may be nil or empty.
func same(a, b api.Frame) bool {
	if !slices.Equal(a.Note.Id.Hops, b.Note.Id.Hops) {
		return false
	}
	a.Note.Id.Hops, b.Note.Id.Hops = nil, nil
	return reflect.DeepEqual(a, b)
}

// children has ids that may be, with a hop: at the edges of their numbers, and with each count of hops.
func children() []api.Id {
	return []api.Id{
		made(0, 7, 2, 3), made(0, 1, 0, 15), made(15, 999999, 7, 0), made(9, 10, 3, 10),
		made(0, 7, 2, 3, 0, 5), made(1, 1, 0, 2, 1, 3, 2, 4), made(14, 100000, 7, 15, 0, 0),
		made(1, 1, 0, 2, 1, 3, 2, 4, 7, 5), made(15, 999999, 7, 14, 7, 13, 7, 12, 7, 11), made(4, 1, 0, 3, 0, 2, 0, 1, 0, 0),
	}
}

// strangers has ids of which there is no note: without a hop, or such that may not be.
func strangers() []api.Id {
	l := []api.Id{
		{}, {Hops: []api.Hop{}}, made(0, 1), made(15, 999999), {Root: 3, N: 4, Hops: []api.Hop{}},
		made(0, 0, 2, 3), made(0, -1, 2, 3), made(0, 1000000, 2, 3), made(-1, 7, 2, 3), made(16, 7, 2, 3),
		made(0, 7, -1, 3), made(0, 7, 8, 3), made(0, 7, 2, -1), made(0, 7, 2, 16), made(0, 7, 2, 0), made(3, 7, 2, 3),
		made(0, 7, 2, 3, 0, 3), made(0, 7, 2, 3, 0, 0), made(0, 7, 8, 3, 0, 5), made(0, 7, 2, 16, 0, 5),
		made(1, 1, 0, 2, 1, 3, 2, 4, 7, 5, 0, 6), made(1, 1, 0, 2, 1, 3, 2, 4, 7, 1),
		{Root: 0, N: 1, Hops: make([]api.Hop, 1000)},
	}
	for _, n := range []int{math.MinInt, math.MaxInt, 1 << 32, -1 << 32} {
		l = append(l, made(n, 7, 2, 3), made(0, n, 2, 3), made(0, 7, n, 3), made(0, 7, 2, n))
	}
	return l
}

func defs() []string {
	return []string{
		"", "a", "z", "hotel", "a1", "abcdefghijklmnop", "z999999999999999",
		"abcdefghijklmnopq", "1a", "A", "hoteL", "hotel ", " hotel", "ho tel", "hotel\n", "h\x00", "\x00", "é", "\xff", "ho_tel", "_", "0",
		strings.Repeat("a", 40000),
	}
}

func kinds() []int {
	return []int{math.MinInt, -1 << 32, -1, 0, 1, 2, 3, 4, 5, 6, 7, 8, 9, 255, 256, 257, 1 << 32, 1<<32 + 1, math.MaxInt}
}

func whys() []int {
	return []int{math.MinInt, -1, 0, 1, 2, 3, 4, 5, 6, 7, 8, 9, 10, 11, 255, 256, 1 << 32, 1<<32 + 1, math.MaxInt}
}

// notes has notes that may be: each kind of each id, the offers with each name, what is gone for each reason.
func notes() []api.Note {
	var l []api.Note
	for _, id := range children() {
		for _, kind := range kinds() {
			for _, def := range defs() {
				for _, why := range whys() {
					n := api.Note{Kind: kind, Id: id, Def: def, Why: why}
					if noteTold(n) {
						l = append(l, n)
					}
				}
			}
		}
	}
	return l
}

// around is a frame of a note that may be.
func around(n api.Note, epoch, seq, ackEpoch, ack int) api.Frame {
	ends := endsTold(n)
	return api.Frame{From: ends[0], To: ends[1], Epoch: epoch, Seq: seq, AckEpoch: ackEpoch, Ack: ack, Note: n}
}

// frames has frames that may be: of each note, and without one, with numbers of each length.
func frames() []api.Frame {
	counts := [][4]int{{1, 1, 0, 0}, {2, 300, 1, 4}, {billion, billion, billion, billion}, {127, 128, 16383, 16384}, {1, 1, billion, 0}, {1, 999999999, 0, billion}}
	var l []api.Frame
	for i, n := range notes() {
		c := counts[i%len(counts)]
		l = append(l, around(n, c[0], c[1], c[2], c[3]))
	}
	for _, c := range counts {
		l = append(l, api.Frame{From: 0, To: 1, Epoch: c[0], AckEpoch: c[2], Ack: c[3]})
		l = append(l, api.Frame{From: 15, To: 0, Epoch: c[0], AckEpoch: c[2], Ack: c[3], Note: api.Note{Id: api.Id{Hops: []api.Hop{}}}})
	}
	return l
}

// hotel is the chapter's example.
func hotel() api.Note { return api.Note{Kind: api.NoteOffer, Id: made(0, 7, 2, 3), Def: "hotel"} }

// The chapter's example.
func TestExample(t *testing.T) {
	if s, e := Show(hotel()); s != "offer 0.7/2@3 hotel" || e != api.OK {
		t.Error(s, int(e))
	}
	if from, to := Ends(hotel()); from != 0 || to != 3 {
		t.Error(from, to)
	}
}

// P13.1: notes that may be, and such that may not, each for one reason.
func TestCheck(t *testing.T) {
	id := made(0, 7, 2, 3)
	for _, n := range []api.Note{
		hotel(), {Kind: 2, Id: id}, {Kind: 3, Id: id}, {Kind: 4, Id: id}, {Kind: 5, Id: id}, {Kind: 7, Id: id},
		{Kind: 6, Id: id, Why: 1}, {Kind: 6, Id: id, Why: 5}, {Kind: 6, Id: id, Why: 9},
		{Kind: 1, Id: id, Def: "a"}, {Kind: 1, Id: id, Def: "abcdefghijklmnop"},
		{Kind: 2, Id: made(1, 1, 0, 2, 1, 3, 2, 4, 7, 5)},
	} {
		if e := Check(n); e != api.OK {
			t.Errorf("Check(%+v): error %d", n, int(e))
		}
	}
	for _, n := range []api.Note{
		{}, {Kind: 0, Id: id}, {Kind: 8, Id: id}, {Kind: -1, Id: id}, {Kind: 0, Id: id, Def: "hotel"}, {Kind: 8, Id: id, Why: 1},
		{Kind: 1, Id: id}, {Kind: 1, Id: id, Def: "Hotel"}, {Kind: 1, Id: id, Def: "abcdefghijklmnopq"}, {Kind: 1, Id: id, Def: "hotel", Why: 1},
		{Kind: 2, Id: id, Def: "hotel"}, {Kind: 3, Id: id, Def: "hotel"}, {Kind: 4, Id: id, Def: "hotel"}, {Kind: 5, Id: id, Def: "hotel"},
		{Kind: 6, Id: id, Def: "hotel", Why: 1}, {Kind: 7, Id: id, Def: "hotel"}, {Kind: 5, Id: id, Def: "Hotel"},
		{Kind: 6, Id: id}, {Kind: 6, Id: id, Why: -1}, {Kind: 6, Id: id, Why: 10},
		{Kind: 2, Id: id, Why: 1}, {Kind: 3, Id: id, Why: 9}, {Kind: 4, Id: id, Why: -1}, {Kind: 5, Id: id, Why: 10}, {Kind: 7, Id: id, Why: 1},
		{Kind: 2, Id: made(0, 7)}, {Kind: 2, Id: made(0, 0, 2, 3)}, {Kind: 2, Id: made(0, 7, 2, 0)}, {Kind: 2, Id: made(1, 1, 0, 2, 1, 3, 2, 4, 7, 5, 0, 6)},
	} {
		if e := Check(n); e != api.ErrNote {
			t.Errorf("Check(%+v): error %d", n, int(e))
		}
	}
}

// P13.1, P13.3, P13.5: every edge of each field with every edge of the others, held against the chapter's words.
func TestNotesAgainstTheWords(t *testing.T) {
	words := map[int]string{1: "offer", 2: "renew", 3: "commit", 4: "undo", 5: "held", 6: "gone", 7: "kept"}
	for _, id := range append(children(), strangers()...) {
		for _, kind := range kinds() {
			for _, def := range defs() {
				for _, why := range whys() {
					n := api.Note{Kind: kind, Id: id, Def: def, Why: why}
					want, shown := api.ErrNote, ""
					if noteTold(n) {
						want, shown = api.OK, words[kind]+" "+textTold(id)
						if kind == 1 {
							shown += " " + def
						}
						if kind == 6 {
							shown += fmt.Sprintf(" %d", why)
						}
					}
					if e := Check(n); e != want {
						t.Fatalf("Check(%.99v): error %d; want %d", n, int(e), int(want))
					}
					if from, to := Ends(n); [2]int{from, to} != endsTold(n) {
						t.Fatalf("Ends(%.99v) = %d, %d; want %v", n, from, to, endsTold(n))
					}
					if s, e := Show(n); s != shown || e != want {
						t.Fatalf("Show(%.99v) = %.99q, error %d; want %.99q, %d", n, s, int(e), shown, int(want))
					}
				}
			}
		}
	}
}

// P13.1, P13.5: the ends of each kind, with one hop, with two and with four.
func TestEnds(t *testing.T) {
	for _, c := range []struct {
		id            api.Id
		parent, child int
	}{
		{made(0, 7, 2, 3), 0, 3}, {made(15, 7, 2, 0), 15, 0}, {made(0, 7, 2, 3, 0, 5), 3, 5}, {made(1, 1, 0, 2, 1, 3, 2, 4, 7, 5), 4, 5},
	} {
		for _, n := range []api.Note{{Kind: 1, Def: "hotel"}, {Kind: 2}, {Kind: 3}, {Kind: 4}} {
			n.Id = c.id
			if from, to := Ends(n); from != c.parent || to != c.child {
				t.Errorf("Ends(%v) = %d, %d", n, from, to)
			}
		}
		for _, n := range []api.Note{{Kind: 5}, {Kind: 6, Why: 3}, {Kind: 7}} {
			n.Id = c.id
			if from, to := Ends(n); from != c.child || to != c.parent {
				t.Errorf("Ends(%v) = %d, %d", n, from, to)
			}
		}
		for _, n := range []api.Note{{Kind: 0}, {Kind: 1}, {Kind: 5, Why: 1}, {Kind: 6}, {Kind: 8}} {
			n.Id = c.id
			if from, to := Ends(n); from != -1 || to != -1 {
				t.Errorf("Ends(%v) = %d, %d", n, from, to)
			}
		}
	}
	if from, to := Ends(api.Note{}); from != -1 || to != -1 {
		t.Error(from, to)
	}
}

// P13.5: a note's ends stand in its path, one behind the other.
func TestEndsAreOfThePath(t *testing.T) {
	for _, n := range notes() {
		from, to := Ends(n)
		path := pathTold(n.Id)
		a, b := slices.Index(path, from), slices.Index(path, to)
		if a < 0 || b < 0 || a-b != 1 && b-a != 1 {
			t.Errorf("Ends(%v) = %d, %d", n, from, to)
		}
	}
}

// badFrames has frames that may not be, each for one reason.
func badFrames() []api.Frame {
	good := around(hotel(), 2, 3, 1, 4)
	var l []api.Frame
	change := func(by func(*api.Frame)) {
		f := good
		by(&f)
		l = append(l, f)
	}
	for _, n := range []int{math.MinInt, -1 << 32, -1, 1, 3, 15, 16, 1 << 32, math.MaxInt} {
		change(func(f *api.Frame) { f.From = n })
		change(func(f *api.Frame) { f.From, f.Seq, f.Note = n, 0, api.Note{} })
		if n == 1 || n == 15 {
			l = l[:len(l)-1] // without a note these two organisations may be
		}
	}
	for _, n := range []int{math.MinInt, -1, 0, 2, 4, 15, 16, 1 << 32, 1<<32 + 3, math.MaxInt} {
		change(func(f *api.Frame) { f.To = n })
	}
	for _, n := range []int{math.MinInt, -1, billion + 1, 1 << 32, 1<<32 + 1, math.MaxInt} {
		change(func(f *api.Frame) { f.Epoch = n })
		change(func(f *api.Frame) { f.Seq = n })
		change(func(f *api.Frame) { f.AckEpoch = n })
		change(func(f *api.Frame) { f.Ack = n })
		change(func(f *api.Frame) { f.Seq, f.Note = n, api.Note{} })
	}
	change(func(f *api.Frame) { f.Epoch = 0 })
	change(func(f *api.Frame) { f.Seq = 0 })
	change(func(f *api.Frame) { f.Note = api.Note{} })
	change(func(f *api.Frame) { f.Note = api.Note{Id: api.Id{Hops: []api.Hop{}}} })
	change(func(f *api.Frame) { f.From, f.To = f.To, f.From })
	change(func(f *api.Frame) { f.Note = api.Note{Kind: 5, Id: f.Note.Id} })
	change(func(f *api.Frame) { f.Note.Def = "" })
	change(func(f *api.Frame) { f.Note.Why = 1 })
	change(func(f *api.Frame) { f.Note.Kind = 0 })
	change(func(f *api.Frame) { f.Note.Kind = 8 })
	change(func(f *api.Frame) { f.Note.Id = made(0, 7) })
	change(func(f *api.Frame) { f.Note.Id = made(0, 7, 2, 5) })
	change(func(f *api.Frame) { f.Note.Id = made(0, 7, 2, 3, 0, 0) })
	for _, n := range []api.Note{{Kind: 1}, {Kind: -1}, {Def: "a"}, {Why: 1}, {Id: made(1, 0)}, {Id: made(0, 1)}, {Id: made(0, 0, 0, 0)}} {
		change(func(f *api.Frame) { f.Seq, f.Note = 0, n })
	}
	return append(l, api.Frame{}, api.Frame{From: -1, To: -1, Epoch: 1, Seq: 1}, api.Frame{From: -1, To: -1, Epoch: 1})
}

// P13.1, P13.2: frames that may not be have no bytes.
func TestBadFrames(t *testing.T) {
	for _, f := range badFrames() {
		if frameTold(f) {
			t.Fatalf("%+v may be", f)
		}
		if e := Frame(f); e != api.ErrNote {
			t.Errorf("Frame(%+v): error %d", f, int(e))
		}
		if s, e := Encode(f); s != "" || e != api.ErrNote {
			t.Errorf("Encode(%+v) = %q, error %d", f, s, int(e))
		}
	}
}

// P13.1, P13.2, P13.4: frames that may be, their bytes, and back.
func TestGoodFrames(t *testing.T) {
	for _, f := range frames() {
		if e := Frame(f); e != api.OK {
			t.Fatalf("Frame(%+v): error %d", f, int(e))
		}
		s, e := Encode(f)
		if s != bytesTold(f) || e != api.OK {
			t.Fatalf("Encode(%+v) = %q, error %d; want %q", f, s, int(e), bytesTold(f))
		}
		g, e := Decode(s)
		if !same(f, g) || e != api.OK {
			t.Fatalf("Decode of Encode(%+v) = %+v, error %d", f, g, int(e))
		}
		if again, e := Encode(g); again != s || e != api.OK {
			t.Fatalf("Encode of Decode(%q) = %q, error %d", s, again, int(e))
		}
	}
}

// P13.1, P13.2: every edge of each number with every edge of the others, held against the chapter's words.
func TestFramesAgainstTheWords(t *testing.T) {
	orgs := []int{-1, 0, 3, 15, 16}
	counts := []int{-1, 0, 1, billion, billion + 1}
	contents := []api.Note{
		{}, {Id: api.Id{Hops: []api.Hop{}}}, hotel(), {Kind: 5, Id: made(0, 7, 2, 3)}, {Kind: 5, Id: made(3, 7, 2, 0)},
		{Kind: 6, Id: made(3, 7, 2, 15), Why: 9}, {Kind: 6, Id: made(3, 7, 2, 15), Why: 10}, {Kind: 2, Id: made(1, 7, 2, 0, 3, 15)}, {Kind: 2, Id: made(3, 7)},
	}
	for _, from := range orgs {
		for _, to := range orgs {
			for i := range len(counts) * len(counts) * len(counts) * len(counts) {
				c := [4]int{counts[i%5], counts[i/5%5], counts[i/25%5], counts[i/125]}
				for _, n := range contents {
					checkFrame(t, api.Frame{From: from, To: to, Epoch: c[0], Seq: c[1], AckEpoch: c[2], Ack: c[3], Note: n})
				}
			}
		}
	}
}

func checkFrame(t *testing.T, f api.Frame) {
	t.Helper()
	want, told := api.ErrNote, ""
	if frameTold(f) {
		want, told = api.OK, bytesTold(f)
	}
	if e := Frame(f); e != want {
		t.Fatalf("Frame(%+v): error %d; want %d", f, int(e), int(want))
	}
	if s, e := Encode(f); s != told || e != want {
		t.Fatalf("Encode(%+v) = %q, error %d; want %q, %d", f, s, int(e), told, int(want))
	}
}

// P13.2: known bytes, of a frame with a note and of one without.
func TestKnownBytes(t *testing.T) {
	for _, c := range []struct {
		f    api.Frame
		body string
	}{
		{around(hotel(), 2, 300, 1, 4), "00 03 02 ac02 01 04 01 07 302e372f324033 05 686f74656c 00"},
		{around(api.Note{Kind: 6, Id: made(0, 7, 2, 3), Why: 9}, 1, 1, 0, billion), "03 00 01 01 00 8094ebdc03 06 07 302e372f324033 00 09"},
		{api.Frame{From: 15, To: 14, Epoch: 1, Ack: 9}, "0f 0e 01 00 00 09"},
	} {
		body, err := hex.DecodeString(strings.ReplaceAll(c.body, " ", ""))
		if err != nil {
			t.Fatal(err)
		}
		want, e := seal.Seal(1, string(body))
		if s, e2 := Encode(c.f); s != want || e != api.OK || e2 != api.OK {
			t.Errorf("Encode(%+v) = %x, errors %d, %d; want %x", c.f, s, int(e), int(e2), want)
		}
		if f, e := Decode(want); !same(f, c.f) || e != api.OK {
			t.Errorf("Decode(%x) = %+v, error %d", want, f, int(e))
		}
	}
}

// refuses holds Decode against an error: beside it stands no frame.
func refuses(t *testing.T, s string, want api.Errno) {
	t.Helper()
	if f, e := Decode(s); e != want || !reflect.DeepEqual(f, api.Frame{}) {
		t.Fatalf("Decode(%.99q) = %+v, error %d; want %d", s, f, int(e), int(want))
	}
}

// some has a few frames that may be, of all forms.
func some() []api.Frame {
	return []api.Frame{
		around(hotel(), 2, 300, 1, 4), around(api.Note{Kind: 6, Id: made(1, 1, 0, 2, 1, 3, 2, 4, 7, 5), Why: 9}, billion, billion, billion, billion),
		around(api.Note{Kind: 7, Id: made(15, 999999, 7, 0)}, 1, 1, 0, 0), {From: 15, To: 0, Epoch: 1, AckEpoch: 128, Ack: 9},
	}
}

// P13.2: seal's Open's own errors, of what is empty, cut short, changed, or of another version.
func TestDecodeTellsOpensErrors(t *testing.T) {
	refuses(t, "", api.ErrShort)
	refuses(t, "x", api.ErrTag)
	refuses(t, "\xe7", api.ErrShort)
	refuses(t, "\xe7\x02", api.ErrVersion)
	refuses(t, "\xe7\x01", api.ErrShort)
	refuses(t, "\xe7\x01\x80\x00", api.ErrForm)
	refuses(t, "\xe7\x01\xb1\xea\x01", api.ErrBig)
	for _, f := range some() {
		s := bytesTold(f)
		for size := range len(s) {
			refuses(t, s[:size], api.ErrShort)
		}
		for _, version := range []byte{0, 2, 3, 129, 255} {
			refuses(t, framed(version, bodyTold(f)), api.ErrVersion)
		}
		for _, head := range []string{"\x00", "\xe7", "x"} {
			_, _, want := seal.Open(head+s, 0, 1)
			refuses(t, head+s, want)
		}
		for bit := range 8 * len(s) {
			b := []byte(s)
			b[bit/8] ^= 1 << (bit % 8)
			_, _, want := seal.Open(string(b), 0, 1)
			if want == api.OK {
				t.Fatal("a changed frame is opened", bit)
			}
			refuses(t, string(b), want)
			refuses(t, string(b)+s, openError(string(b)+s))
		}
		b := []byte(s)
		b[len(b)-1] ^= 0x80
		refuses(t, string(b), api.ErrSum)
		refuses(t, string(b)+"x", api.ErrSum)
	}
}

func openError(s string) api.Errno {
	_, _, e := seal.Open(s, 0, 1)
	return e
}

// P13.2: what stands behind the frame, or behind the last number inside, makes it no frame's bytes.
func TestDecodeWithBytesBehind(t *testing.T) {
	for _, f := range some() {
		s, body := bytesTold(f), bodyTold(f)
		for _, more := range []string{"x", "\x00", "\xe7", "\xe7\x01", s, framed(1, ""), strings.Repeat("\x00", 40000)} {
			refuses(t, s+more, api.ErrNote)
		}
		for _, more := range []string{"x", "\x00", "\x80", "\x00\x00\x00\x00", body, strings.Repeat("\x00", 20000)} {
			refuses(t, framed(1, body+more), api.ErrNote)
		}
		for size := range len(body) {
			refuses(t, framed(1, body[:size]), api.ErrNote)
		}
	}
}

// hexBody reads a body out of its bytes to the base 16.
func hexBody(t *testing.T, s string) string {
	t.Helper()
	b, err := hex.DecodeString(strings.ReplaceAll(s, " ", ""))
	if err != nil {
		t.Fatal(err)
	}
	return string(b)
}

// P13.2: numbers that are laid otherwise than pack lays them, each in turn.
func TestDecodeOfOtherForms(t *testing.T) {
	for _, s := range []string{
		"", "00", "8000 03 02 03 01 04 01 07 302e372f324033 05 686f74656c 00",
		"00 8300 02 03 01 04 01 07 302e372f324033 05 686f74656c 00",
		"00 03 8200 03 01 04 01 07 302e372f324033 05 686f74656c 00",
		"00 03 02 8300 01 04 01 07 302e372f324033 05 686f74656c 00",
		"00 03 02 03 8100 04 01 07 302e372f324033 05 686f74656c 00",
		"00 03 02 03 01 8400 01 07 302e372f324033 05 686f74656c 00",
		"00 03 02 03 01 04 8100 07 302e372f324033 05 686f74656c 00",
		"00 03 02 03 01 04 01 8700 302e372f324033 05 686f74656c 00",
		"00 03 02 03 01 04 01 07 302e372f324033 8500 686f74656c 00",
		"00 03 02 03 01 04 01 07 302e372f324033 05 686f74656c 8000",
		"00 03 02 03 01 04 01 07 302e372f324033 06 686f74656c 00",
		"00 03 02 03 01 04 01 07 302e372f324033 04 686f74656c 00",
		"00 03 02 03 01 04 01 06 302e372f324033 05 686f74656c 00",
		"00 03 02 03 01 04 01 08 302e372f324033 05 686f74656c 00",
		"00 03 02 03 01 04 01 07 302e372f324033 ffffffffffffffffff01 686f74656c 00",
		"00 03 02 03 01 04 01 ffffffffffffffffff01 302e372f324033 05 686f74656c 00",
		"00 03 02 8000 01 04", "00 03 02 00 8100 04", "00 03 8200 00 01 04", "00 03 02 00 01 8000",
		"ffffffffffffffffffff01 03 02 00 01 04", "00 03 02 00 01 ffffffffffffffffff02",
	} {
		refuses(t, framed(1, hexBody(t, s)), api.ErrNote)
	}
	good := hexBody(t, "00 03 02 03 01 04 01 07 302e372f324033 05 686f74656c 00")
	if f, e := Decode(framed(1, good)); !same(f, around(hotel(), 2, 3, 1, 4)) || e != api.OK {
		t.Errorf("%+v, error %d", f, int(e))
	}
}

// P13.2: well laid, but no frame that may be: numbers too great for their field, in each place; some would wrap round to one that may be.
func TestDecodeOfGreatNumbers(t *testing.T) {
	plain := []uint64{0, 3, 2, 3, 1, 4}
	for i := range plain {
		for _, n := range []uint64{billion + 1, 1 << 31, 1 << 32, 1<<32 + plain[i], 1<<63 - 1, 1 << 63, 1<<63 + plain[i], math.MaxUint64} {
			numbers := slices.Clone(plain)
			numbers[i] = n
			body := ""
			for _, n := range numbers {
				body += laid(n)
			}
			refuses(t, framed(1, body+laid(1, "0.7/2@3", "hotel", 0)), api.ErrNote)
			refuses(t, framed(1, body), api.ErrNote)
		}
	}
	head := laid(3, 0, 2, 3, 1, 4)
	for _, n := range []uint64{0, 8, 1<<32 + 6, 1<<63 + 6, math.MaxUint64} {
		refuses(t, framed(1, head+laid(n, "0.7/2@3", "", 5)), api.ErrNote)
	}
	for _, n := range []uint64{0, 10, 1<<32 + 5, 1<<63 + 5, math.MaxUint64} {
		refuses(t, framed(1, head+laid(6, "0.7/2@3", "", n)), api.ErrNote)
	}
	refuses(t, framed(1, laid(0, 3, 2, 3, 1, 4, 1, "0.7/2@3", "hotel", uint64(1<<32))), api.ErrNote)
}

// P13.2: well laid, but no frame that may be: a note with Seq 0, none above it, ids' texts that are none, ends the other way round.
func TestDecodeOfFramesThatMayNotBe(t *testing.T) {
	for _, body := range []string{
		laid(0, 3, 2, 0, 1, 4, 1, "0.7/2@3", "hotel", 0), laid(0, 3, 2, 0, 1, 4, 0, "", "", 0), laid(0, 3, 2, 0, 1, 4, 0),
		laid(0, 3, 2, 1, 1, 4), laid(0, 3, 2, 1, 1, 4, 0, "", "", 0), laid(0, 3, 2, 1, 1, 4, 0, "0.0", "", 0), laid(0, 3, 2, 1, 1, 4, 1),
		laid(3, 0, 2, 3, 1, 4, 1, "0.7/2@3", "hotel", 0), laid(0, 3, 2, 3, 1, 4, 5, "0.7/2@3", "", 0), laid(0, 5, 2, 3, 1, 4, 1, "0.7/2@3", "hotel", 0),
		laid(0, 3, 2, 3, 1, 4, 1, "0.7/2@3", "", 0), laid(0, 3, 2, 3, 1, 4, 1, "0.7/2@3", "Hotel", 0), laid(0, 3, 2, 3, 1, 4, 2, "0.7/2@3", "hotel", 0),
		laid(0, 3, 2, 3, 1, 4, 1, "0.7/2@3", "hotel", 1), laid(0, 3, 2, 3, 1, 4, 8, "0.7/2@3", "", 0), laid(0, 3, 2, 3, 1, 4, 1, "0.7", "hotel", 0),
		laid(0, 3, 2, 3, 1, 4, 1, "", "hotel", 0), laid(0, 3, 2, 3, 1, 4, 1, "0.07/2@3", "hotel", 0), laid(0, 3, 2, 3, 1, 4, 1, "+0.7/2@3", "hotel", 0),
		laid(0, 3, 2, 3, 1, 4, 1, "0.7/2@3/", "hotel", 0), laid(0, 3, 2, 3, 1, 4, 1, "0.7/2@3 ", "hotel", 0), laid(0, 3, 2, 3, 1, 4, 1, "0.7/2@03", "hotel", 0),
		laid(0, 3, 2, 3, 1, 4, 1, "0.7/8@3", "hotel", 0), laid(0, 3, 2, 3, 1, 4, 1, "0.0/2@3", "hotel", 0), laid(0, 3, 2, 3, 1, 4, 1, strings.Repeat("/", 20000), "hotel", 0),
		laid(0, 3, 0, 0, 1, 4), laid(0, 0, 2, 0, 1, 4), laid(0, 16, 2, 0, 1, 4), laid(16, 0, 2, 0, 1, 4), laid(0, 3, 0, 3, 1, 4, 1, "0.7/2@3", "hotel", 0),
		laid(0, 3, billion+1, 0, 1, 4), laid(0, 3, 2, 0, billion+1, 4), laid(0, 3, 2, 0, 1, billion+1),
	} {
		refuses(t, framed(1, body), api.ErrNote)
	}
}

// frameOf reads a body without looking at its form.
func frameOf(body string) (f api.Frame) {
	number := func() int {
		n, size := binary.Uvarint([]byte(body))
		body = body[max(size, 0):]
		return int(n)
	}
	text := func() string {
		size := min(max(number(), 0), len(body))
		s := body[:size]
		body = body[size:]
		return s
	}
	f = api.Frame{From: number(), To: number(), Epoch: number(), Seq: number(), AckEpoch: number(), Ack: number()}
	if f.Seq == 0 {
		return f
	}
	f.Note.Kind = number()
	s := text()
	first, rest, _ := strings.Cut(s, "/")
	fmt.Sscanf(first, "%d.%d", &f.Note.Id.Root, &f.Note.Id.N)
	for _, part := range strings.Split(rest, "/") {
		var hop api.Hop
		fmt.Sscanf(part, "%d@%d", &hop.Step, &hop.Org)
		f.Note.Id.Hops = append(f.Note.Id.Hops, hop)
	}
	f.Note.Def, f.Note.Why = text(), number()
	return f
}

// P13.2, P13.4: bodies with changed, lost and new bytes, sealed: a frame is told of those alone that are its bytes.
func TestDecodeAgainstTheWords(t *testing.T) {
	r := rand.New(rand.NewSource(13))
	all := frames()
	good := 0
	for range 60000 {
		body := []byte(bodyTold(all[r.Intn(len(all))]))
		for range r.Intn(3) {
			at := r.Intn(len(body) + 1)
			switch r.Intn(4) {
			case 0:
				body = slices.Insert(body, at, byte(r.Intn(256)>>r.Intn(8)))
			case 1:
				body = slices.Delete(body, at, min(at+1+r.Intn(2), len(body)))
			default:
				if at < len(body) {
					body[at] = byte(int(body[at]) + r.Intn(5) - 2)
				}
			}
		}
		s := framed(1, string(body))
		f := frameOf(string(body))
		if !frameTold(f) || bytesTold(f) != s {
			refuses(t, s, api.ErrNote)
			continue
		}
		good++
		g, e := Decode(s)
		if !same(f, g) || e != api.OK {
			t.Fatalf("Decode(%q) = %+v, error %d; want %+v", s, g, int(e), f)
		}
		if again, e := Encode(g); again != s || e != api.OK {
			t.Fatalf("Encode of Decode(%q) = %q, error %d", s, again, int(e))
		}
	}
	if good < 10000 || good > 50000 {
		t.Error("hardly any bodies of one of both sorts", good)
	}
}

// P13.2: bytes of all sorts: Decode ends, and what it tells is laid as it stood.
func TestDecodeOfAnyBytes(t *testing.T) {
	r := rand.New(rand.NewSource(14))
	for range 20000 {
		b := make([]byte, r.Intn(60))
		for i := range b {
			b[i] = byte(r.Intn(256) >> r.Intn(8))
		}
		for _, s := range []string{string(b), "\xe7\x01" + string(b), framed(1, string(b))} {
			f, e := Decode(s)
			if e == api.OK {
				if again, _ := Encode(f); again != s {
					t.Fatalf("Encode of Decode(%q) = %q", s, again)
				}
			} else if !reflect.DeepEqual(f, api.Frame{}) {
				t.Fatalf("Decode(%q) = %+v, error %d", s, f, int(e))
			}
			if _, _, want := seal.Open(s, 0, 1); want != api.OK && e != want {
				t.Fatalf("Decode(%q): error %d; want %d", s, int(e), int(want))
			}
		}
	}
}

// P13.3: the word of each kind, and what stands behind.
func TestShow(t *testing.T) {
	id := made(0, 7, 2, 3, 0, 5)
	for _, c := range []struct {
		n    api.Note
		want string
	}{
		{api.Note{Kind: 1, Id: id, Def: "hotel"}, "offer 0.7/2@3/0@5 hotel"}, {api.Note{Kind: 2, Id: id}, "renew 0.7/2@3/0@5"},
		{api.Note{Kind: 3, Id: id}, "commit 0.7/2@3/0@5"}, {api.Note{Kind: 4, Id: id}, "undo 0.7/2@3/0@5"},
		{api.Note{Kind: 5, Id: id}, "held 0.7/2@3/0@5"}, {api.Note{Kind: 6, Id: id, Why: 1}, "gone 0.7/2@3/0@5 1"},
		{api.Note{Kind: 6, Id: id, Why: 9}, "gone 0.7/2@3/0@5 9"}, {api.Note{Kind: 7, Id: id}, "kept 0.7/2@3/0@5"},
	} {
		if s, e := Show(c.n); s != c.want || e != api.OK {
			t.Errorf("Show(%v) = %q, error %d; want %q", c.n, s, int(e), c.want)
		}
	}
	for _, n := range []api.Note{{}, {Kind: 0, Id: id}, {Kind: 8, Id: id}, {Kind: 1, Id: id}, {Kind: 6, Id: id}, {Kind: 6, Id: id, Why: 10}, {Kind: 7, Id: id, Why: 1}, {Kind: 2, Id: made(0, 7)}} {
		if s, e := Show(n); s != "" || e != api.ErrNote {
			t.Errorf("Show(%v) = %q, error %d", n, s, int(e))
		}
	}
}

// apart tells that two texts have no byte of memory in common.
func apart(a, b string) bool {
	if a == "" || b == "" {
		return true
	}
	x, y := uintptr(unsafe.Pointer(unsafe.StringData(a))), uintptr(unsafe.Pointer(unsafe.StringData(b)))
	return x+uintptr(len(a)) <= y || y+uintptr(len(b)) <= x
}

// Rule 4: a frame that is told shares no memory with the bytes, nor with the one that was told ahead.
func TestNewMemory(t *testing.T) {
	s := bytesTold(around(hotel(), 2, 3, 1, 4))
	a, _ := Decode(s)
	b, _ := Decode(s)
	if !apart(a.Note.Def, s) || !apart(b.Note.Def, s) || !apart(a.Note.Def, b.Note.Def) {
		t.Error("a name of the bytes' own memory")
	}
	a.Note.Id.Hops[0] = api.Hop{Step: 6, Org: 6}
	_ = append(a.Note.Id.Hops, api.Hop{Step: 6, Org: 6})
	if c, e := Decode(s); !same(b, around(hotel(), 2, 3, 1, 4)) || !same(c, b) || e != api.OK {
		t.Error("what was told is changed", b, c)
	}
	n := hotel()
	shown, _ := Show(n)
	laidBytes, _ := Encode(around(n, 2, 3, 1, 4))
	if !apart(shown, n.Def) || !apart(laidBytes, n.Def) {
		t.Error("a text of the name's own memory")
	}
}

// Rule 4, rule 5: what is handed in stays as it is, its spare room too; the same is answered again.
func TestArgumentsStay(t *testing.T) {
	room := []api.Hop{{Step: 2, Org: 3}, {Step: 0, Org: 5}, {Step: 9, Org: 9}, {Step: 9, Org: 9}}
	for _, n := range []api.Note{{Kind: 1, Def: "hotel"}, {Kind: 6, Why: 3}, {Kind: 8}} {
		hops := slices.Clone(room)
		n.Id = api.Id{Root: 0, N: 7, Hops: hops[:2]}
		f := api.Frame{From: endsTold(n)[0], To: endsTold(n)[1], Epoch: 2, Seq: 3, AckEpoch: 1, Ack: 4, Note: n}
		var first [3]string
		for i := range 3 {
			Check(n)
			Frame(f)
			from, to := Ends(n)
			shown, e := Show(n)
			s, e2 := Encode(f)
			g, e3 := Decode(s)
			told := [3]string{shown, s, fmt.Sprint(from, to, int(e), int(e2), int(e3), g)}
			if i == 0 {
				first = told
			}
			if told != first {
				t.Errorf("%q, and then %q", first, told)
			}
		}
		if !slices.Equal(hops, room) {
			t.Error("hops are changed", hops)
		}
	}
}
