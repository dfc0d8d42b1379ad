package wal

import (
	"encoding/binary"
	"fmt"
	"hash/crc64"
	"math/rand"
	"slices"
	"strings"
	"testing"
	"unsafe"

	"entente/api"
	"entente/disk"
	"entente/segment"
)

const (
	longest = 30000   // the chapter's longest body
	big     = 200000  // the greatest room
	high    = 1000000 // the greatest number of a file
)

// frames is the bytes of bodies in a log's file, laid by the library's own numbers and sums.
func frames(bodies ...string) string {
	s := ""
	for _, body := range bodies {
		b := append(binary.AppendUvarint([]byte("\xe7\x03"), uint64(len(body))), body...)
		s += string(binary.LittleEndian.AppendUint64(b, crc64.Checksum(b, crc64.MakeTable(crc64.ECMA))))
	}
	return s
}

// bytesOf makes so many bytes that follow no short rule, the same at each call.
func bytesOf(size int) string {
	b := make([]byte, size)
	rand.New(rand.NewSource(int64(size))).Read(b)
	return string(b)
}

// edgeBodies has the edges of a body's length, and bodies that look like frames, or parts of these.
func edgeBodies() []string {
	l := []string{"", "a", "\x00", "\xe7", "\xe7\x03", frames("a"), frames("a", "b")[:15]}
	for _, size := range []int{2, 127, 128, 16383, 16384, longest - 1, longest} {
		l = append(l, bytesOf(size))
	}
	return l
}

// tooLong has bodies that no frame has.
func tooLong() []string { return []string{bytesOf(longest + 1), strings.Repeat("x", 5*longest)} }

// f is a file, all of it synced.
func f(number int, data string) api.File {
	return api.File{Number: number, Data: data, Synced: len(data)}
}

// loaded has a disk with files.
func loaded(t *testing.T, room int, l ...api.File) *disk.Disk {
	t.Helper()
	d, e := disk.Load(room, l...)
	if e != api.OK {
		t.Fatalf("Load(%d, %s): error %d", room, brief(l), int(e))
	}
	return d
}

// opened has a log that must open, with these bodies.
func opened(t *testing.T, d *disk.Disk, first string, want ...string) *Log {
	t.Helper()
	l, bodies, e := Open(d, first)
	if e != api.OK || l == nil || !slices.Equal(bodies, want) {
		t.Fatalf("Open = %v, %s, error %d, want %s", l != nil, brief(bodies), int(e), brief(want))
	}
	return l
}

// has sees that a disk has just these files.
func has(t *testing.T, d *disk.Disk, want ...api.File) {
	t.Helper()
	if got := d.Image(); !slices.Equal(got, want) {
		t.Fatalf("the disk has %s, want %s", brief(got), brief(want))
	}
}

// stands sees which file a log has, and how many bytes.
func stands(t *testing.T, l *Log, number, size int) {
	t.Helper()
	if l.Number() != number || l.Size() != size {
		t.Fatalf("Number, Size = %d, %d, want %d, %d", l.Number(), l.Size(), number, size)
	}
}

// tells sees that a call answered that error.
func tells(t *testing.T, got, want api.Errno) {
	t.Helper()
	if got != want {
		t.Fatalf("error %d, want %d", int(got), int(want))
	}
}

// refused sees that Open tells that error, and nothing beside it.
func refused(t *testing.T, want api.Errno, d *disk.Disk, first string) {
	t.Helper()
	l, bodies, e := Open(d, first)
	if l != nil || len(bodies) != 0 || e != want {
		t.Fatalf("Open = %v, %s, error %d, want error %d", l != nil, brief(bodies), int(e), int(want))
	}
}

// brief tells something, bytes to the base 16, and not all of what is long.
func brief(x any) string {
	s := fmt.Sprintf("%x", x)
	if len(s) > 400 {
		s = s[:400] + " .."
	}
	return s
}

// fileSize is how many bytes a disk's file has, also where the disk is dead.
func fileSize(d *disk.Disk, number int) int {
	for _, one := range d.Image() {
		if one.Number == number {
			return len(one.Data)
		}
	}
	return 0
}

// twin is the chapter's own words: each call as the disk's calls that it names, in their order.
type twin struct {
	d      *disk.Disk
	number int
	broken bool
}

// calls does one call of the disk after the other, up to the first that has an error.
func calls(l ...func() api.Errno) api.Errno {
	for _, call := range l {
		if e := call(); e != api.OK {
			return e
		}
	}
	return api.OK
}

func twinOpen(d *disk.Disk, first string) (*twin, []string, api.Errno) {
	if d.Dead() {
		return nil, nil, api.ErrDead
	}
	var l []api.File
	for _, number := range d.Files() {
		data, _ := d.Read(number)
		l = append(l, api.File{Number: number, Data: data})
	}
	x, e := segment.Look(l...)
	if e != api.OK {
		return nil, nil, e
	}
	p, bodies := &twin{d: d, number: x.Number}, x.Bodies
	var todo []func() api.Errno
	if data, _ := d.Read(x.Number); len(data) > x.Good {
		todo = append(todo, func() api.Errno { return d.Cut(x.Number, x.Good) })
	}
	for _, number := range x.Drop {
		todo = append(todo, func() api.Errno { return d.Remove(number) })
	}
	if x.Number == -1 {
		p, bodies = &twin{d: d, number: 1}, []string{first}
		todo = append(todo, func() api.Errno {
			if len(first) > longest {
				return api.ErrBig
			}
			return d.Append(1, frames(first))
		}, func() api.Errno { return d.Sync(1) })
	}
	if e := calls(todo...); e != api.OK {
		return nil, nil, e
	}
	return p, bodies, api.OK
}

func (p *twin) lay(number int, body string) api.Errno {
	if len(body) > longest {
		return api.ErrBig
	}
	e := calls(func() api.Errno { return p.d.Append(number, frames(body)) }, func() api.Errno { return p.d.Sync(number) })
	p.broken = e == api.ErrDead
	return e
}

func (p *twin) Append(body string) api.Errno {
	if p.broken {
		return api.ErrDead
	}
	return p.lay(p.number, body)
}

func (p *twin) Turn(body string) api.Errno {
	if p.broken {
		return api.ErrDead
	}
	if p.number == 1000000 {
		return api.ErrFull
	}
	if e := p.lay(p.number+1, body); e != api.OK {
		return e
	}
	p.number++
	e := p.d.Remove(p.number - 1)
	p.broken = e == api.ErrDead
	return e
}

// pair is a log, and its twin on a disk of the same files.
type pair struct {
	t    *testing.T
	a, b *disk.Disk
	log  *Log
	twin *twin
}

// paired has two disks with the same files, with the same step armed.
func paired(t *testing.T, room int, files []api.File, n int, keep ...int) *pair {
	t.Helper()
	p := &pair{t: t, a: loaded(t, room, files...), b: loaded(t, room, files...)}
	tells(t, p.a.Arm(n, keep...), api.OK)
	tells(t, p.b.Arm(n, keep...), api.OK)
	return p
}

// hold holds an error, the disks and the logs against each other.
func (p *pair) hold(what string, got, want api.Errno) api.Errno {
	p.t.Helper()
	if got != want {
		p.t.Fatalf("%s: error %d, want %d", what, int(got), int(want))
	}
	if a, b := p.a.Image(), p.b.Image(); !slices.Equal(a, b) || p.a.Dead() != p.b.Dead() {
		p.t.Fatalf("%s: the disk has %s, want %s", what, brief(a), brief(b))
	}
	if p.twin == nil {
		return got
	}
	number, size := p.twin.number, fileSize(p.b, p.twin.number)
	if p.log.Number() != number || p.log.Size() != size {
		p.t.Fatalf("%s: Number, Size = %d, %d, want %d, %d", what, p.log.Number(), p.log.Size(), number, size)
	}
	return got
}

func (p *pair) open(first string) api.Errno {
	p.t.Helper()
	l, got, e := Open(p.a, first)
	x, want, wantErr := twinOpen(p.b, first)
	if (l == nil) != (x == nil) || !slices.Equal(got, want) {
		p.t.Fatalf("Open = %v, %s, error %d, want %v, %s, error %d", l != nil, brief(got), int(e), x != nil, brief(want), int(wantErr))
	}
	p.log, p.twin = l, x
	return p.hold("Open", e, wantErr)
}

func (p *pair) append(body string) api.Errno {
	p.t.Helper()
	return p.hold("Append", p.log.Append(body), p.twin.Append(body))
}

func (p *pair) turn(body string) api.Errno {
	p.t.Helper()
	return p.hold("Turn", p.log.Turn(body), p.twin.Turn(body))
}

func (p *pair) boot() {
	p.a.Boot()
	p.b.Boot()
}

// same is a number for each place of a disk.
func same(n int) []int { return slices.Repeat([]int{n}, api.MaxFiles) }

// stepsOf counts the steps that a run does on a disk with these files.
func stepsOf(t *testing.T, room int, files []api.File, run func(d *disk.Disk)) int {
	t.Helper()
	for n := range 1000 {
		d := loaded(t, room, files...)
		tells(t, d.Arm(n+1), api.OK)
		if run(d); !d.Dead() {
			return n
		}
	}
	t.Fatal("it never ends")
	return 0
}

// TestCallsAreAsListed: the chapter's list.
func TestCallsAreAsListed(t *testing.T) {
	var _ func(*disk.Disk, string) (*Log, []string, api.Errno) = Open
	var _ interface {
		Append(string) api.Errno
		Turn(string) api.Errno
		Number() int
		Size() int
	} = (*Log)(nil)
}

// TestExample: P17.1, P17.3, P17.4, the chapter's example.
func TestExample(t *testing.T) {
	d := loaded(t, 200)
	l := opened(t, d, "x", "x")
	tells(t, l.Append("a"), api.OK)
	tells(t, l.Turn("b"), api.OK)
	tells(t, l.Append("c"), api.OK)
	stands(t, l, 2, 24)
	stands(t, opened(t, d, "y", "b", "c"), 2, 24)
	has(t, d, f(2, frames("b", "c")))
}

// TestOpenBegins: P17.1, an empty disk.
func TestOpenBegins(t *testing.T) {
	for _, first := range edgeBodies() {
		d := loaded(t, big)
		l := opened(t, d, first, first)
		has(t, d, f(1, frames(first)))
		stands(t, l, 1, len(frames(first)))
	}
	d := loaded(t, 12)
	opened(t, d, "x", "x")
	if s, _ := d.Read(1); len(s) != 12 || s[:4] != "\xe7\x03\x01x" {
		t.Errorf("file 1 is %x", s)
	}
	if n := stepsOf(t, 100, nil, func(d *disk.Disk) { Open(d, "x") }); n != 2 {
		t.Errorf("%d steps, want an Append and a Sync", n)
	}
}

// TestOpenOfNoDisk: P17.1.
func TestOpenOfNoDisk(t *testing.T) {
	for _, first := range append(edgeBodies(), tooLong()...) {
		refused(t, api.ErrNil, nil, first)
		refused(t, api.ErrNil, &disk.Disk{}, first)
		refused(t, api.ErrNil, new(disk.Disk), first)
	}
}

// notLogs has files that are no log.
func notLogs() [][]api.File {
	good, bad := frames("log", "a"), "x"+frames("a")
	sum := []byte(frames("log", "a"))
	sum[len(sum)-1] ^= 1
	return [][]api.File{
		{f(1, "x")}, {f(0, bad)}, {f(high, "\xe7\x02")}, {f(1, good+"x")}, {f(1, good+"\xe7\x04")}, {f(1, string(sum))},
		{f(1, good), f(2, "x")}, {f(1, good), f(2, bad), f(3, "\xe7")}, {f(1, "x"), f(2, "\xe7"), f(3, "\xe7\x03")},
		{f(1, good), f(2, good+"\x00")}, {f(1, good), f(2, good+bad), f(7, "\xe7\x03\x05ab")},
		{f(3, "\xe7\x03\xb1\xea\x01")}, {f(3, "\xe7\x03\x80\x00")}, {f(3, good+"\xe7\x03\xb1\xea\x01")},
	}
}

// TestOpenOfADeadDisk: P17.1, ErrDead ahead of what the files are and of first.
func TestOpenOfADeadDisk(t *testing.T) {
	for _, files := range append(notLogs(), nil, []api.File{f(1, frames("a"))}, []api.File{f(1, "\xe7"), f(5, "\xe7")}) {
		for _, first := range []string{"", "x", tooLong()[0]} {
			d := loaded(t, big, files...)
			tells(t, d.Crash(), api.OK)
			refused(t, api.ErrDead, d, first)
			has(t, d, files...)
			if !d.Dead() {
				t.Fatal("Open gave the disk power")
			}
		}
	}
}

// TestOpenOfNoLog: P17.1, ErrLog ahead of what is wrong with first; nothing is done.
func TestOpenOfNoLog(t *testing.T) {
	for _, files := range notLogs() {
		for _, first := range []string{"", "x", tooLong()[0]} {
			d := loaded(t, big, files...)
			refused(t, api.ErrLog, d, first)
			has(t, d, files...)
			if n := stepsOf(t, big, files, func(d *disk.Disk) { Open(d, first) }); n != 0 {
				t.Fatalf("%d steps", n)
			}
		}
	}
}

// TestOpenOfTheLogAlone: P17.1, P17.7: no step at all, whatever first is, and whatever is synced.
func TestOpenOfTheLogAlone(t *testing.T) {
	rows := [][]string{{""}, {"a"}, {"a", "", "b"}, {frames("a"), "\xe7"}, {bytesOf(longest), bytesOf(longest), "z"}}
	for _, row := range rows {
		data := frames(row...)
		for _, number := range []int{0, 1, 2, 77, high - 1, high} {
			for _, synced := range []int{0, 1, len(data) - 1, len(data)} {
				files := []api.File{{Number: number, Data: data, Synced: synced}}
				for _, first := range []string{"", "other", tooLong()[0]} {
					d := loaded(t, len(data), files...)
					tells(t, d.Arm(1), api.OK)
					stands(t, opened(t, d, first, row...), number, len(data))
					has(t, d, files...)
				}
			}
		}
	}
}

// TestOpenCutsToGood: P17.1, the last frame cut at each of its places.
func TestOpenCutsToGood(t *testing.T) {
	for _, good := range [][]string{{""}, {"h"}, {"h", "", "abc"}} {
		for _, last := range []string{"", "z", "\xe7\x03", bytesOf(130)} {
			data, torn := frames(good...), frames(last)
			for size := range len(torn) {
				files := []api.File{f(3, data+torn[:size])}
				d := loaded(t, big, files...)
				l := opened(t, d, "x", good...)
				has(t, d, f(3, data))
				stands(t, l, 3, len(data))
				want := 1
				if size == 0 {
					want = 0
				}
				if n := stepsOf(t, big, files, func(d *disk.Disk) { Open(d, "x") }); n != want {
					t.Fatalf("%d steps for %d bytes behind, want %d", n, size, want)
				}
				tells(t, l.Append("new"), api.OK)
				has(t, d, f(3, data+frames("new")))
				opened(t, d, "x", append(slices.Clone(good), "new")...)
			}
			opened(t, loaded(t, big, f(3, data+torn)), "x", append(slices.Clone(good), last)...)
		}
	}
}

// TestCutBytesAreSynced: P17.1: Cut leaves what it leaves synced.
func TestCutBytesAreSynced(t *testing.T) {
	data := frames("h", "a")
	d := loaded(t, 100, api.File{Number: 1, Data: data + "\xe7\x03", Synced: 5})
	opened(t, d, "x", "h", "a")
	has(t, d, f(1, data))
}

// TestOpenRemovesDrop: P17.1, files ahead of the log's file, and torn ones above it, each in each number.
func TestOpenRemovesDrop(t *testing.T) {
	log, torn := frames("log", "a"), frames("torn")
	junk := []string{"x", log, torn[:7], frames("old", "older") + "x", "\x00\x01"}
	for ahead := range 8 {
		for above := range 8 - ahead {
			for _, behind := range []string{"", "\xe7", torn[:len(torn)-1]} {
				var files []api.File
				for i := range ahead {
					files = append(files, f(2*i, junk[i%len(junk)]))
				}
				files = append(files, f(500, log+behind))
				for i := range above {
					files = append(files, f(high-2*(above-1-i), torn[:1+i*2]))
				}
				d := loaded(t, big, files...)
				stands(t, opened(t, d, "x", "log", "a"), 500, len(log))
				has(t, d, f(500, log))
				want := ahead + above + min(len(behind), 1)
				if n := stepsOf(t, big, files, func(d *disk.Disk) { Open(d, "x") }); n != want {
					t.Fatalf("%d steps, want %d", n, want)
				}
			}
		}
	}
}

// TestOrderOfOpen: P17.1, first the cut, then the files of Drop, rising.
func TestOrderOfOpen(t *testing.T) {
	log := frames("log")
	files := []api.File{f(1, "x"), f(4, frames("old")), f(6, log+"\xe7"), f(7, "\xe7"), f(9, "\xe7\x03")}
	left := [][]api.File{
		files,
		{files[0], files[1], f(6, log), files[3], files[4]},
		{files[1], f(6, log), files[3], files[4]},
		{f(6, log), files[3], files[4]},
		{f(6, log), files[4]},
		{f(6, log)},
	}
	for i, want := range left {
		d := loaded(t, 200, files...)
		tells(t, d.Arm(i+1), api.OK)
		if i+1 == len(left) {
			opened(t, d, "x", "log")
		} else {
			refused(t, api.ErrDead, d, "x")
		}
		has(t, d, want...)
	}
}

// TestOrderOfBegin: P17.1, first the files of Drop, rising, then the Append, then the Sync.
func TestOrderOfBegin(t *testing.T) {
	files := []api.File{f(0, "\xe7"), f(1, "\xe7\x03"), f(high, "\xe7\x03\x02a")}
	head := frames("x")
	left := [][]api.File{files, files[1:], files[2:], {f(1, head[:5])}, {f(1, head[:5])}, {f(1, head)}}
	for i, want := range left {
		d := loaded(t, 200, files...)
		tells(t, d.Arm(i+1, 5), api.OK)
		if i+1 == len(left) {
			opened(t, d, "x", "x")
		} else {
			refused(t, api.ErrDead, d, "x")
		}
		has(t, d, want...)
	}
}

// TestOpenOfNoWholeHead: P17.1, up to as many torn files as there may be; the new file needs their room.
func TestOpenOfNoWholeHead(t *testing.T) {
	for _, first := range []string{"", "first", bytesOf(200)} {
		head := frames(first)
		for count := range api.MaxFiles + 1 {
			for _, from := range []int{0, 1, 2, high - count + 1} {
				var files []api.File
				for i := range count {
					files = append(files, f(from+i, frames("torn")[:1]))
				}
				d := loaded(t, len(head), files...)
				stands(t, opened(t, d, first, first), 1, len(head))
				has(t, d, f(1, head))
				if n := stepsOf(t, big, files, func(d *disk.Disk) { Open(d, first) }); n != count+2 {
					t.Fatalf("%d steps, want %d", n, count+2)
				}
			}
		}
	}
}

// TestFirstTooLong: P17.1, Begin's error stands behind the removals.
func TestFirstTooLong(t *testing.T) {
	torn := []api.File{f(1, "\xe7"), f(8, "\xe7\x03")}
	for _, first := range tooLong() {
		d := loaded(t, big)
		refused(t, api.ErrBig, d, first)
		has(t, d)
		d = loaded(t, 2, torn[0])
		refused(t, api.ErrBig, d, first)
		has(t, d)
		d = loaded(t, 100, torn...)
		tells(t, d.Arm(2), api.OK)
		refused(t, api.ErrDead, d, first)
		has(t, d, torn[1])
		d = loaded(t, 100, torn...)
		tells(t, d.Arm(3), api.OK)
		refused(t, api.ErrBig, d, first)
		has(t, d)
	}
}

// TestRoomOfTheFirstFile: P17.1, just enough, and a byte less.
func TestRoomOfTheFirstFile(t *testing.T) {
	for _, first := range edgeBodies() {
		head := frames(first)
		opened(t, loaded(t, len(head)), first, first)
		d := loaded(t, len(head)-1)
		tells(t, d.Arm(1), api.OK)
		refused(t, api.ErrFull, d, first)
		has(t, d)
		d = loaded(t, len(head)-1, f(1, head[:3]), f(4, "\xe7"))
		refused(t, api.ErrFull, d, first)
		has(t, d)
	}
	refused(t, api.ErrFull, loaded(t, 0), "")
}

// TestNil: P17.2.
func TestNil(t *testing.T) {
	for _, l := range []*Log{nil, {}, new(Log)} {
		for _, body := range append(edgeBodies(), tooLong()...) {
			tells(t, l.Append(body), api.ErrNil)
			tells(t, l.Turn(body), api.ErrNil)
		}
		stands(t, l, 0, 0)
	}
}

// TestAppend: P17.3, bodies of each length, one behind the other.
func TestAppend(t *testing.T) {
	for _, number := range []int{0, 1, high} {
		bodies := []string{"head"}
		d := loaded(t, big, f(number, frames(bodies...)))
		l := opened(t, d, "x", bodies...)
		for _, body := range edgeBodies() {
			tells(t, l.Append(body), api.OK)
			bodies = append(bodies, body)
			has(t, d, f(number, frames(bodies...)))
			stands(t, l, number, len(frames(bodies...)))
		}
		opened(t, d, "x", bodies...)
	}
	if n := stepsOf(t, 100, []api.File{f(1, frames("h"))}, func(d *disk.Disk) { opened(t, d, "x", "h").Append("a") }); n != 2 {
		t.Errorf("%d steps, want an Append and a Sync", n)
	}
}

// TestTurn: P17.4, bodies of each length, from file to file.
func TestTurn(t *testing.T) {
	for _, number := range []int{0, 1, high - 20} {
		d := loaded(t, big, f(number, frames("head")))
		l := opened(t, d, "x", "head")
		for i, body := range edgeBodies() {
			tells(t, l.Append("more"), api.OK)
			tells(t, l.Turn(body), api.OK)
			has(t, d, f(number+i+1, frames(body)))
			stands(t, l, number+i+1, len(frames(body)))
			opened(t, d, "x", body)
		}
	}
	if n := stepsOf(t, 100, []api.File{f(1, frames("h"))}, func(d *disk.Disk) { opened(t, d, "x", "h").Turn("a") }); n != 3 {
		t.Errorf("%d steps, want an Append, a Sync and a Remove", n)
	}
}

// TestBodiesTooLong: P17.3, P17.4: nothing is done, and the log goes on.
func TestBodiesTooLong(t *testing.T) {
	for _, body := range tooLong() {
		d := loaded(t, 60)
		l := opened(t, d, "x", "x")
		tells(t, d.Arm(1), api.OK)
		tells(t, l.Append(body), api.ErrBig)
		tells(t, l.Turn(body), api.ErrBig)
		has(t, d, f(1, frames("x")))
		stands(t, l, 1, 12)
		tells(t, d.Arm(0), api.OK)
		tells(t, l.Append("a"), api.OK)
		tells(t, l.Turn("b"), api.OK)
		opened(t, d, "x", "b")
	}
}

// TestRoomOfAppend: P17.3, just enough, and a byte less: nothing is done, and the log goes on.
func TestRoomOfAppend(t *testing.T) {
	for _, body := range edgeBodies() {
		had, frame := frames("head", "a"), frames(body)
		d := loaded(t, len(had)+len(frame), f(1, had))
		l := opened(t, d, "x", "head", "a")
		tells(t, l.Append(body), api.OK)
		tells(t, l.Append(""), api.ErrFull)
		stands(t, l, 1, len(had)+len(frame))

		d = loaded(t, len(had)+len(frame)-1, f(1, had))
		l = opened(t, d, "x", "head", "a")
		tells(t, d.Arm(1), api.OK)
		for range 3 {
			tells(t, l.Append(body), api.ErrFull)
			has(t, d, f(1, had))
			stands(t, l, 1, len(had))
		}
		tells(t, d.Arm(0), api.OK)
		opened(t, d, "x", "head", "a")
		if len(body) > 0 {
			tells(t, l.Append(body[1:]), api.OK)
			opened(t, d, "x", "head", "a", body[1:])
		}
	}
}

// TestRoomOfTurn: P17.4, just enough for both files, and a byte less: nothing is done, and the log goes on.
func TestRoomOfTurn(t *testing.T) {
	for _, body := range edgeBodies() {
		had, head := frames("head", "a"), frames(body)
		d := loaded(t, len(had)+len(head), f(1, had))
		l := opened(t, d, "x", "head", "a")
		tells(t, l.Turn(body), api.OK)
		stands(t, l, 2, len(head))
		has(t, d, f(2, head))

		d = loaded(t, len(had)+len(head)-1, f(1, had))
		l = opened(t, d, "x", "head", "a")
		tells(t, d.Arm(1), api.OK)
		for range 3 {
			tells(t, l.Turn(body), api.ErrFull)
			has(t, d, f(1, had))
			stands(t, l, 1, len(had))
		}
		tells(t, d.Arm(0), api.OK)
		opened(t, d, "x", "head", "a")
		if len(body) > 0 {
			tells(t, l.Append(body[1:]), api.OK)
			opened(t, d, "x", "head", "a", body[1:])
		}
	}
}

// TestAsManyFilesAsThereMayBe: P17.1, P17.3, P17.4: a Turn needs a place for one more.
func TestAsManyFilesAsThereMayBe(t *testing.T) {
	d := loaded(t, 1000)
	l := opened(t, d, "x", "x")
	for i := range api.MaxFiles - 2 {
		tells(t, d.Append(100+i, "\xe7"), api.OK)
	}
	tells(t, l.Turn("a"), api.OK)
	stands(t, l, 2, 12)
	tells(t, d.Append(200, "\xe7"), api.OK)
	was := d.Image()
	tells(t, d.Arm(1), api.OK)
	tells(t, l.Turn("b"), api.ErrFull)
	has(t, d, was...)
	stands(t, l, 2, 12)
	tells(t, d.Arm(0), api.OK)
	tells(t, l.Append("c"), api.OK)
	stands(t, l, 2, 24)
	if len(d.Files()) != api.MaxFiles {
		t.Fatal(d.Files())
	}
	m := opened(t, d, "x", "a", "c")
	has(t, d, f(2, frames("a", "c")))
	tells(t, m.Turn("b"), api.OK)
	opened(t, d, "x", "b")
}

// TestLastNumber: P17.4, the greatest number, and the one below it.
func TestLastNumber(t *testing.T) {
	d := loaded(t, 200, f(high-1, frames("h")))
	l := opened(t, d, "x", "h")
	tells(t, l.Turn("a"), api.OK)
	stands(t, l, high, 12)
	has(t, d, f(high, frames("a")))
	tells(t, d.Arm(1), api.OK)
	for _, body := range append(edgeBodies(), tooLong()...) {
		tells(t, l.Turn(body), api.ErrFull)
		has(t, d, f(high, frames("a")))
		stands(t, l, high, 12)
	}
	tells(t, d.Arm(0), api.OK)
	tells(t, l.Append("b"), api.OK)
	stands(t, opened(t, d, "x", "a", "b"), high, 24)
}

// TestErrorsInOrder: P17.3, P17.4: what the chapter names first is told, on a disk whose power has gone.
func TestErrorsInOrder(t *testing.T) {
	long := tooLong()[0]
	d := loaded(t, 12, f(high, frames("h")))
	l := opened(t, d, "x", "h")
	tells(t, d.Crash(), api.OK)
	tells(t, l.Turn("a"), api.ErrFull)
	tells(t, l.Turn(long), api.ErrFull)
	tells(t, l.Append(long), api.ErrBig)
	tells(t, l.Append("a"), api.ErrDead)
	tells(t, l.Append(long), api.ErrDead)
	tells(t, l.Turn(long), api.ErrDead)

	d = loaded(t, 12, f(1, frames("h")))
	l = opened(t, d, "x", "h")
	tells(t, d.Crash(), api.OK)
	tells(t, l.Turn(long), api.ErrBig)
	tells(t, l.Turn("a"), api.ErrDead)
	tells(t, l.Turn(long), api.ErrDead)
	tells(t, l.Append(long), api.ErrDead)
}

// TestBroken: a log that breaks, at each step, stays so, also when the disk has power again, and does nothing.
func TestBroken(t *testing.T) {
	had := frames("h", "a")
	breaks := []struct {
		what   string
		n      int
		x      deed
		number int
	}{
		{"Append's Append", 1, deed{false, "b"}, 1},
		{"Append's Sync", 2, deed{false, "b"}, 1},
		{"Turn's Append", 1, deed{true, "b"}, 1},
		{"Turn's Sync", 2, deed{true, "b"}, 1},
		{"Turn's Remove", 3, deed{true, "b"}, 2},
	}
	for _, b := range breaks {
		for keep := range 14 {
			size := sizeBehind(b.x, len(had), b.n, keep)
			d := loaded(t, 1000, f(1, had))
			l := opened(t, d, "x", "h", "a")
			tells(t, d.Arm(b.n, same(keep)...), api.OK)
			tells(t, b.x.do(l), api.ErrDead)
			if keep%2 == 0 { // no call that would break the log anew stands ahead of the power
				tells(t, d.Boot(), api.OK)
			}
			for range 2 {
				was := d.Image()
				for _, body := range []string{"", "c", tooLong()[0]} {
					tells(t, l.Append(body), api.ErrDead)
					tells(t, l.Turn(body), api.ErrDead)
				}
				has(t, d, was...)
				if l.Number() != b.number || l.Size() != size {
					t.Errorf("%s: Number, Size = %d, %d, want %d, %d", b.what, l.Number(), l.Size(), b.number, size)
				}
				tells(t, d.Boot(), api.OK)
			}
			m, _, e := Open(d, "x")
			tells(t, e, api.OK)
			tells(t, m.Append("z"), api.OK)
			tells(t, m.Turn("t"), api.OK)
			tells(t, l.Append("c"), api.ErrDead)
			tells(t, l.Turn("c"), api.ErrDead)
			opened(t, d, "x", "t")
		}
	}
}

// TestNotBroken: a log breaks by what a call of its disk tells, by nothing else.
func TestNotBroken(t *testing.T) {
	d := loaded(t, 60)
	l := opened(t, d, "x", "x")
	tells(t, d.Crash(), api.OK)
	stands(t, l, 1, 12)
	tells(t, l.Append(tooLong()[0]), api.ErrBig)
	tells(t, d.Boot(), api.OK)
	tells(t, l.Append("a"), api.OK)
	tells(t, l.Append(bytesOf(40)), api.ErrFull)
	tells(t, l.Turn(bytesOf(40)), api.ErrFull)
	tells(t, d.Crash(), api.OK)
	tells(t, d.Boot(), api.OK)
	tells(t, l.Turn("b"), api.OK)
	tells(t, l.Append("c"), api.OK)
	stands(t, opened(t, d, "x", "b", "c"), 2, 24)
}

// TestFileOfTheLogIsGone: P17.4, whoever shares the disk has removed it: Remove's error is told, and the log has the new file.
func TestFileOfTheLogIsGone(t *testing.T) {
	d := loaded(t, 60)
	l := opened(t, d, "x", "x")
	tells(t, d.Remove(1), api.OK)
	stands(t, l, 1, 0)
	tells(t, l.Turn("a"), api.ErrFile)
	stands(t, l, 2, 12)
	tells(t, l.Append("b"), api.OK)
	tells(t, l.Turn("c"), api.OK)
	stands(t, opened(t, d, "x", "c"), 3, 12)
}

// TestNumberAndSize: P17.5, of a log that goes on, opens anew, and loses its power.
func TestNumberAndSize(t *testing.T) {
	d := loaded(t, 1000)
	l := opened(t, d, "first", "first")
	number, bodies := 1, []string{"first"}
	for i := range 12 {
		body := strings.Repeat("b", i)
		if i%4 == 3 {
			tells(t, l.Turn(body), api.OK)
			number, bodies = number+1, []string{body}
		} else {
			tells(t, l.Append(body), api.OK)
			bodies = append(bodies, body)
		}
		stands(t, l, number, len(frames(bodies...)))
		stands(t, opened(t, d, "x", bodies...), number, len(frames(bodies...)))
		if data, e := d.Read(l.Number()); e != api.OK || len(data) != l.Size() {
			t.Fatalf("the file has %d bytes, error %d", len(data), int(e))
		}
	}
	tells(t, d.Crash(), api.OK)
	stands(t, l, number, len(frames(bodies...)))
}

// sizeBehind is how many bytes the log's file has once the power went at the n-th step of a deed, and so many of the bytes that were not synced stayed: those of a Turn stand in another file than the log's till they are synced.
func sizeBehind(x deed, had, n, keep int) int {
	laid := len(frames(x.body))
	if !x.turn {
		return had + min(max(keep, 0), laid)
	}
	if n == 3 {
		return laid
	}
	return had
}

// TestSizeBehindAFall: P17.5, the power goes at each step of an Append and of a Turn, and each number of bytes stays: Size tells what the file has, also once the disk has power again, and once another log has cut the file.
func TestSizeBehindAFall(t *testing.T) {
	const number = 5
	for _, bodies := range [][]string{{""}, {"h", "", "abc"}, {bytesOf(longest)}} {
		had := frames(bodies...)
		for _, body := range []string{"", "b", frames("a"), bytesOf(130)} {
			for _, x := range []deed{{false, body}, {true, body}} {
				steps := 2
				if x.turn {
					steps = 3
				}
				for n := 1; n <= steps; n++ {
					now := number
					if n == 3 {
						now++
					}
					for keep := -1; keep <= len(frames(body))+1; keep++ {
						d := loaded(t, big, f(number, had))
						l := opened(t, d, "x", bodies...)
						tells(t, d.Arm(n, same(keep)...), api.OK)
						tells(t, x.do(l), api.ErrDead)
						stands(t, l, now, sizeBehind(x, len(had), n, keep))
						stands(t, l, now, fileSize(d, now))
						tells(t, l.Append("more"), api.ErrDead)
						tells(t, l.Turn("more"), api.ErrDead)
						tells(t, d.Boot(), api.OK)
						stands(t, l, now, sizeBehind(x, len(had), n, keep))
						m, _, e := Open(d, "x")
						tells(t, e, api.OK)
						stands(t, m, m.Number(), fileSize(d, m.Number()))
						stands(t, l, now, fileSize(d, now))
					}
				}
			}
		}
	}
}

// TestSizeOfTheShortestLog: P17.5, a log of 11 bytes, an Append of 11 more, and what the file has behind each fall.
func TestSizeOfTheShortestLog(t *testing.T) {
	rows := []struct {
		n    int
		keep []int
		size int
	}{
		{1, nil, 11}, {2, nil, 11}, {1, []int{-7}, 11}, {2, []int{0}, 11}, {1, []int{5}, 16}, {2, []int{5}, 16},
		{1, []int{10}, 21}, {1, []int{11}, 22}, {2, []int{11}, 22}, {2, []int{12}, 22}, {1, []int{0, 11}, 11},
	}
	for _, row := range rows {
		d := loaded(t, 22)
		l := opened(t, d, "", "")
		stands(t, l, 1, 11)
		tells(t, d.Arm(row.n, row.keep...), api.OK)
		tells(t, l.Append(""), api.ErrDead)
		stands(t, l, 1, row.size)
	}
}

// TestSizeOnASharedDisk: P17.5, bytes that come and go by other calls than the log's.
func TestSizeOnASharedDisk(t *testing.T) {
	data := frames("h", "a")
	for synced := range len(data) + 1 {
		d := loaded(t, 100, api.File{Number: 3, Data: data, Synced: synced})
		l := opened(t, d, "x", "h", "a")
		stands(t, l, 3, len(data))
		tells(t, d.Crash(2), api.OK)
		stands(t, l, 3, min(synced+2, len(data)))
	}
	d := loaded(t, 100, f(3, data))
	l, m := opened(t, d, "x", "h", "a"), opened(t, d, "x", "h", "a")
	tells(t, m.Append("b"), api.OK)
	stands(t, l, 3, len(frames("h", "a", "b")))
	tells(t, d.Cut(3, len(data)), api.OK)
	stands(t, l, 3, len(data))
	stands(t, m, 3, len(data))
	tells(t, m.Turn("c"), api.OK)
	stands(t, m, 4, len(frames("c")))
	stands(t, l, 3, 0)
}

// images has disks of each kind that Open tells apart.
func images() [][]api.File {
	log, torn := frames("log", "", "abc"), frames("torn")
	return append(notLogs(),
		nil,
		[]api.File{f(1, log)},
		[]api.File{f(0, log+torn[:4])},
		[]api.File{f(high, log+"\xe7")},
		[]api.File{{Number: 5, Data: log + torn[:9], Synced: 20}},
		[]api.File{{Number: 5, Data: log, Synced: 0}},
		[]api.File{f(1, log), f(2, torn[:3])},
		[]api.File{f(1, log), f(2, torn)},
		[]api.File{f(1, "x"), f(3, log), f(4, log+torn[:2]), f(5, torn[:1]), f(9, torn[:9])},
		[]api.File{{Number: 1, Data: "x"}, {Number: 3, Data: log + torn[:5], Synced: 11}, {Number: 4, Data: torn[:3], Synced: 1}},
		[]api.File{f(1, torn[:2])},
		[]api.File{f(0, torn[:2]), f(1, torn[:3]), f(2, torn[:4]), f(3, torn[:1]), f(4, torn[:1]), f(5, torn[:1]), f(6, torn[:1]), f(7, torn[:1])},
		[]api.File{{Number: 2, Data: torn[:9], Synced: 3}, {Number: 7, Data: torn[:9]}},
	)
}

// TestEveryStepOfOpen: P17.1, wherever the power goes, each file is as the chapter's words leave it.
func TestEveryStepOfOpen(t *testing.T) {
	for _, files := range images() {
		for _, room := range []int{130, big} {
			for n := range 12 {
				for keep := range 14 {
					for _, first := range []string{"", "first", tooLong()[0]} {
						p := paired(t, room, files, n, same(keep)...)
						p.open(first)
						p.boot()
						p.open(first)
						p.open("other")
					}
				}
			}
		}
	}
}

// TestEveryStepOfARun: P17.3, P17.4, wherever the power goes, and what a log tells behind it.
func TestEveryStepOfARun(t *testing.T) {
	for _, files := range [][]api.File{nil, {f(1, frames("h"))}, {f(high-1, frames("h")+"\xe7")}, {f(3, "x"), f(4, frames("h")), f(5, "\xe7")}} {
		for _, room := range []int{30, 50, 70, 200} {
			for n := range 24 {
				for keep := range 16 {
					p := paired(t, room, files, n, same(keep)...)
					p.open("x")
					for _, body := range []string{"a", "", "bcd", tooLong()[0], "e"} {
						if p.log == nil {
							p.boot()
							p.open("x")
						}
						p.append(body)
						p.append("more")
						p.turn(body)
						p.append(body)
					}
					p.boot()
					p.append("late")
					p.open("x")
				}
			}
		}
	}
}

// TestKeptPlaceByPlace: P17.4, a Turn whose two files keep what they keep, each by its own number.
func TestKeptPlaceByPlace(t *testing.T) {
	files := []api.File{{Number: 1, Data: frames("h", "a"), Synced: 15}}
	for n := range 5 {
		for a := range 12 {
			for b := range 14 {
				p := paired(t, 100, files, n, a, b)
				p.open("x")
				p.turn("b")
				p.boot()
				p.open("x")
			}
		}
	}
}

// deed is a call of a log: an Append or a Turn.
type deed struct {
	turn bool
	body string
}

func (x deed) do(l *Log) api.Errno {
	if x.turn {
		return l.Turn(x.body)
	}
	return l.Append(x.body)
}

// after is the bodies once a deed is done.
func (x deed) after(bodies []string) []string {
	if x.turn {
		return []string{x.body}
	}
	return append(slices.Clone(bodies), x.body)
}

// reopen opens a disk that has power again, and sees that the bodies are among those that may be; the power goes in Open as well, at each of its steps, deep times.
func reopen(t *testing.T, room int, files []api.File, first string, deep int, may ...[]string) {
	t.Helper()
	d := loaded(t, room, files...)
	l, bodies, e := Open(d, first)
	if e != api.OK || !slices.ContainsFunc(may, func(x []string) bool { return slices.Equal(x, bodies) }) {
		t.Fatalf("of %s: Open tells %s, error %d, want one of %s", brief(files), brief(bodies), int(e), brief(may))
	}
	was := d.Image()
	opened(t, d, "other", bodies...)
	has(t, d, was...)
	tells(t, l.Turn("t"), api.OK)
	tells(t, l.Append("z"), api.OK)
	opened(t, d, first, "t", "z")
	for n := 1; deep > 0; n++ {
		for keep := range len(frames(first)) + 1 {
			d := loaded(t, room, files...)
			tells(t, d.Arm(n, same(keep)...), api.OK)
			_, got, e := Open(d, first)
			if e == api.OK {
				if !slices.Equal(got, bodies) {
					t.Fatalf("Open told %s, then %s", brief(bodies), brief(got))
				}
				return
			}
			tells(t, e, api.ErrDead)
			reopen(t, room, d.Image(), first, deep-1, bodies)
		}
	}
}

// TestCrash: P17.6, the power goes at each step of a run, with each number of bytes kept, and again within Open, and again.
func TestCrash(t *testing.T) {
	run := []deed{{false, "a"}, {false, ""}, {true, "bb"}, {false, "c"}, {true, ""}, {true, "d"}, {false, "\xe7\x03"}, {false, "e"}}
	const first, room = "x", 100
	for n := 1; ; n++ {
		for keep := range 15 {
			d := loaded(t, room)
			tells(t, d.Arm(n, same(keep)...), api.OK)
			l, bodies, e := Open(d, first)
			if e == api.ErrDead {
				reopen(t, room, d.Image(), first, 2, []string{first})
				continue
			}
			may := [][]string{bodies}
			for i := 0; i < len(run) && !d.Dead(); i++ {
				done := run[i].after(bodies)
				if e := run[i].do(l); e == api.OK {
					bodies, may = done, [][]string{done}
				} else {
					tells(t, e, api.ErrDead)
					may = [][]string{bodies, done}
				}
			}
			if !d.Dead() {
				opened(t, d, first, bodies...)
				if want := 2 + 2*5 + 3*3; n != want+1 {
					t.Fatalf("the run has %d steps, want %d", n-1, want)
				}
				return
			}
			reopen(t, room, d.Image(), first, 2, may...)
		}
	}
}

// TestWhatStaysOfADeed: P17.6, just where a deed that was not answered is there, and where it is not.
func TestWhatStaysOfADeed(t *testing.T) {
	had := frames("h", "a")
	for _, x := range []deed{{false, "new"}, {true, "new"}, {false, ""}, {true, ""}} {
		size := len(frames(x.body))
		for n := 1; n <= 2; n++ {
			for keep := range size + 2 {
				d := loaded(t, 100, f(1, had))
				l := opened(t, d, "x", "h", "a")
				tells(t, d.Arm(n, same(keep)...), api.OK)
				tells(t, x.do(l), api.ErrDead)
				tells(t, d.Boot(), api.OK)
				want := []string{"h", "a"}
				if keep >= size {
					want = x.after(want)
				}
				opened(t, d, "x", want...)
			}
		}
	}
	d := loaded(t, 100, f(1, had))
	l := opened(t, d, "x", "h", "a")
	tells(t, d.Arm(3), api.OK)
	tells(t, l.Turn("new"), api.ErrDead)
	tells(t, d.Boot(), api.OK)
	has(t, d, f(1, had), f(2, frames("new")))
	opened(t, d, "x", "new")
	has(t, d, f(2, frames("new")))
}

// TestOtherFirst: P17.6, a head that stayed whole is the log's, one that did not is begun anew.
func TestOtherFirst(t *testing.T) {
	for n := 1; n <= 2; n++ {
		for keep := range 16 {
			d := loaded(t, 14)
			tells(t, d.Arm(n, keep), api.OK)
			refused(t, api.ErrDead, d, "one")
			tells(t, d.Boot(), api.OK)
			if keep >= 14 {
				opened(t, d, "two", "one")
			} else {
				opened(t, d, "two", "two")
			}
		}
	}
}

// TestFullBehindAFall: P17.6, ErrFull is told of an Open that begins a log, and of no other one.
func TestFullBehindAFall(t *testing.T) {
	d := loaded(t, 14)
	tells(t, d.Arm(2, 3), api.OK)
	refused(t, api.ErrDead, d, "one")
	tells(t, d.Boot(), api.OK)
	refused(t, api.ErrFull, d, "longer")
	has(t, d)
	opened(t, d, "one", "one")
	tells(t, d.Crash(), api.OK)
	tells(t, d.Boot(), api.OK)
	opened(t, d, "longer", "one")
}

// TestRunsByChance: P17.1, P17.3, P17.4, P17.6: many deeds and falls on one disk, held against the chapter's words and against what may be there.
func TestRunsByChance(t *testing.T) {
	r := rand.New(rand.NewSource(17))
	for range 300 {
		room := 20 + r.Intn(300)
		p := paired(t, room, nil, 0)
		var sure []string
		var perhaps [][]string
		for range 120 {
			if r.Intn(4) == 0 {
				n, keep := r.Intn(6), []int{r.Intn(30), r.Intn(30), r.Intn(30)}
				p.hold("Arm", p.a.Arm(n, keep...), p.b.Arm(n, keep...))
			}
			if p.log == nil || r.Intn(12) == 0 {
				p.boot()
				if p.open("first") != api.OK {
					continue
				}
				_, bodies, _ := Open(p.a, "other")
				if len(perhaps) == 0 {
					perhaps = [][]string{{"first"}}
				}
				if !slices.ContainsFunc(perhaps, func(x []string) bool { return slices.Equal(x, bodies) }) {
					t.Fatalf("Open tells %s, want one of %s", brief(bodies), brief(perhaps))
				}
				sure, perhaps = bodies, [][]string{bodies}
			}
			x := deed{r.Intn(4) == 0, bytesOf(r.Intn(25))}
			dead := p.twin.broken || p.a.Dead()
			var e api.Errno
			if x.turn {
				e = p.turn(x.body)
			} else {
				e = p.append(x.body)
			}
			if e == api.OK {
				sure = x.after(sure)
				perhaps = [][]string{sure}
			} else if e == api.ErrDead && !dead {
				perhaps = [][]string{sure, x.after(sure)}
			}
		}
	}
}

// TestBack: P17.7, without crashes Open tells the bodies, and changes nothing; opened twice, a log is the same.
func TestBack(t *testing.T) {
	r := rand.New(rand.NewSource(177))
	for range 200 {
		d := loaded(t, 20000)
		first := bytesOf(r.Intn(40))
		l := opened(t, d, first, first)
		bodies := []string{first}
		for range r.Intn(30) {
			x := deed{r.Intn(5) == 0, bytesOf(r.Intn(300))}
			tells(t, x.do(l), api.OK)
			bodies = x.after(bodies)
			was := d.Image()
			tells(t, d.Arm(1), api.OK)
			a, b := opened(t, d, "other", bodies...), opened(t, d, "", bodies...)
			tells(t, d.Arm(0), api.OK)
			has(t, d, was...)
			stands(t, a, l.Number(), l.Size())
			stands(t, b, l.Number(), l.Size())
			if r.Intn(3) == 0 {
				l = b
			}
		}
	}
}

// TestNothingHandedInIsKept: rule 4, a body's memory is written anew behind each call.
func TestNothingHandedInIsKept(t *testing.T) {
	b := []byte("body")
	body := unsafe.String(&b[0], len(b))
	d := loaded(t, 200)
	l, told, e := Open(d, body)
	tells(t, e, api.OK)
	copy(b, "next")
	if !slices.Equal(told, []string{"body"}) {
		t.Errorf("the told body became %q", told)
	}
	tells(t, l.Append(body), api.OK)
	copy(b, "late")
	opened(t, d, "x", "body", "next")
	tells(t, l.Turn(body), api.OK)
	if string(b) != "late" {
		t.Errorf("the body became %q", b)
	}
	copy(b, "last")
	opened(t, d, "x", "late")
	has(t, d, f(2, frames("late")))
}

// TestAnswersAreNewMemory: rule 4, bodies that are told are nobody else's.
func TestAnswersAreNewMemory(t *testing.T) {
	d := loaded(t, 200)
	l := opened(t, d, "x", "x")
	tells(t, l.Append("a"), api.OK)
	_, one, _ := Open(d, "x")
	_, two, _ := Open(d, "x")
	for i := range one {
		if unsafe.StringData(one[i]) == unsafe.StringData(two[i]) {
			t.Errorf("body %d stands in another answer's memory", i)
		}
		one[i] = "changed"
	}
	if !slices.Equal(two, []string{"x", "a"}) {
		t.Errorf("answers share memory: %q", two)
	}
	tells(t, l.Append("b"), api.OK)
	opened(t, d, "x", "x", "a", "b")
}

// TestLogsAreAlone: rule 5, logs of two disks don't touch each other.
func TestLogsAreAlone(t *testing.T) {
	a, b := loaded(t, 200), loaded(t, 200)
	l, m := opened(t, a, "x", "x"), opened(t, b, "y", "y")
	tells(t, l.Append("a"), api.OK)
	tells(t, m.Turn("b"), api.OK)
	tells(t, a.Crash(), api.OK)
	tells(t, l.Append("c"), api.ErrDead)
	tells(t, m.Append("c"), api.OK)
	stands(t, l, 1, 24)
	stands(t, m, 2, 24)
	opened(t, b, "x", "b", "c")
}
