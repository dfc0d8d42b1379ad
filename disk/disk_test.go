package disk

import (
	"fmt"
	"math"
	"math/rand"
	"slices"
	"strings"
	"testing"
	"unsafe"

	"entente/api"
)

const (
	most  = math.MaxInt
	least = math.MinInt
	big   = 200000  // the chapter's MaxDisk
	high  = 1000000 // the chapter's greatest number
)

// cell is one byte of a file.
type cell struct {
	b    byte
	safe bool
}

// folder is a file of the chapter's own words, byte by byte.
type folder struct {
	number int
	cells  []cell
}

// plain is the chapter's own words: files in a list, their numbers rising, looked through one by one.
type plain struct {
	room  int
	list  []folder
	dead  bool
	armed bool
	left  int
	keep  []int
}

func (p *plain) place(number int) int {
	for i, f := range p.list {
		if f.number == number {
			return i
		}
	}
	return -1
}

func (p *plain) used() int {
	n := 0
	for _, f := range p.list {
		n += len(f.cells)
	}
	return n
}

func (p *plain) image() []api.File {
	var l []api.File
	for _, f := range p.list {
		x := api.File{Number: f.number}
		for _, c := range f.cells {
			x.Data += string([]byte{c.b})
			if c.safe {
				x.Synced++
			}
		}
		l = append(l, x)
	}
	return l
}

func (p *plain) crash(keep []int) {
	var list []folder
	for i, f := range p.list {
		n := 0
		if i < len(keep) {
			n = keep[i]
		}
		var cells []cell
		for _, c := range f.cells {
			if c.safe {
				cells = append(cells, c)
			} else if n > 0 {
				n--
				cells = append(cells, cell{c.b, true})
			}
		}
		if len(cells) > 0 {
			list = append(list, folder{f.number, cells})
		}
	}
	p.list, p.dead, p.armed = list, true, false
}

// last counts a step: is it the last one?
func (p *plain) last() bool {
	if p.armed {
		p.left--
	}
	return p.armed && p.left == 0
}

func (p *plain) append(number int, data string) api.Errno {
	at := p.place(number)
	switch {
	case p.dead:
		return api.ErrDead
	case number < 0 || number > 1000000:
		return api.ErrArg
	case at < 0 && len(p.list) == 8, p.used()+len(data) > p.room:
		return api.ErrFull
	case len(data) == 0:
		return api.OK
	}
	if at < 0 {
		for at = 0; at < len(p.list) && p.list[at].number < number; at++ {
		}
		p.list = slices.Insert(p.list, at, folder{number: number})
	}
	for i := range len(data) {
		p.list[at].cells = append(p.list[at].cells, cell{b: data[i]})
	}
	if p.last() {
		p.crash(p.keep)
		return api.ErrDead
	}
	return api.OK
}

// change is Sync with a size of -1, Remove with one of -2, else Cut.
func (p *plain) change(number, size int) api.Errno {
	at := p.place(number)
	switch {
	case p.dead:
		return api.ErrDead
	case at < 0:
		return api.ErrFile
	}
	if p.last() {
		p.crash(p.keep)
		return api.ErrDead
	}
	if size == -2 {
		p.list = slices.Delete(p.list, at, at+1)
		return api.OK
	}
	if size >= 0 {
		p.list[at].cells = p.list[at].cells[:size]
	}
	for i := range p.list[at].cells {
		p.list[at].cells[i].safe = true
	}
	return api.OK
}

func (p *plain) cut(number, size int) api.Errno {
	if at := p.place(number); !p.dead && at >= 0 && (size < 1 || size > len(p.list[at].cells)) {
		return api.ErrArg
	}
	return p.change(number, size)
}

func (p *plain) arm(n int, keep []int) api.Errno {
	switch {
	case p.dead:
		return api.ErrDead
	case n < 0:
		return api.ErrArg
	}
	p.armed, p.left, p.keep = n > 0, n, slices.Clone(keep)
	return api.OK
}

func (p *plain) fall(keep []int) api.Errno {
	if p.dead {
		return api.ErrDead
	}
	p.crash(keep)
	return api.OK
}

// f is a file.
func f(number int, data string, synced int) api.File {
	return api.File{Number: number, Data: data, Synced: synced}
}

// made has a disk with files.
func made(t *testing.T, room int, l ...api.File) *Disk {
	t.Helper()
	d, e := Load(room, l...)
	if d == nil || e != api.OK {
		t.Fatalf("Load(%d, %v) = %v, %d", room, l, d, e)
	}
	return d
}

// crowd has files 10, 20, and so on, each with two bytes, the first of them synced.
func crowd(count int) []api.File {
	var l []api.File
	for i := range count {
		l = append(l, f(10*(i+1), "ab", 1))
	}
	return l
}

// is fails, unless an answer is the one that is wanted.
func is(t *testing.T, what string, e, want api.Errno) {
	t.Helper()
	if e != want {
		t.Errorf("%s = %d; want %d", what, e, want)
	}
}

// same fails, unless a disk has just these files, and power or not, by each of its looks.
func same(t *testing.T, d *Disk, dead bool, want ...api.File) {
	t.Helper()
	if l := d.Image(); !slices.Equal(l, want) {
		t.Errorf("Image = %v; want %v", l, want)
	}
	if d.Dead() != dead {
		t.Errorf("Dead = %v", d.Dead())
	}
	var numbers []int
	used := 0
	for _, x := range want {
		numbers = append(numbers, x.Number)
		used += len(x.Data)
		s, e := d.Read(x.Number)
		if dead && (s != "" || e != api.ErrDead) || !dead && (s != x.Data || e != api.OK) {
			t.Errorf("Read(%d) = %q, %d; want %q", x.Number, s, e, x.Data)
		}
	}
	if l := d.Files(); !slices.Equal(l, numbers) {
		t.Errorf("Files = %v; want %v", l, numbers)
	}
	if d.Used() != used {
		t.Errorf("Used = %d; want %d", d.Used(), used)
	}
}

// unarmed fails, if anything is armed: of many steps each is done. The disk is as before then.
func unarmed(t *testing.T, d *Disk) {
	t.Helper()
	was := d.Image()
	for i := range 20 {
		if e := d.Append(999998, "x"); e != api.OK {
			t.Fatalf("step %d = %d", i, e)
		}
		if e := d.Remove(999998); e != api.OK {
			t.Fatalf("step %d = %d", i, e)
		}
	}
	same(t, d, false, was...)
}

// The chapter's example.
func TestExample(t *testing.T) {
	d := made(t, 100)
	is(t, "Append", d.Append(1, "ab"), api.OK)
	is(t, "Sync", d.Sync(1), api.OK)
	is(t, "Append", d.Append(1, "cd"), api.OK)
	is(t, "Crash", d.Crash(1), api.OK)
	same(t, d, true, f(1, "abc", 3))
}

// P15.1: a disk of each room that may be, without files, with power, not armed.
func TestNew(t *testing.T) {
	for _, room := range []int{0, 1, 2, 100, big - 1, big} {
		d, e := New(room)
		if d == nil || e != api.OK {
			t.Fatalf("New(%d) = %v, %d", room, d, e)
		}
		same(t, d, false)
		if room > 0 {
			unarmed(t, d)
		}
		is(t, "more than the room", d.Append(0, strings.Repeat("x", room+1)), api.ErrFull)
		same(t, d, false)
		is(t, "the room", d.Append(0, strings.Repeat("x", room)), api.OK)
		if d.Used() != room {
			t.Errorf("of a disk with the room %d %d are used", room, d.Used())
		}
	}
}

// P15.1: ErrArg, and no disk, of all other rooms, with files and without.
func TestWrongRooms(t *testing.T) {
	for _, room := range []int{-1, -2, -big, least, least + 1, math.MinInt32, big + 1, big + 2, math.MaxInt32, 1 << 32, most - 1, most} {
		if d, e := New(room); d != nil || e != api.ErrArg {
			t.Errorf("New(%d) = %v, %d", room, d, e)
		}
		if d, e := Load(room); d != nil || e != api.ErrArg {
			t.Errorf("Load(%d) = %v, %d", room, d, e)
		}
		if d, e := Load(room, f(1, "a", 1)); d != nil || e != api.ErrArg {
			t.Errorf("Load(%d) of a file = %v, %d", room, d, e)
		}
	}
}

// P15.1: Load of files that may be.
func TestLoad(t *testing.T) {
	for _, l := range [][]api.File{
		nil,
		{},
		{f(0, "a", 0)},
		{f(0, "a", 1)},
		{f(1000000, "abc", 2)},
		{f(0, "abc", 0), f(1, "abc", 3), f(999999, "x", 1), f(1000000, "\x00\xff", 1)},
		{f(5, "abc", 1), f(6, "abc", 1), f(7, "abc", 1)},
		crowd(7),
		crowd(8),
	} {
		d := made(t, 100, l...)
		same(t, d, false, l...)
		if len(l) < 8 {
			unarmed(t, d)
		}
		is(t, "Boot", d.Boot(), api.OK)
		same(t, d, false, l...)
	}
}

// P15.1: what Load says is synced, and no more, is what stays.
func TestLoadSynced(t *testing.T) {
	d := made(t, 100, f(1, "abc", 0), f(2, "abc", 1), f(3, "abc", 2), f(4, "abc", 3))
	is(t, "Crash", d.Crash(), api.OK)
	same(t, d, true, f(2, "a", 1), f(3, "ab", 2), f(4, "abc", 3))
}

// P15.1: ErrArg, and no disk, of files that may not be.
func TestLoadWrongFiles(t *testing.T) {
	for _, l := range [][]api.File{
		{f(-1, "a", 0)},
		{f(least, "a", 0)},
		{f(1000001, "a", 0)},
		{f(most, "a", 0)},
		{f(1, "a", 0), f(1, "a", 0)},
		{f(0, "a", 0), f(0, "a", 0)},
		{f(1000000, "a", 0), f(1000000, "a", 0)},
		{f(2, "a", 0), f(1, "a", 0)},
		{f(1, "a", 0), f(3, "a", 0), f(2, "a", 0)},
		{f(1, "a", 0), f(2, "a", 0), f(1, "a", 0)},
		{f(most, "a", 0), f(least, "a", 0)},
		{f(1, "a", 0), f(1000001, "a", 0)},
		{f(-1, "a", 0), f(1, "a", 0)},
		{f(1, "", 0)},
		{f(0, "", 0)},
		{{}},
		{f(1, "a", 0), f(2, "", 0), f(3, "a", 0)},
		{f(1, "a", 0), f(2, "", 0)},
		{f(1, "abc", -1)},
		{f(1, "abc", least)},
		{f(1, "abc", 4)},
		{f(1, "abc", most)},
		{f(1, "abc", 3), f(2, "a", 2)},
		{f(1, "abc", 3), f(2, "a", -1)},
		{f(1, "a", 2), f(2, "abc", 3)},
		crowd(9),
		crowd(20),
	} {
		if d, e := Load(100, l...); d != nil || e != api.ErrArg {
			t.Errorf("Load of %v = %v, %d", l, d, e)
		}
	}
}

// P15.1: Load of just as many bytes as there is room for, and of one more.
func TestLoadRoom(t *testing.T) {
	row := strings.Repeat("x", big)
	for _, sizes := range [][]int{{0}, {1}, {10}, {big}, {4, 6}, {1, 1, 1, 1, 1, 1, 1, 1}, {big / 2, big / 2}, {big - 1, 1}, {1, big - 1}} {
		var l []api.File
		sum := 0
		for i, n := range sizes {
			sum += n
			if n > 0 {
				l = append(l, f(i, row[:n], n/2))
			}
		}
		same(t, made(t, sum, l...), false, l...)
		if sum < big {
			same(t, made(t, sum+1, l...), false, l...)
		}
		if d, e := Load(sum-1, l...); d != nil || e != api.ErrArg {
			t.Errorf("Load(%d) of sizes %v: %d", sum-1, sizes, e)
		}
	}
	if d, e := Load(big, f(0, row+"x", 0)); d != nil || e != api.ErrArg {
		t.Errorf("Load of a file that is too great: %d", e)
	}
	if d, e := Load(big, f(0, row, 0), f(1, "x", 0)); d != nil || e != api.ErrArg {
		t.Errorf("Load of files that together are too great: %d", e)
	}
	huge := strings.Repeat(row, 40)
	if d, e := Load(big, f(0, huge, 0), f(1, huge, 0)); d != nil || e != api.ErrArg {
		t.Errorf("Load of huge files: %d", e)
	}
}

// P15.1: disks know nothing of each other.
func TestOwn(t *testing.T) {
	l := []api.File{f(1, "abc", 1), f(2, "de", 0)}
	c, d := made(t, 10, l...), made(t, 10, l...)
	is(t, "Append", c.Append(1, "xyz"), api.OK)
	is(t, "Remove", c.Remove(2), api.OK)
	same(t, d, false, l...)
	is(t, "Crash", d.Crash(), api.OK)
	same(t, c, false, f(1, "abcxyz", 1))
	same(t, d, true, f(1, "a", 1))
}

// P15.1: every call of nil, and of a Disk that no call made, again and again.
func TestNone(t *testing.T) {
	var blank Disk
	for i, d := range []*Disk{nil, {}, new(Disk), &blank} {
		for range 3 {
			for _, n := range []int{least, -1, 0, 1, 2, high, high + 1, most} {
				for _, data := range []string{"", "a", strings.Repeat("x", big+1)} {
					is(t, fmt.Sprint(i, " Append"), d.Append(n, data), api.ErrNil)
				}
				if s, e := d.Read(n); s != "" || e != api.ErrNil {
					t.Errorf("%d: Read(%d) = %q, %d", i, n, s, e)
				}
				is(t, fmt.Sprint(i, " Sync"), d.Sync(n), api.ErrNil)
				is(t, fmt.Sprint(i, " Remove"), d.Remove(n), api.ErrNil)
				is(t, fmt.Sprint(i, " Cut"), d.Cut(n, 1), api.ErrNil)
				is(t, fmt.Sprint(i, " Cut"), d.Cut(1, n), api.ErrNil)
				is(t, fmt.Sprint(i, " Arm"), d.Arm(n), api.ErrNil)
				is(t, fmt.Sprint(i, " Arm"), d.Arm(n, 1, 2, 3), api.ErrNil)
				is(t, fmt.Sprint(i, " Crash"), d.Crash(n), api.ErrNil)
			}
			is(t, fmt.Sprint(i, " Crash"), d.Crash(), api.ErrNil)
			is(t, fmt.Sprint(i, " Boot"), d.Boot(), api.ErrNil)
			if d.Dead() || len(d.Files()) != 0 || len(d.Image()) != 0 || d.Used() != 0 {
				t.Errorf("%d: there is something", i)
			}
		}
	}
}

// P15.2: the looks tell the files by their numbers, however they came to be there.
func TestLooks(t *testing.T) {
	d := made(t, 100)
	var want []api.File
	for _, n := range []int{700, 3, 1000000, 0, 55, 54, 56, 1} {
		data := fmt.Sprintf("of %d", n)
		is(t, "Append", d.Append(n, data), api.OK)
		want = append(want, f(n, data, 0))
		slices.SortFunc(want, func(a, b api.File) int { return a.Number - b.Number })
		same(t, d, false, want...)
		same(t, d, false, want...)
	}
}

// P15.2: Read of files that are not there.
func TestReadNone(t *testing.T) {
	d := made(t, 100, f(1, "abc", 1), f(3, "d", 0))
	for _, n := range []int{least, -1, 0, 2, 4, high, high + 1, most} {
		if s, e := d.Read(n); s != "" || e != api.ErrFile {
			t.Errorf("Read(%d) = %q, %d", n, s, e)
		}
	}
	same(t, d, false, f(1, "abc", 1), f(3, "d", 0))
}

// P15.2: a dead disk is looked at, but not read, whatever the number; behind Boot it is.
func TestLooksOfDead(t *testing.T) {
	d := made(t, 100, f(1, "abc", 2), f(3, "d", 1))
	is(t, "Crash", d.Crash(), api.OK)
	same(t, d, true, f(1, "ab", 2), f(3, "d", 1))
	for _, n := range []int{least, -1, 0, 1, 2, 3, high + 1, most} {
		if s, e := d.Read(n); s != "" || e != api.ErrDead {
			t.Errorf("Read(%d) = %q, %d", n, s, e)
		}
	}
	is(t, "Boot", d.Boot(), api.OK)
	same(t, d, false, f(1, "ab", 2), f(3, "d", 1))
	if s, e := d.Read(2); s != "" || e != api.ErrFile {
		t.Errorf("Read(2) = %q, %d", s, e)
	}
}

// P15.3: data stands behind the file's bytes, whatever bytes they are, and is not synced.
func TestAppend(t *testing.T) {
	d := made(t, 1000)
	is(t, "Append", d.Append(0, "a"), api.OK)
	is(t, "Append", d.Append(1000000, "\x00\xff"), api.OK)
	same(t, d, false, f(0, "a", 0), f(1000000, "\x00\xff", 0))
	is(t, "Append", d.Append(0, "bc"), api.OK)
	is(t, "Sync", d.Sync(0), api.OK)
	is(t, "Append", d.Append(0, "abc"), api.OK)
	same(t, d, false, f(0, "abcabc", 3), f(1000000, "\x00\xff", 0))
	is(t, "Append", d.Append(0, "\xc3\x28é\n"), api.OK)
	same(t, d, false, f(0, "abcabc\xc3\x28é\n", 3), f(1000000, "\x00\xff", 0))
}

// P15.3: ErrArg of numbers that may not be, also of empty data and of too much.
func TestAppendWrongNumbers(t *testing.T) {
	for _, l := range [][]api.File{nil, {f(0, "abc", 1), f(1000000, "de", 0)}, crowd(8)} {
		d := made(t, 20, l...)
		for _, n := range []int{-1, -2, least, math.MinInt32, 1000001, 1000002, math.MaxInt32, 1 << 32, most} {
			for _, data := range []string{"", "a", strings.Repeat("x", 20), strings.Repeat("x", 21)} {
				is(t, fmt.Sprintf("Append(%d, %q)", n, data), d.Append(n, data), api.ErrArg)
			}
		}
		same(t, d, false, l...)
	}
}

// P15.3: empty data changes nothing; a file that is not there does not begin; where there are MaxFiles it is refused.
func TestAppendEmpty(t *testing.T) {
	for count := range 9 {
		l := crowd(count)
		for _, room := range []int{2 * count, 2*count + 1, 100} {
			d := made(t, room, l...)
			for _, n := range []int{0, 10, 11, 80, 1000000} {
				want := api.OK
				if count == 8 && n != 10 && n != 80 {
					want = api.ErrFull
				}
				is(t, fmt.Sprintf("Append(%d, nothing) of %d files", n, count), d.Append(n, ""), want)
			}
			same(t, d, false, l...)
		}
	}
}

// P15.3: empty data is no step.
func TestAppendEmptyIsNoStep(t *testing.T) {
	d := made(t, 10, f(1, "abc", 1))
	is(t, "Arm", d.Arm(1, 2), api.OK)
	for range 5 {
		is(t, "Append of nothing", d.Append(1, ""), api.OK)
		is(t, "Append of nothing", d.Append(2, ""), api.OK)
	}
	same(t, d, false, f(1, "abc", 1))
	is(t, "the step", d.Append(1, "d"), api.ErrDead)
	same(t, d, true, f(1, "abc", 3))
}

// P15.3: data that just fills the room, and one byte more, to a file that is there and to one that is not.
func TestAppendRoom(t *testing.T) {
	for _, room := range []int{3, 4, 10, 1000, big} {
		for _, n := range []int{1, 2} {
			d := made(t, room, f(1, "abc", 1))
			fits := strings.Repeat("x", room-3)
			is(t, "one byte more", d.Append(n, fits+"x"), api.ErrFull)
			is(t, "many more", d.Append(n, fits+fits+"xy"), api.ErrFull)
			same(t, d, false, f(1, "abc", 1))
			is(t, "the room", d.Append(n, fits), api.OK)
			if d.Used() != room {
				t.Errorf("of %d %d are used", room, d.Used())
			}
			was := d.Image()
			is(t, "one more", d.Append(n, "y"), api.ErrFull)
			is(t, "one more in another file", d.Append(7, "y"), api.ErrFull)
			is(t, "none more", d.Append(n, ""), api.OK)
			same(t, d, false, was...)
			is(t, "Cut", d.Cut(1, 2), api.OK)
			if room > 3 || n == 2 {
				is(t, "two, where there is room for one", d.Append(1, strings.Repeat("z", room-d.Used()+1)), api.ErrFull)
			}
			is(t, "what was cut", d.Append(7, strings.Repeat("z", room-d.Used())), api.OK)
			if d.Used() != room {
				t.Errorf("of %d %d are used", room, d.Used())
			}
		}
	}
	d := made(t, 10)
	is(t, "far too much", d.Append(0, strings.Repeat("x", 10000000)), api.ErrFull)
	same(t, d, false)
}

// P15.3: no new file where there are MaxFiles, but more bytes for those that are there; and again, once one is gone.
func TestAppendFiles(t *testing.T) {
	l := crowd(8)
	d := made(t, 100, l...)
	for _, n := range []int{0, 9, 11, 81, 1000000} {
		is(t, "a ninth", d.Append(n, "x"), api.ErrFull)
	}
	same(t, d, false, l...)
	for i := range l {
		is(t, "more", d.Append(l[i].Number, "cd"), api.OK)
		l[i].Data += "cd"
	}
	same(t, d, false, l...)
	is(t, "Remove", d.Remove(30), api.OK)
	is(t, "an eighth", d.Append(31, "x"), api.OK)
	l[2] = f(31, "x", 0)
	same(t, d, false, l...)
	is(t, "a ninth", d.Append(30, "x"), api.ErrFull)
	is(t, "Crash", d.Crash(), api.OK)
	is(t, "Boot", d.Boot(), api.OK)
	is(t, "an eighth", d.Append(30, "x"), api.OK)
	is(t, "a ninth", d.Append(31, "x"), api.ErrFull)
}

// P15.3: seven files and an eighth.
func TestAppendEighthFile(t *testing.T) {
	d := made(t, 15)
	for i := range 7 {
		is(t, "Append", d.Append(i, "x"), api.OK)
	}
	is(t, "too many bytes for an eighth", d.Append(7, "123456789"), api.ErrFull)
	is(t, "an eighth", d.Append(7, "12345678"), api.OK)
	is(t, "a ninth", d.Append(8, ""), api.ErrFull)
}

// P15.4: Sync makes all bytes of one file safe.
func TestSync(t *testing.T) {
	for synced := range 4 {
		d := made(t, 100, f(1, "abc", 0), f(2, "abc", synced), f(3, "abc", 1))
		is(t, "Sync", d.Sync(2), api.OK)
		same(t, d, false, f(1, "abc", 0), f(2, "abc", 3), f(3, "abc", 1))
		is(t, "Sync", d.Sync(2), api.OK)
		same(t, d, false, f(1, "abc", 0), f(2, "abc", 3), f(3, "abc", 1))
		is(t, "Append", d.Append(2, "d"), api.OK)
		same(t, d, false, f(1, "abc", 0), f(2, "abcd", 3), f(3, "abc", 1))
		is(t, "Crash", d.Crash(), api.OK)
		same(t, d, true, f(2, "abc", 3), f(3, "a", 1))
	}
}

// P15.4: Cut leaves the first bytes, all of them synced, at once: for each size, and for each part that was synced.
func TestCut(t *testing.T) {
	const data = "abcdef"
	for synced := range len(data) + 1 {
		for size := -1; size <= len(data)+1; size++ {
			d := made(t, 100, f(1, "xy", 1), f(2, data, synced), f(3, "xy", 0))
			if size < 1 || size > len(data) {
				is(t, fmt.Sprintf("Cut to %d", size), d.Cut(2, size), api.ErrArg)
				same(t, d, false, f(1, "xy", 1), f(2, data, synced), f(3, "xy", 0))
				continue
			}
			is(t, fmt.Sprintf("Cut to %d", size), d.Cut(2, size), api.OK)
			same(t, d, false, f(1, "xy", 1), f(2, data[:size], size), f(3, "xy", 0))
			is(t, "longer than what is left", d.Cut(2, size+1), api.ErrArg)
			is(t, "Append", d.Append(2, "z"), api.OK)
			same(t, d, false, f(1, "xy", 1), f(2, data[:size]+"z", size), f(3, "xy", 0))
			is(t, "Crash", d.Crash(), api.OK)
			same(t, d, true, f(1, "x", 1), f(2, data[:size], size))
		}
	}
}

// P15.4: sizes far off.
func TestCutWrongSizes(t *testing.T) {
	d := made(t, 100, f(1, "abc", 1))
	for _, size := range []int{least, least + 1, -3, -1, 0, 4, 5, 100, big, 1 << 32, 1<<32 + 1, most} {
		is(t, fmt.Sprintf("Cut to %d", size), d.Cut(1, size), api.ErrArg)
	}
	same(t, d, false, f(1, "abc", 1))
}

// P15.4: Remove takes a file away, at once, whatever was synced; it may begin anew.
func TestRemove(t *testing.T) {
	for synced := range 4 {
		d := made(t, 5, f(1, "a", 0), f(2, "abc", synced), f(3, "b", 1))
		is(t, "Remove", d.Remove(2), api.OK)
		same(t, d, false, f(1, "a", 0), f(3, "b", 1))
		is(t, "Remove", d.Remove(2), api.ErrFile)
		is(t, "Append", d.Append(2, "xyz"), api.OK)
		same(t, d, false, f(1, "a", 0), f(2, "xyz", 0), f(3, "b", 1))
		is(t, "Remove", d.Remove(2), api.OK)
		is(t, "Crash", d.Crash(9, 9, 9), api.OK)
		same(t, d, true, f(1, "a", 1), f(3, "b", 1))
	}
}

// P15.4: ErrFile of files that are not there, also of Cut to a wrong size.
func TestNoFile(t *testing.T) {
	for _, l := range [][]api.File{nil, {f(1, "abc", 1), f(3, "d", 0)}, crowd(8)} {
		d := made(t, 100, l...)
		for _, n := range []int{least, -1, 0, 2, 4, 9, 11, 81, high, high + 1, most} {
			is(t, "Sync", d.Sync(n), api.ErrFile)
			is(t, "Remove", d.Remove(n), api.ErrFile)
			for _, size := range []int{least, -1, 0, 1, 2, most} {
				is(t, "Cut", d.Cut(n, size), api.ErrFile)
			}
		}
		same(t, d, false, l...)
	}
}

// step is one step on a disk with files 1 and 3, and what it leaves: done, and where it is the last one and nothing is
// kept.
type step struct {
	name       string
	do         func(d *Disk) api.Errno
	done, last []api.File
}

func steps() []step {
	left := []api.File{f(1, "ab", 2), f(3, "x", 1)}
	return []step{
		{"Append", func(d *Disk) api.Errno { return d.Append(1, "de") }, []api.File{f(1, "abcde", 2), f(3, "xyz", 1)}, left},
		{"Append of a new file", func(d *Disk) api.Errno { return d.Append(2, "de") }, []api.File{f(1, "abc", 2), f(2, "de", 0), f(3, "xyz", 1)}, left},
		{"Sync", func(d *Disk) api.Errno { return d.Sync(3) }, []api.File{f(1, "abc", 2), f(3, "xyz", 3)}, left},
		{"Cut below what is synced", func(d *Disk) api.Errno { return d.Cut(1, 1) }, []api.File{f(1, "a", 1), f(3, "xyz", 1)}, left},
		{"Cut above what is synced", func(d *Disk) api.Errno { return d.Cut(3, 2) }, []api.File{f(1, "abc", 2), f(3, "xy", 2)}, left},
		{"Cut to all", func(d *Disk) api.Errno { return d.Cut(3, 3) }, []api.File{f(1, "abc", 2), f(3, "xyz", 3)}, left},
		{"Remove", func(d *Disk) api.Errno { return d.Remove(1) }, []api.File{f(3, "xyz", 1)}, left},
	}
}

func stepDisk(t *testing.T) *Disk {
	t.Helper()
	return made(t, 100, f(1, "abc", 2), f(3, "xyz", 1))
}

// P15.5: at the n-th step the power goes: Append is done, the others are not; all steps ahead of it are done.
func TestArm(t *testing.T) {
	for _, s := range steps() {
		d := stepDisk(t)
		is(t, s.name, s.do(d), api.OK)
		same(t, d, false, s.done...)
		unarmed(t, d)
		for n := 1; n < 6; n++ {
			d = stepDisk(t)
			is(t, "Arm", d.Arm(n), api.OK)
			for range n - 1 {
				is(t, "a step ahead", d.Sync(1), api.OK)
			}
			want := slices.Clone(s.last)
			if n > 1 {
				want[0] = f(1, "abc", 3)
			}
			is(t, s.name, s.do(d), api.ErrDead)
			same(t, d, true, want...)
			is(t, s.name, s.do(d), api.ErrDead)
			same(t, d, true, want...)
			is(t, "Boot", d.Boot(), api.OK)
			same(t, d, false, want...)
			unarmed(t, d)
		}
	}
}

// P15.5: what keep says stays of what the last step leaves: Append's data too, at the places with its file.
func TestArmKeep(t *testing.T) {
	for _, x := range []struct {
		step int
		keep []int
		want []api.File
	}{
		{0, []int{1}, []api.File{f(1, "abc", 3), f(3, "x", 1)}},
		{0, []int{2, 1}, []api.File{f(1, "abcd", 4), f(3, "xy", 2)}},
		{0, []int{9, -1}, []api.File{f(1, "abcde", 5), f(3, "x", 1)}},
		{1, []int{0, 1, 2}, []api.File{f(1, "ab", 2), f(2, "d", 1), f(3, "xyz", 3)}},
		{1, []int{1, 0, 1}, []api.File{f(1, "abc", 3), f(3, "xy", 2)}},
		{1, []int{1, 1}, []api.File{f(1, "abc", 3), f(2, "d", 1), f(3, "x", 1)}},
		{2, []int{0, 1}, []api.File{f(1, "ab", 2), f(3, "xy", 2)}},
		{3, []int{1, 2}, []api.File{f(1, "abc", 3), f(3, "xyz", 3)}},
		{4, []int{0, 9}, []api.File{f(1, "ab", 2), f(3, "xyz", 3)}},
		{5, []int{0, 1}, []api.File{f(1, "ab", 2), f(3, "xy", 2)}},
		{6, []int{1, 1}, []api.File{f(1, "abc", 3), f(3, "xy", 2)}},
	} {
		s := steps()[x.step]
		d := stepDisk(t)
		is(t, "Arm", d.Arm(1, x.keep...), api.OK)
		is(t, s.name, s.do(d), api.ErrDead)
		same(t, d, true, x.want...)
		is(t, "Boot", d.Boot(), api.OK)
		same(t, d, false, x.want...)
	}
}

// P15.5: ErrArg, if n is below 0: what was armed still is.
func TestArmWrong(t *testing.T) {
	for _, n := range []int{-1, -2, least, least + 1} {
		d := stepDisk(t)
		is(t, "Arm", d.Arm(n, 1), api.ErrArg)
		unarmed(t, d)
		is(t, "Arm", d.Arm(2, 1, 2), api.OK)
		is(t, "Arm", d.Arm(n), api.ErrArg)
		same(t, d, false, f(1, "abc", 2), f(3, "xyz", 1))
		is(t, "a step", d.Append(3, "w"), api.OK)
		is(t, "Arm", d.Arm(n, 0, 0), api.ErrArg)
		is(t, "the last step", d.Append(1, "w"), api.ErrDead)
		same(t, d, true, f(1, "abc", 3), f(3, "xyz", 3))
	}
}

// P15.5: armed again before it comes to it: the new number of steps, and the new keep, hold alone; 0 arms nothing.
func TestArmAgain(t *testing.T) {
	d := stepDisk(t)
	is(t, "Arm", d.Arm(2, 9, 9), api.OK)
	is(t, "a step", d.Append(3, "w"), api.OK)
	is(t, "Arm", d.Arm(3, 1), api.OK)
	is(t, "a step", d.Append(3, "v"), api.OK)
	is(t, "a step", d.Append(3, "u"), api.OK)
	is(t, "the last step", d.Append(3, "t"), api.ErrDead)
	same(t, d, true, f(1, "abc", 3), f(3, "x", 1))

	d = stepDisk(t)
	is(t, "Arm", d.Arm(5, 1, 1), api.OK)
	is(t, "Arm", d.Arm(1), api.OK)
	is(t, "the last step", d.Append(3, "w"), api.ErrDead)
	same(t, d, true, f(1, "ab", 2), f(3, "x", 1))

	for _, keep := range [][]int{nil, {1, 2}} {
		d = stepDisk(t)
		is(t, "Arm", d.Arm(0, keep...), api.OK)
		unarmed(t, d)
		is(t, "Arm", d.Arm(1, 9, 9), api.OK)
		is(t, "Arm", d.Arm(0, keep...), api.OK)
		unarmed(t, d)
		is(t, "Crash", d.Crash(), api.OK)
		same(t, d, true, f(1, "ab", 2), f(3, "x", 1))
	}
}

// P15.5: n may be as great as it likes.
func TestArmFar(t *testing.T) {
	for _, n := range []int{41, 1000, math.MaxInt32, 1 << 32, 1<<32 + 1, most - 1, most} {
		d := stepDisk(t)
		is(t, "Arm", d.Arm(n), api.OK)
		unarmed(t, d)
	}
	d := stepDisk(t)
	is(t, "Arm", d.Arm(41), api.OK)
	unarmed(t, d)
	is(t, "step 41", d.Sync(1), api.ErrDead)
}

// P15.5: steps that are refused, looks, and Arm itself are none.
func TestArmCountsSteps(t *testing.T) {
	l := crowd(8)
	d := made(t, 17, l...)
	none := func() {
		is(t, "Append", d.Append(-1, "x"), api.ErrArg)
		is(t, "Append", d.Append(1000001, "x"), api.ErrArg)
		is(t, "Append", d.Append(1, "x"), api.ErrFull)
		is(t, "Append", d.Append(1, ""), api.ErrFull)
		is(t, "Append", d.Append(10, "xyz"), api.ErrFull)
		is(t, "Append", d.Append(10, ""), api.OK)
		is(t, "Sync", d.Sync(1), api.ErrFile)
		is(t, "Cut", d.Cut(1, 1), api.ErrFile)
		is(t, "Cut", d.Cut(10, 0), api.ErrArg)
		is(t, "Cut", d.Cut(10, 9), api.ErrArg)
		is(t, "Remove", d.Remove(1), api.ErrFile)
		is(t, "Arm", d.Arm(-1), api.ErrArg)
		is(t, "Boot", d.Boot(), api.OK)
		d.Read(10)
		d.Read(1)
		d.Used()
		d.Files()
		d.Image()
		d.Dead()
	}
	is(t, "Arm", d.Arm(3, 0, 1), api.OK)
	for i := range 2 {
		none()
		is(t, "Sync", d.Sync(80), api.OK)
		l[7].Synced = 2
		same(t, d, false, l...)
		if i == 1 {
			none()
		}
	}
	is(t, "the last step", d.Sync(30), api.ErrDead)
	for i := range l {
		l[i] = f(l[i].Number, "a", 1)
	}
	l[1], l[7] = f(20, "ab", 2), f(80, "ab", 2)
	same(t, d, true, l...)
}

// P15.5: each call of a dead disk, with right and wrong arguments, is ErrDead, and changes nothing; behind Boot each is
// as ever.
func TestDead(t *testing.T) {
	d := stepDisk(t)
	is(t, "Crash", d.Crash(0, 1), api.OK)
	left := []api.File{f(1, "ab", 2), f(3, "xy", 2)}
	for range 2 {
		for _, n := range []int{least, -1, 0, 1, 2, 3, high + 1, most} {
			for _, data := range []string{"", "x", strings.Repeat("x", 101)} {
				is(t, "Append", d.Append(n, data), api.ErrDead)
			}
			for _, size := range []int{-1, 0, 1, 2, 3, most} {
				is(t, "Cut", d.Cut(n, size), api.ErrDead)
			}
			is(t, "Sync", d.Sync(n), api.ErrDead)
			is(t, "Remove", d.Remove(n), api.ErrDead)
			is(t, "Arm", d.Arm(n, 1), api.ErrDead)
			is(t, "Crash", d.Crash(n), api.ErrDead)
		}
		is(t, "Crash", d.Crash(), api.ErrDead)
		same(t, d, true, left...)
	}
	is(t, "Boot", d.Boot(), api.OK)
	same(t, d, false, left...)
	unarmed(t, d)
	is(t, "Append", d.Append(1, "z"), api.OK)
	is(t, "Sync", d.Sync(1), api.OK)
	is(t, "Cut", d.Cut(3, 1), api.OK)
	same(t, d, false, f(1, "abz", 3), f(3, "x", 1))
	is(t, "Remove", d.Remove(3), api.OK)
	is(t, "Arm", d.Arm(1), api.OK)
	is(t, "the last step", d.Append(1, "y"), api.ErrDead)
	same(t, d, true, f(1, "abz", 3))
}

// P15.5: Boot of a disk that has power changes nothing: neither its files nor what is armed.
func TestBootAlive(t *testing.T) {
	d := stepDisk(t)
	is(t, "Boot", d.Boot(), api.OK)
	same(t, d, false, f(1, "abc", 2), f(3, "xyz", 1))
	unarmed(t, d)
	is(t, "Arm", d.Arm(2, 1), api.OK)
	is(t, "Boot", d.Boot(), api.OK)
	is(t, "a step", d.Append(3, "w"), api.OK)
	is(t, "Boot", d.Boot(), api.OK)
	is(t, "the last step", d.Append(3, "v"), api.ErrDead)
	same(t, d, true, f(1, "abc", 3), f(3, "x", 1))
	is(t, "Boot", d.Boot(), api.OK)
	is(t, "Boot", d.Boot(), api.OK)
	same(t, d, false, f(1, "abc", 3), f(3, "x", 1))
}

// P15.5: a crash disarms.
func TestCrashDisarms(t *testing.T) {
	d := stepDisk(t)
	is(t, "Arm", d.Arm(1, 9, 9), api.OK)
	is(t, "Crash", d.Crash(), api.OK)
	same(t, d, true, f(1, "ab", 2), f(3, "x", 1))
	is(t, "Boot", d.Boot(), api.OK)
	unarmed(t, d)
}

// P15.5: what stays of one file: for each part that was synced, and each keep.
func TestKeepOne(t *testing.T) {
	const data = "abcd"
	for synced := range len(data) + 1 {
		for _, keep := range [][]int{nil, {}, {0}, {-1}, {least}, {1}, {2}, {3}, {4}, {5}, {100}, {most - 1}, {most}, {0, 9}, {2, 9}} {
			size := synced
			if len(keep) > 0 && keep[0] > 0 {
				size = len(data)
				if keep[0] < len(data)-synced {
					size = synced + keep[0]
				}
			}
			d := made(t, 100, f(7, data, synced))
			is(t, "Crash", d.Crash(keep...), api.OK)
			var want []api.File
			if size > 0 {
				want = append(want, f(7, data[:size], size))
			}
			same(t, d, true, want...)
			is(t, "Boot", d.Boot(), api.OK)
			same(t, d, false, want...)
			is(t, "Crash", d.Crash(), api.OK)
			same(t, d, true, want...)
		}
	}
}

// P15.5: keep goes by the places of the files, those that are wholly synced or go away among them.
func TestKeepSeveral(t *testing.T) {
	l := []api.File{f(2, "abc", 0), f(5, "def", 3), f(9, "ghi", 1), f(1000, "jkl", 0)}
	for _, x := range []struct {
		keep []int
		want []api.File
	}{
		{nil, []api.File{f(5, "def", 3), f(9, "g", 1)}},
		{[]int{1}, []api.File{f(2, "a", 1), f(5, "def", 3), f(9, "g", 1)}},
		{[]int{0, 2}, []api.File{f(5, "def", 3), f(9, "g", 1)}},
		{[]int{0, 0, 1}, []api.File{f(5, "def", 3), f(9, "gh", 2)}},
		{[]int{0, 0, 0, 1}, []api.File{f(5, "def", 3), f(9, "g", 1), f(1000, "j", 1)}},
		{[]int{0, 0, 0, 0, 1}, []api.File{f(5, "def", 3), f(9, "g", 1)}},
		{[]int{3, 3, 3, 3}, []api.File{f(2, "abc", 3), f(5, "def", 3), f(9, "ghi", 3), f(1000, "jkl", 3)}},
		{[]int{most, most, most, most}, []api.File{f(2, "abc", 3), f(5, "def", 3), f(9, "ghi", 3), f(1000, "jkl", 3)}},
		{[]int{-1, -5, 1, least}, []api.File{f(5, "def", 3), f(9, "gh", 2)}},
		{[]int{2, -1, -1, 2, 7, 7}, []api.File{f(2, "ab", 2), f(5, "def", 3), f(9, "g", 1), f(1000, "jk", 2)}},
	} {
		d := made(t, 100, l...)
		is(t, fmt.Sprint("Crash ", x.keep), d.Crash(x.keep...), api.OK)
		same(t, d, true, x.want...)
	}
}

// P15.5: a keep of many more places than there can be files, of eight of them.
func TestKeepMany(t *testing.T) {
	var l, want []api.File
	keep := make([]int, 1000)
	for i := range keep {
		keep[i] = i
	}
	for i := range 8 {
		l = append(l, f(i, "abcdefgh", 0))
		if i > 0 {
			want = append(want, f(i, "abcdefgh"[:i], i))
		}
	}
	d := made(t, 100, l...)
	is(t, "Crash", d.Crash(keep...), api.OK)
	same(t, d, true, want...)
	d = made(t, 100, l...)
	is(t, "Arm", d.Arm(1, keep...), api.OK)
	is(t, "the last step", d.Remove(7), api.ErrDead)
	same(t, d, true, want...)
}

// P15.5: a disk without files dies, too.
func TestCrashOfNone(t *testing.T) {
	for _, room := range []int{0, 10} {
		d := made(t, room)
		is(t, "Crash", d.Crash(1, 2), api.OK)
		same(t, d, true)
		is(t, "Crash", d.Crash(1, 2), api.ErrDead)
		is(t, "Boot", d.Boot(), api.OK)
		same(t, d, false)
	}
}

// P15.5: behind a crash there is room again for what was lost.
func TestRoomBehindCrash(t *testing.T) {
	d := made(t, 10, f(1, "abcde", 2), f(2, "fghij", 0))
	is(t, "Append", d.Append(1, "x"), api.ErrFull)
	is(t, "Crash", d.Crash(1), api.OK)
	is(t, "Boot", d.Boot(), api.OK)
	is(t, "Append", d.Append(2, "12345678"), api.ErrFull)
	is(t, "Append", d.Append(2, "1234567"), api.OK)
	same(t, d, false, f(1, "abc", 3), f(2, "1234567", 0))
}

// Rule 4: what was handed in is neither changed nor kept.
func TestHandedIn(t *testing.T) {
	l := append(make([]api.File, 0, 5), f(1, "abc", 1), f(2, "def", 2))
	spare := l[:5]
	spare[2] = f(99, "spare", 3)
	d := made(t, 100, l...)
	l[0], l[1] = f(7, "xxx", 0), f(8, "y", 1)
	same(t, d, false, f(1, "abc", 1), f(2, "def", 2))
	if spare[2] != f(99, "spare", 3) {
		t.Error("the list's spare room was changed")
	}

	for _, last := range []func() api.Errno{
		func() api.Errno { return d.Sync(1) },
		func() api.Errno { return d.Crash(1, 0) },
	} {
		d = made(t, 100, f(1, "abc", 1), f(2, "def", 2))
		keep := append(make([]int, 0, 4), 1)
		keep[:4][1] = 77
		is(t, "Arm", d.Arm(1, keep...), api.OK)
		keep[0], keep[:2][1] = 2, 1
		last()
		same(t, d, true, f(1, "ab", 2), f(2, "de", 2))
		if keep[0] != 2 || keep[:2][1] != 1 {
			t.Error("keep was changed")
		}
	}

	keep := append(make([]int, 0, 4), -3, 9)
	keep[:4][2] = 77
	d = made(t, 100, f(1, "abc", 1), f(2, "def", 2), f(3, "g", 0))
	is(t, "Crash", d.Crash(keep...), api.OK)
	same(t, d, true, f(1, "a", 1), f(2, "def", 3))
	if !slices.Equal(keep[:3], []int{-3, 9, 77}) {
		t.Errorf("keep was changed to %v", keep[:3])
	}
}

// Rule 4: what was handed out is new memory, which later calls leave alone.
func TestHandedOut(t *testing.T) {
	d := made(t, 100, f(1, "abc", 1), f(2, "def", 2))
	image, files := d.Image(), d.Files()
	s, _ := d.Read(1)
	is(t, "Append", d.Append(1, "xyz"), api.OK)
	is(t, "Append", d.Append(0, "xyz"), api.OK)
	is(t, "Remove", d.Remove(2), api.OK)
	is(t, "Crash", d.Crash(), api.OK)
	if !slices.Equal(image, []api.File{f(1, "abc", 1), f(2, "def", 2)}) || !slices.Equal(files, []int{1, 2}) || s != "abc" {
		t.Errorf("what was handed out has become %v, %v, %q", image, files, s)
	}
	is(t, "Boot", d.Boot(), api.OK)
	image, files = d.Image(), d.Files()
	image[0], files[0] = f(5, "five", 0), 5
	_ = append(image, f(6, "six", 0))
	_ = append(files, 6)
	same(t, d, false, f(1, "a", 1))
}

// Rule 4: no text that comes in or goes out shares its bytes with the disk's, or with another one.
func TestTextsAreNew(t *testing.T) {
	at := func(s string) uintptr { return uintptr(unsafe.Pointer(unsafe.StringData(s))) }
	in, more := strings.Repeat("i", 100), strings.Repeat("m", 100)
	d := made(t, 1000, f(1, in, 50))
	is(t, "Append", d.Append(2, in), api.OK)
	is(t, "Append", d.Append(3, more), api.OK)
	is(t, "Append", d.Append(3, more), api.OK)
	look := func() {
		t.Helper()
		texts := []string{in, more}
		for _, x := range d.files {
			texts = append(texts, x.Data)
		}
		for range 2 {
			for _, x := range d.Image() {
				texts = append(texts, x.Data)
				if s, e := d.Read(x.Number); e == api.OK {
					texts = append(texts, s)
				}
			}
		}
		for i, a := range texts {
			for j, b := range texts {
				if i != j && at(a) < at(b)+uintptr(len(b)) && at(b) < at(a)+uintptr(len(a)) {
					t.Fatalf("texts %d and %d share their bytes", i, j)
				}
			}
		}
	}
	look()
	d.Sync(2)
	d.Cut(3, 70)
	look()
	d.Crash()
	look()
	d.Boot()
	look()
}

// pair is a disk, and what the chapter says of it.
type pair struct {
	t *testing.T
	d *Disk
	p *plain
}

// keeps tells some numbers to keep.
func keeps(r *rand.Rand) []int {
	l := make([]int, r.Intn(10))
	for i := range l {
		l[i] = r.Intn(6) - 1
		if r.Intn(20) == 0 {
			l[i] = []int{most, least, 1000}[r.Intn(3)]
		}
	}
	return l
}

// go on by one call, chosen at random, and hold both against each other.
func (x pair) on(r *rand.Rand) string {
	number := []int{0, 1, 2, 3, 5, 8, 13, 999999, 1000000, 4, -1, 1000001}[min(r.Intn(13), 11)]
	var e, want api.Errno
	var what string
	switch k := r.Intn(40); {
	case k < 16:
		data := strings.Repeat(string(rune('a'+r.Intn(26))), r.Intn(7)) + "xy"[:r.Intn(3)]
		what = fmt.Sprintf("Append(%d, %q)", number, data)
		e, want = x.d.Append(number, data), x.p.append(number, data)
	case k < 22:
		what = fmt.Sprintf("Sync(%d)", number)
		e, want = x.d.Sync(number), x.p.change(number, -1)
	case k < 27:
		size := r.Intn(16) - 1
		what = fmt.Sprintf("Cut(%d, %d)", number, size)
		e, want = x.d.Cut(number, size), x.p.cut(number, size)
	case k < 30:
		what = fmt.Sprintf("Remove(%d)", number)
		e, want = x.d.Remove(number), x.p.change(number, -2)
	case k < 32:
		n, keep := r.Intn(8)-1, keeps(r)
		what = fmt.Sprintf("Arm(%d, %v)", n, keep)
		e, want = x.d.Arm(n, keep...), x.p.arm(n, keep)
	case k < 33:
		keep := keeps(r)
		what = fmt.Sprintf("Crash(%v)", keep)
		e, want = x.d.Crash(keep...), x.p.fall(keep)
	case k < 38:
		what = "Boot"
		e = x.d.Boot()
		x.p.dead = false
	default:
		what = fmt.Sprintf("Read(%d)", number)
		var s string
		s, e = x.d.Read(number)
		switch at := x.p.place(number); {
		case x.p.dead:
			want = api.ErrDead
		case at < 0:
			want = api.ErrFile
		case s != x.p.image()[at].Data:
			x.t.Errorf("%s = %q", what, s)
		}
		if e != api.OK && s != "" {
			x.t.Errorf("%s = %q, %d", what, s, e)
		}
	}
	is(x.t, what, e, want)
	same(x.t, x.d, x.p.dead, x.p.image()...)
	return what
}

// P15.1 to P15.5: many calls, one behind the other, each as the chapter says.
func TestManyCalls(t *testing.T) {
	for seed := range 400 {
		r := rand.New(rand.NewSource(int64(seed)))
		room := []int{0, 3, 12, 40, 100, 200000}[r.Intn(6)]
		x := pair{t, made(t, room), &plain{room: room}}
		var told []string
		for range 300 {
			told = append(told, x.on(r))
			if t.Failed() {
				t.Fatalf("seed %d, room %d: behind %v", seed, room, told[max(0, len(told)-20):])
			}
		}
	}
}

// Rule 5: the same calls have the same answers, whichever order a map is gone through in.
func TestSameAgain(t *testing.T) {
	var first []api.File
	for i := range 50 {
		d := made(t, 1000)
		for k, n := range []int{9, 4, 7, 1, 8, 3, 6, 2} {
			is(t, "Append", d.Append(n, strings.Repeat("x", 10+k)), api.OK)
		}
		is(t, "Sync", d.Sync(4), api.OK)
		is(t, "Arm", d.Arm(1, 1, 0, 3, 0, 5, 6, 0, 8), api.OK)
		is(t, "the last step", d.Cut(7, 1), api.ErrDead)
		if i == 0 {
			first = d.Image()
		}
		same(t, d, true, first...)
	}
}

// watch follows one disk by its looks alone, and holds each crash against P15.6 and P15.7.
type watch struct {
	t    *testing.T
	d    *Disk
	safe map[int]string // what was synced of each file, since it was cut or removed
}

// by finds a file in a list.
func by(l []api.File, number int) (api.File, bool) {
	for _, x := range l {
		if x.Number == number {
			return x, true
		}
	}
	return api.File{}, false
}

// fell holds what a crash left against what was there.
func (w watch) fell(was []api.File) {
	w.t.Helper()
	now := w.d.Image()
	for _, x := range now {
		old, there := by(was, x.Number)
		if !there || !strings.HasPrefix(old.Data, x.Data) || len(x.Data) < old.Synced || x.Data == "" || x.Synced != len(x.Data) {
			w.t.Errorf("behind a crash there is %v, where there was %v", x, old)
		}
	}
	for _, old := range was {
		if _, there := by(now, old.Number); !there && old.Synced > 0 {
			w.t.Errorf("behind a crash there is no more %v", old)
		}
	}
	for number, s := range w.safe {
		if x, _ := by(now, number); !strings.HasPrefix(x.Data, s) {
			w.t.Errorf("file %d had %q synced, and is %q", number, s, x.Data)
		}
	}
}

// on makes one step, at random; the power may go at it.
func (w watch) on(r *rand.Rand) {
	was := w.d.Image()
	number := r.Intn(10)
	old, _ := by(was, number)
	data := strings.Repeat(string(rune('a'+r.Intn(26))), 1+r.Intn(5))
	var e api.Errno
	var now string
	switch r.Intn(12) {
	case 0:
		if e = w.d.Remove(number); e == api.OK {
			delete(w.safe, number)
		}
	case 1, 2:
		size := r.Intn(12)
		if e = w.d.Cut(number, size); e == api.OK {
			w.safe[number] = old.Data[:size]
		}
	case 3, 4, 5:
		if e = w.d.Sync(number); e == api.OK {
			w.safe[number] = old.Data
		}
	case 6:
		if e = w.d.Crash(keeps(r)...); e == api.OK {
			e = api.ErrDead
		}
	default:
		e = w.d.Append(number, data)
		now = data
	}
	if e != api.ErrDead {
		return
	}
	if now != "" { // an Append at which the power went was done
		was = slices.DeleteFunc(was, func(x api.File) bool { return x.Number == number })
		was = append(was, f(number, old.Data+now, old.Synced))
	}
	w.fell(was)
	for _, x := range w.d.Image() {
		w.safe[x.Number] = x.Data
	}
	is(w.t, "Boot", w.d.Boot(), api.OK)
}

// P15.6, P15.7: what was synced is there behind each crash, until it is cut or removed; behind a crash each file is a
// beginning of what it was, no shorter than what was synced, and there is no other one.
func TestCrashes(t *testing.T) {
	for seed := range 300 {
		r := rand.New(rand.NewSource(int64(seed)))
		w := watch{t, made(t, []int{20, 60, 200}[r.Intn(3)]), map[int]string{}}
		for range 400 {
			if r.Intn(6) == 0 {
				is(t, "Arm", w.d.Arm(r.Intn(5), keeps(r)...), api.OK)
			}
			w.on(r)
			if t.Failed() {
				t.Fatalf("seed %d", seed)
			}
		}
	}
}

// P15.6: what was synced stays through one crash behind the other, whatever keep says, and whatever is appended.
func TestSyncedStays(t *testing.T) {
	d := made(t, 100)
	is(t, "Append", d.Append(5, "safe"), api.OK)
	is(t, "Sync", d.Sync(5), api.OK)
	for i := range 20 {
		is(t, "Append", d.Append(5, "lost"), api.OK)
		is(t, "Append", d.Append(i%5, "lost"), api.OK)
		if i%2 == 0 {
			is(t, "Crash", d.Crash(-i, 0), api.OK)
		} else {
			is(t, "Arm", d.Arm(1, 0, -i), api.OK)
			is(t, "Sync", d.Sync(5), api.ErrDead)
		}
		same(t, d, true, f(5, "safe", 4))
		is(t, "Boot", d.Boot(), api.OK)
	}
	is(t, "Cut", d.Cut(5, 2), api.OK)
	is(t, "Crash", d.Crash(), api.OK)
	same(t, d, true, f(5, "sa", 2))
	is(t, "Boot", d.Boot(), api.OK)
	is(t, "Remove", d.Remove(5), api.OK)
	is(t, "Crash", d.Crash(9), api.OK)
	same(t, d, true)
}

// P15.7: each number of bytes that can stay of each of two files is one that keep can choose.
func TestEachBeginning(t *testing.T) {
	for a := range 5 {
		for b := range 5 {
			d := made(t, 100, f(1, "abcdef", 2), f(2, "ghij", 0))
			is(t, "Crash", d.Crash(a, b), api.OK)
			want := []api.File{f(1, "abcdef"[:2+a], 2+a)}
			if b > 0 {
				want = append(want, f(2, "ghij"[:b], b))
			}
			same(t, d, true, want...)
		}
	}
}
