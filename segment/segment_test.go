package segment

import (
	"encoding/binary"
	"fmt"
	"hash/crc64"
	"math"
	"math/rand"
	"reflect"
	"slices"
	"strings"
	"testing"
	"unsafe"

	"entente/api"
)

const (
	most    = math.MaxInt
	least   = math.MinInt
	longest = 30000 // the chapter's MaxBody
)

// frameOf is a frame in the words of seal's chapter, laid by the library's own numbers and sums.
func frameOf(version byte, body string) string {
	b := binary.AppendUvarint([]byte{0xe7, version}, uint64(len(body)))
	b = append(b, body...)
	return string(binary.LittleEndian.AppendUint64(b, crc64.Checksum(b, crc64.MakeTable(crc64.ECMA))))
}

// framesOf is the frames of a log's bodies, one behind the other.
func framesOf(bodies ...string) string {
	s := ""
	for _, body := range bodies {
		s += frameOf(3, body)
	}
	return s
}

// wrongSum is a frame whose last byte is another one.
func wrongSum(version byte, body string) string {
	b := []byte(frameOf(version, body))
	b[len(b)-1] ^= 0x80
	return string(b)
}

// How a place stands at which a frame of version 3 should begin.
const (
	whole = iota
	short
	wrong
)

// opened is what stands at the beginning of s, by the words of seal's and pack's chapters: a body, and what is behind its frame.
func opened(s string) (string, string, int) {
	if s == "" || s == "\xe7" {
		return "", "", short
	}
	if s[0] != 0xe7 || s[1] != 3 {
		return "", "", wrong
	}
	n, size := binary.Uvarint([]byte(s[2:]))
	if size == 0 && len(s) < 2+10 {
		return "", "", short
	}
	if size <= 0 || size > 1 && s[2+size-1] == 0 || n > longest {
		return "", "", wrong
	}
	from := 2 + size
	if uint64(len(s)-from) < n+8 {
		return "", "", short
	}
	body := s[from : from+int(n)]
	if s[:from+int(n)+8] != frameOf(3, body) {
		return "", "", wrong
	}
	return body, s[from+int(n)+8:], whole
}

// plainLook is the chapter's own words of Look.
func plainLook(l []api.File) (Found, api.Errno) {
	for i := range l {
		for j := range i {
			if l[j].Number >= l[i].Number {
				return Found{}, api.ErrArg
			}
		}
	}
	x := Found{Number: -1}
	done := false
	for i := len(l) - 1; i >= 0; i-- {
		how := short
		if !done {
			_, _, how = opened(l[i].Data)
		}
		if how == wrong {
			return Found{}, api.ErrLog
		}
		if how == short {
			x.Drop = append([]int{l[i].Number}, x.Drop...)
			continue
		}
		done, x.Number = true, l[i].Number
		for rest := l[i].Data; rest != ""; {
			body, behind, how := opened(rest)
			if how == wrong {
				return Found{}, api.ErrLog
			}
			if how == short {
				break
			}
			x.Bodies, rest = append(x.Bodies, body), behind
			x.Good = len(l[i].Data) - len(rest)
		}
	}
	return x, api.OK
}

// brief tells what was handed in or out, bytes to the base 16, and not all of what is long.
func brief(x any) string {
	s := fmt.Sprintf("%x", x)
	if len(s) > 400 {
		s = s[:400] + " .."
	}
	return s
}

func sameFound(a, b Found) bool {
	return a.Number == b.Number && a.Good == b.Good && slices.Equal(a.Bodies, b.Bodies) && slices.Equal(a.Drop, b.Drop)
}

// isNothing tells whether every field is its zero value.
func isNothing(x Found) bool {
	return x.Number == 0 && x.Good == 0 && len(x.Bodies) == 0 && len(x.Drop) == 0
}

// holdLook holds Look against the chapter's words, twice, and sees that the files stay as they were.
func holdLook(t *testing.T, l ...api.File) {
	t.Helper()
	was := slices.Clone(l)
	want, wantErr := plainLook(l)
	for range 2 {
		got, e := Look(l...)
		if e != wantErr || !sameFound(got, want) {
			t.Fatalf("Look(%s) = %s, error %d, want %s, error %d", brief(l), brief(got), int(e), brief(want), int(wantErr))
		}
		if e != api.OK && !isNothing(got) {
			t.Fatalf("Look(%s) = %s beside error %d", brief(l), brief(got), int(e))
		}
	}
	if !slices.Equal(l, was) {
		t.Fatalf("Look changed %s to %s", brief(was), brief(l))
	}
}

// expect sees that Look answers just so.
func expect(t *testing.T, want Found, l ...api.File) {
	t.Helper()
	if got, e := Look(l...); e != api.OK || !sameFound(got, want) {
		t.Fatalf("Look(%s) = %s, error %d, want %s", brief(l), brief(got), int(e), brief(want))
	}
}

// refuse sees that Look answers that error, and nothing beside it.
func refuse(t *testing.T, want api.Errno, l ...api.File) {
	t.Helper()
	if got, e := Look(l...); e != want || !isNothing(got) {
		t.Fatalf("Look(%s) = %s, error %d, want error %d", brief(l), brief(got), int(e), int(want))
	}
}

func file(number int, data string) api.File { return api.File{Number: number, Data: data} }

// numbered makes files of these bytes, with the numbers 1, 2 and so on.
func numbered(data ...string) []api.File {
	var l []api.File
	for i, s := range data {
		l = append(l, file(i+1, s))
	}
	return l
}

// bytesOf makes so many bytes that follow no short rule, the same at each call.
func bytesOf(size int) string {
	b := make([]byte, size)
	rand.New(rand.NewSource(int64(size))).Read(b)
	return string(b)
}

// edgeBodies has the edges of a body's length, and bodies that look like frames, or parts of these.
func edgeBodies() []string {
	l := []string{"", "a", "\x00", "\xe7", "\xe7\x03", "\xe7\x03\x01a", frameOf(3, "a"), wrongSum(3, "a")}
	for _, size := range []int{2, 7, 8, 9, 127, 128, 129, 16383, 16384, longest - 1, longest} {
		l = append(l, bytesOf(size))
	}
	return l
}

func tooLong() []string {
	return []string{bytesOf(longest + 1), bytesOf(longest + 2), strings.Repeat("x", 4*longest)}
}

// wrongBytes is what no frame of a log begins with, and no beginning of one.
func wrongBytes() []string {
	return []string{
		"x", "\x00", "\x03", "\xe6\x03", "x" + frameOf(3, "a"), // no tag
		"\xe7\x00", "\xe7\x02", "\xe7\x04", "\xe7\x83", "\xe7\xe7\x03", "\xe7\xff", frameOf(2, "a"), frameOf(1, ""), frameOf(4, "abc"), // another version
		"\xe7\x03\x80\x00", "\xe7\x03\x81\x80\x00", "\xe7\x03" + strings.Repeat("\x80", 10), "\xe7\x03" + strings.Repeat("\xff", 9) + "\x02", // no number
		"\xe7\x03\xb1\xea\x01", "\xe7\x03\xff\xff\xff\xff\xff\xff\xff\xff\xff\x01", frameOf(3, bytesOf(longest+1)), // too long a body
		wrongSum(3, ""), wrongSum(3, "a"), wrongSum(3, bytesOf(200)), "\xe7\x03\x00" + strings.Repeat("\x00", 8), // another sum
	}
}

// tornBytes is beginnings of frames, none of them whole.
func tornBytes() []string {
	half := frameOf(3, bytesOf(300))
	return []string{"", "\xe7", "\xe7\x03", "\xe7\x03\x05", "\xe7\x03\x05abc", "\xe7\x03\x80", "\xe7\x03" + strings.Repeat("\x80", 9), "\xe7\x03\xb0\xea\x01", half[:4], half[:150], half[:len(half)-1]}
}

// TestBeginLaysAHead: P16.1.
func TestBeginLaysAHead(t *testing.T) {
	for _, body := range edgeBodies() {
		if got, e := Begin(body); e != api.OK || got != frameOf(3, body) {
			t.Errorf("Begin of %d bytes: %d bytes, error %d", len(body), len(got), int(e))
		}
	}
	if got, _ := Begin("a"); !strings.HasPrefix(got, "\xe7\x03\x01a") || len(got) != 12 {
		t.Errorf("Begin(a) = %x", got)
	}
	for _, body := range tooLong() {
		if got, e := Begin(body); e != api.ErrBig || got != "" {
			t.Errorf("Begin of %d bytes: %d bytes, error %d", len(body), len(got), int(e))
		}
	}
}

// TestNextLaysFrames: P16.1.
func TestNextLaysFrames(t *testing.T) {
	rows := [][]string{nil, {}, {""}, {"", ""}, {"a"}, {"a", "b"}, {"b", "a"}, {"a", "", "a"}, {"ab", "c"}, {"a", "bc"}, edgeBodies()}
	for _, body := range edgeBodies() {
		rows = append(rows, []string{body}, []string{body, "x"}, []string{"x", body}, []string{"x", body, "y"})
	}
	for _, row := range rows {
		if got, e := Next(row...); e != api.OK || got != framesOf(row...) {
			t.Errorf("Next of %d bodies: %d bytes, error %d", len(row), len(got), int(e))
		}
	}
	if got, e := Next(); got != "" || e != api.OK {
		t.Errorf("Next of no body = %x, error %d", got, int(e))
	}
}

// TestNextIsNextByNext: P16.1.
func TestNextIsNextByNext(t *testing.T) {
	l := edgeBodies()
	for i := range len(l) + 1 {
		a, _ := Next(l[:i]...)
		b, _ := Next(l[i:]...)
		if all, _ := Next(l...); all != a+b {
			t.Fatalf("Next of %d bodies differs from Next of %d and the others", len(l), i)
		}
	}
	for _, body := range l {
		a, _ := Begin(body)
		if b, _ := Next(body); a != b {
			t.Fatalf("Begin and Next differ of %d bytes", len(body))
		}
	}
}

// TestNextRefuses: P16.1, wherever the body stands that seal refuses.
func TestNextRefuses(t *testing.T) {
	for _, big := range tooLong() {
		rows := [][]string{{big}, {big, "a"}, {big, "a", "b"}, {"a", big, "b"}, {"a", "b", big}, {"", big}, {big, big}, {bytesOf(longest), big}}
		for i, row := range rows {
			if got, e := Next(row...); e != api.ErrBig || got != "" {
				t.Errorf("Next of row %d with %d bytes: %d bytes, error %d", i, len(big), len(got), int(e))
			}
		}
	}
}

// TestBodiesStayAsTheyWere: P16.1, rule 4.
func TestBodiesStayAsTheyWere(t *testing.T) {
	l := []string{"a", "", "bc", "spare", "room"}
	if _, e := Next(l[:3]...); e != api.OK {
		t.Fatal(int(e))
	}
	if _, e := Next(l[:3:5]...); e != api.OK {
		t.Fatal(int(e))
	}
	if !slices.Equal(l, []string{"a", "", "bc", "spare", "room"}) {
		t.Errorf("bodies became %q", l)
	}
}

// TestExample: P16.2, the chapter's example.
func TestExample(t *testing.T) {
	head := frameOf(3, "head")
	data := head + framesOf("one", "two")
	expect(t, Found{1, len(data), []string{"head", "one", "two"}, []int{2}}, file(1, data), file(2, head[:len(head)/2]))
}

// TestLookOfNoFile: P16.2.
func TestLookOfNoFile(t *testing.T) {
	expect(t, Found{Number: -1})
	expect(t, Found{Number: -1}, []api.File{}...)
}

// TestLookOfOneFile: P16.2.
func TestLookOfOneFile(t *testing.T) {
	head := frameOf(3, "head")
	expect(t, Found{7, len(head), []string{"head"}, nil}, file(7, head))
	expect(t, Found{7, 11, []string{""}, nil}, file(7, frameOf(3, "")))
	expect(t, Found{0, len(head) + 12, []string{"head", "a"}, nil}, file(0, head+framesOf("a")))
	expect(t, Found{0, len(head) + 12, []string{"head", "a"}, nil}, file(0, head+framesOf("a")+"\xe7"))
	for _, number := range []int{least, -2, -1, 0, 1, 1000000, most} {
		expect(t, Found{number, len(head), []string{"head"}, nil}, file(number, head))
		expect(t, Found{-1, 0, nil, []int{number}}, file(number, ""))
		expect(t, Found{-1, 0, nil, []int{number}}, file(number, head[:5]))
		refuse(t, api.ErrLog, file(number, "x"))
	}
	for _, body := range edgeBodies() {
		expect(t, Found{1, len(frameOf(3, body)), []string{body}, nil}, file(1, frameOf(3, body)))
		all := framesOf("h", body, "z")
		expect(t, Found{1, len(all), []string{"h", body, "z"}, nil}, file(1, all))
	}
}

// TestNumbersRise: P16.2, ErrArg ahead of all that the files have.
func TestNumbersRise(t *testing.T) {
	head := frameOf(3, "a")
	edges := []int{least, least + 1, -1000001, -2, -1, 0, 1, 2, 1000000, 1000001, most - 1, most}
	for _, data := range []string{"", head, head[:3], "x", head + "x"} {
		for _, a := range edges {
			for _, b := range edges {
				holdLook(t, file(a, data), file(b, head))
				holdLook(t, file(a, head), file(b, data))
				if b <= a {
					refuse(t, api.ErrArg, file(a, data), file(b, data))
				}
				for _, c := range edges {
					holdLook(t, file(a, data), file(b, head), file(c, data))
				}
			}
		}
	}
	refuse(t, api.ErrArg, file(3, head), file(1, head), file(2, head))
	refuse(t, api.ErrArg, file(1, head), file(3, head), file(2, head))
	refuse(t, api.ErrArg, file(1, head), file(2, head), file(2, head[:4]))
	refuse(t, api.ErrArg, file(1, head), file(1, head), file(2, head))
	expect(t, Found{9, 12, []string{"a"}, []int{-5, 1}}, file(-5, head), file(1, head), file(9, head))
}

// TestNoWholeHead: P16.2, a file of Number -1 among them.
func TestNoWholeHead(t *testing.T) {
	for _, a := range tornBytes() {
		expect(t, Found{-1, 0, nil, []int{-1}}, file(-1, a))
		for _, b := range tornBytes() {
			expect(t, Found{-1, 0, nil, []int{-1, 4}}, file(-1, a), file(4, b))
			expect(t, Found{-1, 0, nil, []int{-7, -1}}, file(-7, a), file(-1, b))
			expect(t, Found{-1, 0, nil, []int{1, 2, 3}}, file(1, a), file(2, b), file(3, a))
		}
	}
}

// TestLogOfNumberBelowNone: P16.2, a log's file whose Number is that of none.
func TestLogOfNumberBelowNone(t *testing.T) {
	head := frameOf(3, "a")
	expect(t, Found{-1, 12, []string{"a"}, []int{-2, 0}}, file(-2, head), file(-1, head), file(0, head[:4]))
	expect(t, Found{least, 12, []string{"a"}, []int{-1, most}}, file(least, head), file(-1, ""), file(most, head[:11]))
}

// kinds has a file of each kind that the chapter tells apart.
func kinds() []string {
	l := append(tornBytes(), wrongBytes()...)
	head := framesOf("first")
	l = append(l, head, frameOf(3, ""), head+framesOf("second"), head+framesOf("", "third", ""), head+framesOf(bytesOf(1000)))
	for _, s := range []string{"\xe7", "\xe7\x03", "\xe7\x03\x02a", "x", "\xe7\x04", wrongSum(3, "b"), frameOf(2, "b"), "\xe7\x03\x80\x00", "\x00"} {
		l = append(l, head+s, head+framesOf("second")+s)
	}
	return l
}

// TestEveryKindInEveryPlace: P16.2.
func TestEveryKindInEveryPlace(t *testing.T) {
	l := kinds()
	for _, a := range l {
		holdLook(t, numbered(a)...)
		for _, b := range l {
			holdLook(t, numbered(a, b)...)
			for _, c := range l {
				holdLook(t, numbered(a, b, c)...)
			}
		}
	}
}

// TestPlaceOfTheLog: P16.2, the log's file first, in the middle and last, with several above and ahead.
func TestPlaceOfTheLog(t *testing.T) {
	log := framesOf("log", "a", "b")
	torn, junk := tornBytes(), append(kinds(), frameOf(3, "old"))
	for above := range 5 {
		for ahead := range 5 {
			var l []api.File
			want := Found{Number: 10, Good: len(log), Bodies: []string{"log", "a", "b"}}
			for i := range ahead {
				l = append(l, file(i-2, junk[(i*7+above)%len(junk)]))
				want.Drop = append(want.Drop, i-2)
			}
			l = append(l, file(10, log))
			for i := range above {
				l = append(l, file(20+3*i, torn[(i*3+ahead)%len(torn)]))
				want.Drop = append(want.Drop, 20+3*i)
			}
			expect(t, want, l...)
		}
	}
}

// TestWhatIsAheadIsOfNoMatter: P16.2, whatever the files ahead of the log's file have.
func TestWhatIsAheadIsOfNoMatter(t *testing.T) {
	log := framesOf("log", "a")
	for _, a := range kinds() {
		for _, b := range kinds() {
			expect(t, Found{3, len(log), []string{"log", "a"}, []int{1, 2}}, numbered(a, b, log)...)
		}
	}
}

// TestWrongHeads: P16.2, a head of another version, with another sum or no head at all: in the one file, above a log, below torn ones.
func TestWrongHeads(t *testing.T) {
	log := framesOf("log", "a")
	for _, bad := range wrongBytes() {
		refuse(t, api.ErrLog, numbered(bad)...)
		refuse(t, api.ErrLog, numbered(log, bad)...)
		refuse(t, api.ErrLog, numbered(bad+log)...)
		refuse(t, api.ErrLog, numbered("", bad)...)
		for _, torn := range tornBytes() {
			refuse(t, api.ErrLog, numbered(bad, torn)...)
			refuse(t, api.ErrLog, numbered(log, bad, torn)...)
			refuse(t, api.ErrLog, numbered(log, torn, bad)...)
			refuse(t, api.ErrLog, numbered(log, torn, bad, torn, torn)...)
		}
	}
}

// TestWrongFrames: P16.2, wrong bytes behind a whole head.
func TestWrongFrames(t *testing.T) {
	log := framesOf("log", "a")
	for _, bad := range wrongBytes() {
		for _, good := range []string{frameOf(3, ""), frameOf(3, "head"), log} {
			for _, behind := range []string{"", framesOf("z"), "\xe7"} {
				broken := good + bad + behind
				if _, _, how := opened(bad + behind); how != wrong {
					t.Fatalf("%s is not wrong", brief(bad+behind))
				}
				refuse(t, api.ErrLog, numbered(broken)...)
				refuse(t, api.ErrLog, numbered(log, broken)...)
				refuse(t, api.ErrLog, numbered(log, broken, "", "\xe7\x03")...)
				expect(t, Found{2, len(log), []string{"log", "a"}, []int{1, 3}}, numbered(broken, log, "\xe7")...)
			}
		}
	}
}

// TestTornFramesEndTheLog: P16.2, Good is the place behind the last whole frame.
func TestTornFramesEndTheLog(t *testing.T) {
	for _, torn := range tornBytes() {
		for _, bodies := range [][]string{{""}, {"head"}, {"head", "a"}, {"head", "", "", bytesOf(longest)}} {
			good := framesOf(bodies...)
			expect(t, Found{1, len(good), bodies, nil}, numbered(good+torn)...)
			expect(t, Found{2, len(good), bodies, []int{1, 3}}, numbered(good, good+torn, torn)...)
		}
	}
}

// TestEveryByteChanged: P16.2, a log with each of its bytes taken by each other one.
func TestEveryByteChanged(t *testing.T) {
	log := framesOf("log", "", "\xe7\x03", "abc")
	for at := range len(log) {
		for b := range 256 {
			data := log[:at] + string([]byte{byte(b)}) + log[at+1:]
			holdLook(t, file(1, log), file(2, data))
			holdLook(t, file(2, data), file(3, log[:10]))
		}
	}
}

// TestEveryTwoBytes: P16.2, every two bytes as a file, and behind a head.
func TestEveryTwoBytes(t *testing.T) {
	head := frameOf(3, "a")
	for a := range 256 {
		for b := range 256 {
			two := string([]byte{byte(a), byte(b)})
			holdLook(t, file(1, two))
			holdLook(t, file(1, head+two))
			holdLook(t, file(1, "\xe7\x03"+two))
		}
	}
}

// TestSyncedIsOfNoMatter: P16.2.
func TestSyncedIsOfNoMatter(t *testing.T) {
	head, log := frameOf(3, "a"), framesOf("log", "b")
	for _, x := range []int{least, -1, 0, 1, 5, len(head), len(log), len(log) + 1, most} {
		for _, y := range []int{least, -1, 0, 3, len(head), most} {
			want := Found{2, len(log), []string{"log", "b"}, []int{1, 3}}
			l := []api.File{{Number: 1, Data: head, Synced: y}, {Number: 2, Data: log + "\xe7", Synced: x}, {Number: 3, Data: head[:4], Synced: y}}
			expect(t, want, l...)
			refuse(t, api.ErrLog, api.File{Number: 1, Data: "x", Synced: x})
			refuse(t, api.ErrArg, api.File{Number: 1, Data: head, Synced: x}, api.File{Number: 1, Data: head, Synced: y})
		}
	}
}

// begun is a file of Begin, and then of a Next for each row.
func begun(t *testing.T, first string, rows ...[]string) string {
	t.Helper()
	data, e := Begin(first)
	if e != api.OK {
		t.Fatal(int(e))
	}
	for _, row := range rows {
		s, e := Next(row...)
		if e != api.OK {
			t.Fatal(int(e))
		}
		data += s
	}
	return data
}

// TestReads: P16.3, whatever is cut off behind the head.
func TestReads(t *testing.T) {
	cases := [][][]string{nil, {{}}, {{"one"}}, {{"one", "two"}, {"three"}}, {{""}, {"", ""}, {"\xe7\x03"}}, {{bytesOf(130)}, {framesOf("in", "side")}}, {{bytesOf(longest)}}}
	for _, first := range []string{"", "first", frameOf(3, "a"), bytesOf(300)} {
		for _, rows := range cases {
			data := begun(t, first, rows...)
			bodies := append([]string{first}, slices.Concat(rows...)...)
			var ends []int
			for i := range bodies {
				ends = append(ends, len(framesOf(bodies[:i+1]...)))
			}
			for size := ends[0]; size <= len(data); size += 1 + max(0, min(len(data)-size-40, size-2000)) {
				n := 0
				for n < len(ends) && ends[n] <= size {
					n++
				}
				expect(t, Found{1, ends[n-1], bodies[:n], nil}, file(1, data[:size]))
				expect(t, Found{5, ends[n-1], bodies[:n], []int{0, 6}}, file(0, data), file(5, data[:size]), file(6, data[:ends[0]-1]))
			}
		}
	}
}

// TestTorn: P16.4, each beginning of a Begin above a log.
func TestTorn(t *testing.T) {
	for _, log := range []string{begun(t, ""), begun(t, "log"), begun(t, "log", []string{"a", "b"}) + "\xe7\x03\x01"} {
		l := []api.File{file(2, "x"), file(3, log)}
		want, e := Look(l...)
		if e != api.OK || want.Number != 3 {
			t.Fatal(brief(want), int(e))
		}
		for _, first := range []string{"", "new", "\xe7\x03", bytesOf(200)} {
			head := begun(t, first)
			for size := range len(head) {
				got := want
				got.Drop = []int{2, 4}
				expect(t, got, append(l, file(4, head[:size]))...)
				got.Drop = []int{2, 4, 9}
				expect(t, got, append(l, file(4, head[:size]), file(9, head[:len(head)-1]))...)
			}
			expect(t, Found{4, len(head), []string{first}, []int{2, 3}}, append(l, file(4, head))...)
			expect(t, Found{4, len(head), []string{first}, []int{2, 3, 5}}, append(l, file(4, head), file(5, head[:3]))...)
		}
	}
}

// TestFilesStayAsTheyWere: P16.2, rule 4, spare room among them.
func TestFilesStayAsTheyWere(t *testing.T) {
	log := framesOf("log", "a")
	room := numbered(log, log+"\xe7", log[:4], "spare", "room")
	for i := range room {
		room[i].Synced = 3*i - 1
	}
	was := slices.Clone(room)
	for size := range 4 {
		x, e := Look(room[:size]...)
		if e != api.OK {
			t.Fatal(int(e))
		}
		for i := range x.Drop {
			x.Drop[i] = 77
		}
		x.Drop, x.Bodies = append(x.Drop, 78), append(x.Bodies, "more")
	}
	refuse(t, api.ErrLog, room[:4]...)
	if !slices.Equal(room, was) {
		t.Errorf("files became %s, were %s", brief(room), brief(was))
	}
}

// TestAnswersAreNewMemory: rule 4.
func TestAnswersAreNewMemory(t *testing.T) {
	data := begun(t, "first", []string{"second", bytesOf(50)})
	l := numbered(data[:5], data, data[:7])
	a, _ := Look(l...)
	b, _ := Look(l...)
	from := uintptr(unsafe.Pointer(unsafe.StringData(data)))
	for i, body := range a.Bodies {
		at := uintptr(unsafe.Pointer(unsafe.StringData(body)))
		if at >= from && at < from+uintptr(len(data)) {
			t.Errorf("body %d stands in the file's memory", i)
		}
		if unsafe.StringData(body) == unsafe.StringData(b.Bodies[i]) {
			t.Errorf("body %d stands in another answer's memory", i)
		}
	}
	a.Drop[0], a.Bodies[0] = 99, "changed"
	if !slices.Equal(b.Drop, []int{1, 3}) || b.Bodies[0] != "first" {
		t.Errorf("answers share memory: %s", brief(b))
	}
	one, _ := Begin("same")
	two, _ := Begin("same")
	if unsafe.StringData(one) == unsafe.StringData(two) {
		t.Error("two heads share memory")
	}
}

// TestManyFiles: P16.2, more files than a disk can have.
func TestManyFiles(t *testing.T) {
	log := framesOf("log")
	for _, at := range []int{0, 1, 2500, 4999, -1} {
		var l []api.File
		want := Found{Number: -1}
		for i := range 5000 {
			data := log[:i%len(log)]
			if i == at {
				data = log
				want.Number, want.Good, want.Bodies = i-2000, len(log), []string{"log"}
			} else {
				want.Drop = append(want.Drop, i-2000)
			}
			l = append(l, file(i-2000, data))
		}
		expect(t, want, l...)
	}
}

// TestFilesByChance: P16.2, files of pieces by chance.
func TestFilesByChance(t *testing.T) {
	r := rand.New(rand.NewSource(16))
	pieces := append(wrongBytes(), tornBytes()...)
	for range 20000 {
		var l []api.File
		number := r.Intn(9) - 5
		for range r.Intn(6) {
			data := ""
			for range r.Intn(4) {
				data += frameOf(3, bytesOf(r.Intn(20)))
			}
			switch r.Intn(6) {
			case 0:
				data += pieces[r.Intn(len(pieces))]
			case 1, 2:
				data = data[:r.Intn(len(data)+1)]
			}
			l = append(l, api.File{Number: number, Data: data, Synced: r.Intn(40) - 5})
			number += 1 + r.Intn(3)
			if r.Intn(40) == 0 {
				number -= r.Intn(5)
			}
		}
		holdLook(t, l...)
	}
}

// TestFoundHasItsFields: the chapter's type.
func TestFoundHasItsFields(t *testing.T) {
	var got []string
	for i := range reflect.TypeFor[Found]().NumField() {
		f := reflect.TypeFor[Found]().Field(i)
		got = append(got, f.Name+" "+f.Type.String())
	}
	if want := []string{"Number int", "Good int", "Bodies []string", "Drop []int"}; !slices.Equal(got, want) {
		t.Errorf("Found has %q, want %q", got, want)
	}
}
