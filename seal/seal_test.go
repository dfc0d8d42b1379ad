package seal

import (
	"hash/crc64"
	"math"
	"math/rand"
	"slices"
	"strings"
	"testing"
	"unsafe"

	"entente/api"
	"entente/pack"
)

// bitSum is the sum in the chapter's own words, bit by bit.
func bitSum(s string) uint64 {
	register := uint64(math.MaxUint64)
	for _, b := range []byte(s) {
		for bit := range 8 {
			differ := register&1 != uint64(b>>bit&1)
			register >>= 1
			if differ {
				register ^= 0xc96c5795d7870f42
			}
		}
	}
	return ^register
}

// bytesOf makes so many bytes that follow no short rule, the same at each call.
func bytesOf(size int, seed int64) string {
	made := make([]byte, size)
	rand.New(rand.NewSource(seed)).Read(made)
	return string(made)
}

// bodies has every edge of a body's length, and bytes that look like a frame's own.
func bodies() []string {
	l := []string{"", "a", "\x00", "\xe7", "\xe7\x01\x01a", "123456789", "\xff\xff\xff\xff\xff\xff\xff\xff"}
	for _, size := range []int{7, 8, 9, 127, 128, 129, 16383, 16384, api.MaxBody - 1, api.MaxBody} {
		l = append(l, bytesOf(size, int64(size)), strings.Repeat("\x00", size))
	}
	return l
}

func badVersions() []int { return []int{-1, 256, 257, -256, math.MinInt, math.MaxInt, 1 << 32} }

// laidFrame is a frame in the chapter's own words.
func laidFrame(version int, body string) string {
	s := "\xe7" + string([]byte{byte(version)}) + pack.Number(uint64(len(body))) + body
	sum := bitSum(s)
	for range 8 {
		s += string([]byte{byte(sum % 256)})
		sum /= 256
	}
	return s
}

func sealed(t *testing.T, version int, body string) string {
	t.Helper()
	s, e := Seal(version, body)
	if e != api.OK {
		t.Fatalf("Seal(%d, %d bytes): error %d", version, len(body), int(e))
	}
	return s
}

// turned has some bits of s turned, counted from the lowest bit of byte from on.
func turned(s string, from int, bits ...int) string {
	b := []byte(s)
	for _, bit := range bits {
		b[from+bit/8] ^= 1 << (bit % 8)
	}
	return string(b)
}

func TestSumOfKnownBytes(t *testing.T) { // P2.1
	for s, want := range map[string]uint64{"": 0, "123456789": 0x995dc9bbdf1939fa} {
		if got := Sum(s); got != want {
			t.Errorf("Sum(%q) = %x, want %x", s, got, want)
		}
	}
	if got := Sum(); got != 0 {
		t.Errorf("Sum of no parts = %x, want 0", got)
	}
	if got := Sum("", "", ""); got != 0 {
		t.Errorf("Sum of empty parts = %x, want 0", got)
	}
}

func TestSumIsThatOfTheBits(t *testing.T) { // P2.1
	table := crc64.MakeTable(crc64.ECMA)
	l := bodies()
	for b := range 256 {
		l = append(l, string([]byte{byte(b)}), string([]byte{0, byte(b)}), string([]byte{byte(b), 0x80, 1}))
	}
	for _, s := range l {
		got, want := Sum(s), bitSum(s)
		if got != want {
			t.Errorf("Sum of %d bytes = %x, want %x", len(s), got, want)
		}
		if other := crc64.Checksum([]byte(s), table); got != other {
			t.Errorf("Sum of %d bytes = %x, hash/crc64 tells %x", len(s), got, other)
		}
	}
}

func TestSumGoesOnFromPartToPart(t *testing.T) { // P2.1
	s := bytesOf(40, 1)
	want := bitSum(s)
	for i := range len(s) + 1 {
		for j := i; j <= len(s); j++ {
			if got := Sum(s[:i], s[i:j], s[j:]); got != want {
				t.Fatalf("Sum in parts of %d, %d, %d bytes = %x, want %x", i, j-i, len(s)-j, got, want)
			}
		}
	}
	single := strings.Split(s, "")
	if got, want := Sum(single...), bitSum(strings.Join(single, "")); got != want {
		t.Errorf("Sum of single runes = %x, want %x", got, want)
	}
	if Sum("a", "b") == Sum("b", "a") {
		t.Error("Sum does not hang on the order of parts")
	}
}

func TestSumLeavesItsPartsAlone(t *testing.T) { // P2.1, rule 4
	parts := []string{"a", "", "bc", "spare"}
	Sum(parts[:2]...)
	if !slices.Equal(parts, []string{"a", "", "bc", "spare"}) {
		t.Errorf("parts became %q", parts)
	}
}

func TestSealLaysTheFrame(t *testing.T) { // P2.2
	if got := sealed(t, 1, "a"); !strings.HasPrefix(got, "\xe7\x01\x01\x61") || len(got) != 12 {
		t.Errorf("Seal(1, a) = %x", got)
	}
	for _, body := range bodies() {
		for _, version := range []int{0, 1, 127, 128, 254, 255} {
			if got, want := sealed(t, version, body), laidFrame(version, body); got != want {
				t.Errorf("Seal(%d, %d bytes) differs from the frame", version, len(body))
			}
		}
	}
	for version := range 256 {
		if got, want := sealed(t, version, "body"), laidFrame(version, "body"); got != want {
			t.Errorf("Seal(%d, body) = %x, want %x", version, got, want)
		}
	}
}

func TestSealRefuses(t *testing.T) { // P2.2
	big, huge := bytesOf(api.MaxBody+1, 2), strings.Repeat("x", 4*api.MaxBody)
	for _, body := range []string{big, huge} {
		for _, version := range []int{0, 255} {
			if s, e := Seal(version, body); s != "" || e != api.ErrBig {
				t.Errorf("Seal(%d, %d bytes) = %d bytes, %d", version, len(body), len(s), int(e))
			}
		}
	}
	for _, version := range badVersions() {
		for _, body := range []string{"", "a", big} {
			if s, e := Seal(version, body); s != "" || e != api.ErrArg {
				t.Errorf("Seal(%d, %d bytes) = %x, %d", version, len(body), s, int(e))
			}
		}
	}
}

func TestOpenTellsTheBody(t *testing.T) { // P2.3, P2.5
	for _, body := range bodies() {
		for _, version := range []int{0, 7, 255} {
			s := sealed(t, version, body)
			for _, ahead := range []string{"", "x", "\xe7\x07", s} {
				for _, behind := range []string{"", "x", "\xe7", s} {
					got, to, e := Open(ahead+s+behind, len(ahead), version)
					if got != body || to != len(ahead)+len(s) || e != api.OK {
						t.Errorf("Open of %d bytes at %d = %d bytes, %d, %d", len(body), len(ahead), len(got), to, int(e))
					}
				}
			}
		}
	}
}

// place is what Open is asked for, and the error that it owes.
type place struct {
	s           string
	at, version int
	want        api.Errno
}

func (p place) check(t *testing.T) {
	t.Helper()
	if body, to, e := Open(p.s, p.at, p.version); body != "" || to != 0 || e != p.want {
		t.Errorf("Open(%.20x, %d, %d) = %x, %d, %d, want error %d", p.s, p.at, p.version, body, to, int(e), int(p.want))
	}
}

func TestOpenRefuses(t *testing.T) { // P2.3
	s := laidFrame(7, "body")
	zeros := strings.Repeat("\x00", 40)
	over := laidFrame(7, strings.Repeat("x", api.MaxBody+1))
	for _, p := range []place{
		{s, -1, 7, api.ErrArg}, {s, len(s) + 1, 7, api.ErrArg}, {s, math.MinInt, 7, api.ErrArg}, {s, math.MaxInt, 7, api.ErrArg},
		{"", 1, 7, api.ErrArg}, {"", -1, 7, api.ErrArg},
		{s, len(s), 7, api.ErrShort}, {"", 0, 7, api.ErrShort},
		{zeros, 0, 7, api.ErrTag}, {"\xe6", 0, 7, api.ErrTag}, {s, 1, 7, api.ErrTag}, {"\x7e\x07", 0, 7, api.ErrTag},
		{"\xe7", 0, 7, api.ErrShort}, {"x\xe7", 1, 7, api.ErrShort},
		{"\xe7\x08", 0, 7, api.ErrVersion}, {"\xe7\x06", 0, 7, api.ErrVersion}, {s, 0, 8, api.ErrVersion}, {s, 0, 0, api.ErrVersion}, {s, 0, 255, api.ErrVersion},
		{"\xe7\x07", 0, 7, api.ErrShort}, {"\xe7\x07\x80", 0, 7, api.ErrShort}, {"\xe7\x07\xb1\xea", 0, 7, api.ErrShort},
		{"\xe7\x07\x80\x00" + zeros, 0, 7, api.ErrForm}, {"\xe7\x07" + strings.Repeat("\xff", 10), 0, 7, api.ErrForm},
		{"\xe7\x07" + strings.Repeat("\xff", 9) + "\x02" + zeros, 0, 7, api.ErrForm},
		{"\xe7\x07\x84\x00body" + zeros, 0, 7, api.ErrForm},
		{"\xe7\x07" + pack.Number(api.MaxBody+1), 0, 7, api.ErrBig}, {over, 0, 7, api.ErrBig},
		{"\xe7\x07" + pack.Number(math.MaxUint64) + zeros, 0, 7, api.ErrBig}, {"\xe7\x07" + pack.Number(1<<63) + zeros, 0, 7, api.ErrBig},
		{"\xe7\x07" + pack.Number(1<<32) + zeros, 0, 7, api.ErrBig},
		{"\xe7\x07" + pack.Number(api.MaxBody), 0, 7, api.ErrShort}, {"\xe7\x07\x00", 0, 7, api.ErrShort},
		{"\xe7\x07\x00" + zeros[:7], 0, 7, api.ErrShort}, {"\xe7\x07\x01" + zeros[:8], 0, 7, api.ErrShort},
		{"\xe7\x07\x00" + zeros[:8], 0, 7, api.ErrSum}, {"\xe7\x07\x01" + zeros[:9], 0, 7, api.ErrSum},
	} {
		p.check(t)
	}
	for _, version := range badVersions() {
		for _, s := range []string{"", s, zeros, "\xe7"} {
			place{s, 0, version, api.ErrArg}.check(t)
			place{s, len(s), version, api.ErrArg}.check(t)
			place{s, len(s) + 1, version, api.ErrArg}.check(t)
		}
	}
}

func TestOpenTellsVersionsApart(t *testing.T) { // P2.3
	for version := range 256 {
		s := laidFrame(version, "body")
		for asked := range 256 {
			if asked != version {
				place{s, 0, asked, api.ErrVersion}.check(t)
			}
		}
		if body, to, e := Open(s, 0, version); body != "body" || to != len(s) || e != api.OK {
			t.Errorf("Open of version %d = %q, %d, %d", version, body, to, int(e))
		}
	}
}

func TestOpenTellsTheFirstError(t *testing.T) { // P2.3, rule 2
	// Each piece is wrong in more than one way: the one that the chapter names first is owed.
	zeros := strings.Repeat("\x00", 40)
	for _, p := range []place{
		{"\xe6", 0, 256, api.ErrArg}, {"", 1, 256, api.ErrArg}, {"\xe6", 0, 7, api.ErrTag}, {"\xe6\x08\x80\x00", 0, 7, api.ErrTag},
		{"\xe7\x08\x80\x00", 0, 7, api.ErrVersion}, {"\xe7\x08\x80", 0, 7, api.ErrVersion},
		{"\xe7\x07\x80\x00", 0, 7, api.ErrForm}, {"\xe7\x07\xb1\xea\x81\x00", 0, 7, api.ErrForm},
		{"\xe7\x07\xb1\xea\x01", 0, 7, api.ErrBig}, {"\xe7\x07\xb1\xea\x01" + zeros, 0, 7, api.ErrBig},
		{"\xe7\x07\x05" + zeros[:12], 0, 7, api.ErrShort},
	} {
		p.check(t)
	}
}

func TestOpenOfAFrameCutAnywhere(t *testing.T) { // P2.3, P2.5
	for _, body := range []string{"", "a", "body", bytesOf(127, 3), bytesOf(128, 4), bytesOf(300, 5)} {
		s := sealed(t, 7, body)
		for size := range len(s) {
			place{s[:size], 0, 7, api.ErrShort}.check(t)
			place{"xy" + s[:size], 2, 7, api.ErrShort}.check(t)
		}
	}
	whole := sealed(t, 7, bytesOf(api.MaxBody, 6))
	for _, size := range []int{1, 4, 5, 6, len(whole) - 9, len(whole) - 8, len(whole) - 1} {
		place{whole[:size], 0, 7, api.ErrShort}.check(t)
	}
}

func TestOpenLooksAtEachBitOfTheSum(t *testing.T) { // P2.3
	for _, body := range []string{"", "body"} {
		s := sealed(t, 7, body)
		for bit := range 64 {
			place{turned(s, len(s)-8, bit), 0, 7, api.ErrSum}.check(t)
		}
	}
	// The sum is that of the version and the length too: a frame of another one does not fit.
	s, other := sealed(t, 7, "body"), sealed(t, 8, "body")
	place{s[:len(s)-8] + other[len(other)-8:], 0, 7, api.ErrSum}.check(t)
}

func apart(a, b string) bool {
	if a == "" || b == "" {
		return true
	}
	from, begin := uintptr(unsafe.Pointer(unsafe.StringData(a))), uintptr(unsafe.Pointer(unsafe.StringData(b)))
	return from+uintptr(len(a)) <= begin || begin+uintptr(len(b)) <= from
}

func TestBodiesAreNewMemory(t *testing.T) { // P2.3, P2.4, rule 4
	s := sealed(t, 7, "body") + sealed(t, 7, "another body")
	body, _, _ := Open(s, 0, 7)
	if !apart(body, s) {
		t.Error("Open's body is a piece of what came in")
	}
	l, _, _ := Cut(s, 7)
	for _, body := range l {
		if !apart(body, s) {
			t.Errorf("Cut's body %q is a piece of what came in", body)
		}
	}
}

// checkCut holds Cut against the bodies, the place and the error that it owes.
func checkCut(t *testing.T, s string, version int, bodies []string, end int, want api.Errno) {
	t.Helper()
	l, to, e := Cut(s, version)
	if !slices.Equal(l, bodies) || to != end || e != want {
		t.Errorf("Cut of %d bytes = %d bodies, %d, %d, want %d bodies, %d, %d", len(s), len(l), to, int(e), len(bodies), end, int(want))
	}
}

func TestCutTellsAllBodies(t *testing.T) { // P2.4, P2.5
	for _, version := range []int{0, 7, 255} {
		var s strings.Builder
		var l []string
		checkCut(t, "", version, nil, 0, api.OK)
		for _, body := range bodies() {
			s.WriteString(sealed(t, version, body))
			l = append(l, body)
			checkCut(t, s.String(), version, l, s.Len(), api.OK)
		}
	}
}

func TestCutOfABeginning(t *testing.T) { // P2.5
	l := []string{"", "a", bytesOf(130, 8), "", "body", "\xe7\x07\x00"}
	var s string
	ends := []int{0}
	for _, body := range l {
		s += sealed(t, 7, body)
		ends = append(ends, len(s))
	}
	for size := range len(s) + 1 {
		whole := 0
		for ends[whole] < size {
			whole++
		}
		if ends[whole] == size {
			checkCut(t, s[:size], 7, l[:whole], size, api.OK)
			continue
		}
		checkCut(t, s[:size], 7, l[:whole-1], ends[whole-1], api.ErrShort)
	}
}

func TestCutStopsAtWhatOpenRefuses(t *testing.T) { // P2.4
	good, zeros := sealed(t, 7, "good"), strings.Repeat("\x00", 20)
	for rest, want := range map[string]api.Errno{
		"x": api.ErrTag, "\xe7": api.ErrShort, "\xe7\x08": api.ErrVersion, sealed(t, 8, "good"): api.ErrVersion,
		"\xe7\x07\x80\x00": api.ErrForm, "\xe7\x07\xb1\xea\x01": api.ErrBig, "\xe7\x07\x00" + zeros: api.ErrSum,
		turned(good, 4, 0): api.ErrSum, good[:len(good)-1]: api.ErrShort,
	} {
		for count := range 4 {
			ahead := strings.Repeat(good, count)
			bodies := slices.Repeat([]string{"good"}, count)
			checkCut(t, ahead+rest, 7, bodies, len(ahead), want)
			if !strings.HasPrefix(good, rest) {
				checkCut(t, ahead+rest+good, 7, bodies, len(ahead), want)
			}
		}
	}
}

func TestCutOfNoVersion(t *testing.T) { // P2.4
	good := sealed(t, 7, "good")
	for _, version := range badVersions() {
		checkCut(t, good, version, nil, 0, api.ErrArg)
		checkCut(t, "x", version, nil, 0, api.ErrArg)
		// Nothing stands there: its place is the end, so that Open is not asked.
		checkCut(t, "", version, nil, 0, api.OK)
	}
	for version := range 256 {
		if version != 7 {
			checkCut(t, good, version, nil, 0, api.ErrVersion)
		}
	}
}

func TestFramesCanBeLeft(t *testing.T) { // P2.4
	s := strings.Repeat(sealed(t, 7, "good"), 3)
	count := 0
	for range frames(s, 7) {
		count++
		if count == 2 {
			break
		}
	}
	if count != 2 {
		t.Errorf("%d frames, want 2", count)
	}
}

func TestBurstsAreFound(t *testing.T) { // P2.6
	chance := rand.New(rand.NewSource(9))
	for _, body := range []string{"a", "body", "12345678", "123456789", strings.Repeat("\x00", 24), bytesOf(140, 10)} {
		s := sealed(t, 7, body)
		from := len(s) - 8 - len(body)
		for first := range 8 * len(body) {
			width := min(64, 8*len(body)-first)
			place{turned(s, from, first), 0, 7, api.ErrSum}.check(t)
			for second := 1; second < width; second++ {
				place{turned(s, from, first, first+second), 0, 7, api.ErrSum}.check(t)
			}
			for range 20 {
				place{turned(s, from, burst(chance, first, width)...), 0, 7, api.ErrSum}.check(t)
			}
		}
	}
}

// burst chooses bits within width of first, which is one of them.
func burst(chance *rand.Rand, first, width int) []int {
	bits := []int{first}
	for bit := 1; bit < width; bit++ {
		if chance.Intn(2) == 1 {
			bits = append(bits, first+bit)
		}
	}
	return bits
}

func TestBurstsInAGreatBody(t *testing.T) { // P2.6
	s := sealed(t, 7, bytesOf(api.MaxBody, 11))
	from, bits := len(s)-8-api.MaxBody, 8*api.MaxBody
	chance := rand.New(rand.NewSource(12))
	for range 300 {
		first := chance.Intn(bits)
		place{turned(s, from, burst(chance, first, min(64, bits-first))...), 0, 7, api.ErrSum}.check(t)
	}
	place{turned(s, from, 0), 0, 7, api.ErrSum}.check(t)
	place{turned(s, from, bits-1), 0, 7, api.ErrSum}.check(t)
}

// checkForm holds what opens at a place against its frame.
func checkForm(t *testing.T, s string, at, version int) bool {
	t.Helper()
	body, to, e := Open(s, at, version)
	if e != api.OK {
		return false
	}
	if got, e := Seal(version, body); e != api.OK || got != s[at:to] || got != laidFrame(version, body) {
		t.Errorf("Open(%x, %d, %d) tells %x, which is sealed as %x", s, at, version, body, got)
	}
	return true
}

func TestWhatIsOpenedIsSealedAsItStood(t *testing.T) { // P2.7
	for _, body := range bodies() {
		s := sealed(t, 7, body)
		if !checkForm(t, s, 0, 7) || !checkForm(t, "x"+s+"y", 1, 7) {
			t.Errorf("a frame of %d bytes is not opened", len(body))
		}
	}
	// A length that is laid longer than it need be is no frame's, even if the sum is right.
	for _, length := range []string{"\x81\x00", "\x81\x80\x00"} {
		s := "\xe7\x07" + length + "a"
		s += laidSum(bitSum(s))
		place{s, 0, 7, api.ErrForm}.check(t)
	}
	chance := rand.New(rand.NewSource(13))
	opened := 0
	for range 20000 {
		s := mixed(chance)
		for at := range len(s) + 1 {
			if checkForm(t, s, at, 7) {
				opened++
			}
		}
	}
	if opened == 0 {
		t.Error("nothing was opened")
	}
}

// mixed makes bytes of which some open: pieces that frames are made of, and now and then a right sum.
func mixed(chance *rand.Rand) string {
	pieces := []string{"\xe7", "\xe7\x07", "\x00", "\x01", "\x01a", "\x80", "\x02", "a", laidFrame(7, ""), laidFrame(7, "a"), laidFrame(8, "a")}
	var s string
	for range chance.Intn(6) {
		s += pieces[chance.Intn(len(pieces))]
		if chance.Intn(3) == 0 {
			s += laidSum(bitSum(s))
		}
	}
	return s
}

func TestOpenAsTheChapterTells(t *testing.T) { // P2.3
	chance := rand.New(rand.NewSource(14))
	for range 20000 {
		s := mixed(chance)
		at, version := chance.Intn(len(s)+3)-1, 6+chance.Intn(3)
		body, to, e := Open(s, at, version)
		wantBody, wantTo, want := toldOpen(s, at, version)
		if body != wantBody || to != wantTo || e != want {
			t.Fatalf("Open(%x, %d, %d) = %x, %d, %d, want %x, %d, %d", s, at, version, body, to, int(e), wantBody, wantTo, int(want))
		}
	}
}

// toldOpen is Open read a second time: any frame of that version is held against what stands there.
func toldOpen(s string, at, version int) (string, int, api.Errno) {
	if at < 0 || at > len(s) {
		return "", 0, api.ErrArg
	}
	rest := s[at:]
	for _, wrong := range []struct {
		holds bool
		e     api.Errno
	}{
		{rest == "", api.ErrShort}, {!strings.HasPrefix(rest, "\xe7"), api.ErrTag}, {len(rest) == 1, api.ErrShort},
		{!strings.HasPrefix(rest, "\xe7"+string([]byte{byte(version)})), api.ErrVersion},
	} {
		if wrong.holds {
			return "", 0, wrong.e
		}
	}
	size, from, e := pack.TakeNumber(rest, 2)
	if e != api.OK {
		return "", 0, e
	}
	if size > 30000 {
		return "", 0, api.ErrBig
	}
	if uint64(len(rest)) < uint64(from)+size+8 {
		return "", 0, api.ErrShort
	}
	body := rest[from : from+int(size)]
	if frame := laidFrame(version, body); !strings.HasPrefix(rest, frame) {
		return "", 0, api.ErrSum
	}
	return body, at + len(laidFrame(version, body)), api.OK
}
