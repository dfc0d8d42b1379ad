package pack

import (
	"math"
	"math/big"
	"slices"
	"strings"
	"testing"

	"entente/api"
)

const greatest = math.MaxUint64

// numbers has every edge of a group, with what stands beside it, and some in between.
func numbers() []uint64 {
	l := []uint64{0, 1, 2, 300, 1000000, math.MaxInt64, math.MaxInt64 + 1, greatest - 1, greatest}
	for bit := range 64 {
		edge := uint64(1) << bit
		l = append(l, edge-1, edge, edge+1)
	}
	seed := uint64(1)
	for range 200 {
		seed = seed*6364136223846793005 + 1442695040888963407
		l = append(l, seed, seed>>(seed%64))
	}
	slices.Sort(l)
	return slices.Compact(l)
}

func signeds() []int64 {
	l := []int64{math.MinInt64, math.MinInt64 + 1, math.MaxInt64 - 1, math.MaxInt64}
	for _, n := range numbers() {
		l = append(l, int64(n), -int64(n))
	}
	slices.Sort(l)
	return slices.Compact(l)
}

func texts() []string {
	l := []string{"", "a", "\x00", "\x80", "\xff\xfe", "\x01a", "é", "\xe7\x01\x01a"}
	for _, size := range []int{126, 127, 128, 129, 16383, 16384} {
		l = append(l, strings.Repeat("s", size))
	}
	return l
}

func lists() [][]string {
	l := [][]string{nil, {}, {""}, {"", ""}, {"a"}, {"a", ""}, {"", "a"}, {"a", "b", "a"}, {"\x80", "\x00", "\x01a"}, texts()}
	for _, count := range []int{127, 128, 129} {
		l = append(l, make([]string, count), slices.Repeat([]string{"xy"}, count))
	}
	return l
}

// laidNumber is P1.1 of whole numbers, in the document's own words.
func laidNumber(n *big.Int) string {
	groups := []byte{}
	for rest := new(big.Int).Set(n); rest.Sign() != 0; rest.Rsh(rest, 7) {
		groups = append(groups, byte(new(big.Int).And(rest, big.NewInt(127)).Int64()))
	}
	if len(groups) == 0 {
		groups = []byte{0}
	}
	for i := range len(groups) - 1 {
		groups[i] += 128
	}
	return string(groups)
}

func whole(n uint64) *big.Int { return new(big.Int).SetUint64(n) }

func TestNumberIsLaid(t *testing.T) { // P1.1
	for n, want := range map[uint64]string{
		0: "\x00", 1: "\x01", 127: "\x7f", 128: "\x80\x01", 129: "\x81\x01", 255: "\xff\x01", 256: "\x80\x02", 300: "\xac\x02",
		16383: "\xff\x7f", 16384: "\x80\x80\x01", 1 << 62: "\x80\x80\x80\x80\x80\x80\x80\x80\x40",
		1<<63 - 1: "\xff\xff\xff\xff\xff\xff\xff\xff\x7f", 1 << 63: "\x80\x80\x80\x80\x80\x80\x80\x80\x80\x01",
		greatest: "\xff\xff\xff\xff\xff\xff\xff\xff\xff\x01",
	} {
		if got := Number(n); got != want {
			t.Errorf("Number(%d) = %x, want %x", n, got, want)
		}
	}
	for _, n := range numbers() {
		if got, want := Number(n), laidNumber(whole(n)); got != want {
			t.Errorf("Number(%d) = %x, want %x", n, got, want)
		}
	}
}

func TestSignedIsLaid(t *testing.T) { // P1.1
	for n, want := range map[int64]string{
		0: "\x00", -1: "\x01", 1: "\x02", -2: "\x03", 63: "\x7e", -64: "\x7f", 64: "\x80\x01", -65: "\x81\x01", 150: "\xac\x02",
		math.MaxInt64: "\xfe\xff\xff\xff\xff\xff\xff\xff\xff\x01",
		math.MinInt64: "\xff\xff\xff\xff\xff\xff\xff\xff\xff\x01",
	} {
		if got := Signed(n); got != want {
			t.Errorf("Signed(%d) = %x, want %x", n, got, want)
		}
	}
	for _, n := range signeds() {
		twice := new(big.Int).Mul(big.NewInt(n), big.NewInt(2))
		if n < 0 {
			twice.Neg(twice).Sub(twice, big.NewInt(1))
		}
		if got, want := Signed(n), laidNumber(twice); got != want {
			t.Errorf("Signed(%d) = %x, want %x", n, got, want)
		}
	}
}

func TestTextIsLaid(t *testing.T) { // P1.1
	for s, want := range map[string]string{"": "\x00", "a": "\x01a", "\x80\x00": "\x02\x80\x00", "é": "\x02\xc3\xa9"} {
		if got := Text(s); got != want {
			t.Errorf("Text(%q) = %x, want %x", s, got, want)
		}
	}
	for _, s := range texts() {
		if got, want := Text(s), laidNumber(big.NewInt(int64(len(s))))+s; got != want {
			t.Errorf("Text of %d bytes = %x, want %x", len(s), got, want)
		}
	}
}

func TestTextsAreLaid(t *testing.T) { // P1.1
	for want, l := range map[string][]string{"\x00": {}, "\x01\x00": {""}, "\x02\x00\x00": {"", ""}, "\x02\x01a\x00": {"a", ""}, "\x03\x01a\x02bc\x01a": {"a", "bc", "a"}} {
		if got := Texts(l...); got != want {
			t.Errorf("Texts(%q) = %x, want %x", l, got, want)
		}
	}
	if got := Texts(); got != "\x00" {
		t.Errorf("Texts() = %x", got)
	}
	for _, l := range lists() {
		want := laidNumber(big.NewInt(int64(len(l))))
		for _, s := range l {
			want += laidNumber(big.NewInt(int64(len(s)))) + s
		}
		if got := Texts(l...); got != want {
			t.Errorf("Texts of %d = %x, want %x", len(l), got, want)
		}
	}
}

func TestTextsLeavesWhatIsHandedIn(t *testing.T) { // rule 4
	room := []string{"a", "b", "spare", "room"}
	Texts(room[:2]...)
	if !slices.Equal(room, []string{"a", "b", "spare", "room"}) {
		t.Errorf("changed: %q", room)
	}
}

// taken is what a call that takes answered.
type taken struct {
	what any
	to   int
	err  api.Errno
}

// takers has each call that takes, with its zero values beside an error.
func takers() map[string]func(s string, at int) taken {
	return map[string]func(s string, at int) taken{
		"TakeNumber": func(s string, at int) taken { n, to, e := TakeNumber(s, at); return taken{n, to, e} },
		"TakeSigned": func(s string, at int) taken { n, to, e := TakeSigned(s, at); return taken{n, to, e} },
		"TakeText":   func(s string, at int) taken { x, to, e := TakeText(s, at); return taken{x, to, e} },
		"TakeTexts":  func(s string, at int) taken { l, to, e := TakeTexts(s, at); return taken{strings.Join(l, "|"), to, e} },
	}
}

func refused(name string, e api.Errno) taken {
	zero := map[string]any{"TakeNumber": uint64(0), "TakeSigned": int64(0), "TakeText": "", "TakeTexts": ""}
	return taken{zero[name], 0, e}
}

func TestPlaces(t *testing.T) { // P1.2
	const laid = "\x02\x01a\x00"
	for name, take := range takers() {
		for _, s := range []string{"", "\x00", laid, "\x80", "\x80\x00"} {
			for _, at := range []int{-1, -2, math.MinInt, len(s) + 1, len(s) + 2, math.MaxInt} {
				if got := take(s, at); got != refused(name, api.ErrArg) {
					t.Errorf("%s(%x, %d) = %v, want ErrArg", name, s, at, got)
				}
			}
			if got := take(s, len(s)); got != refused(name, api.ErrShort) {
				t.Errorf("%s(%x, at its end) = %v, want ErrShort", name, s, got)
			}
		}
	}
	for at, want := range map[int]uint64{0: 2, 1: 1, 2: 'a', 3: 0} {
		if n, to, e := TakeNumber(laid, at); n != want || to != at+1 || e != api.OK {
			t.Errorf("TakeNumber(%x, %d) = %d, %d, %v", laid, at, n, to, e)
		}
	}
}

// badNumbers has bytes that begin with no Number, with the error of each.
func badNumbers() map[string]api.Errno {
	bad := map[string]api.Errno{
		"": api.ErrShort, "\x80": api.ErrShort, "\xff": api.ErrShort, "\x80\x80": api.ErrShort,
		"\x80\x00": api.ErrForm, "\xff\x00": api.ErrForm, "\x80\x80\x00": api.ErrForm, "\x80\x00\x01": api.ErrForm,
	}
	for _, b := range []string{"\x80", "\x81", "\xff"} {
		bad[strings.Repeat(b, 9)] = api.ErrShort
		bad[strings.Repeat(b, 9)+"\x00"] = api.ErrForm
		for _, last := range []string{"\x02", "\x03", "\x7f", "\x80", "\x81", "\xff"} {
			bad[strings.Repeat(b, 9)+last] = api.ErrForm
		}
		for _, size := range []int{10, 11, 12, 19, 20, 64, 1000} {
			for _, behind := range []string{"", "\x00", "\x01", "\x02", "\x7f"} {
				bad[strings.Repeat(b, size)+behind] = api.ErrForm
			}
		}
	}
	return bad
}

func TestBadNumbers(t *testing.T) { // P1.2
	for name, take := range takers() {
		for s, want := range badNumbers() {
			for _, ahead := range []string{"", "\x00", "\x80", "ab"} {
				if got := take(ahead+s, len(ahead)); got != refused(name, want) {
					t.Errorf("%s(%x, %d) = %v, want %v", name, ahead+s, len(ahead), got, want)
				}
			}
		}
	}
}

// readNumber is P1.2 of whole numbers: it looks for the byte that ends the number, and lays again what stands up to it.
func readNumber(s string, at int) (uint64, int, api.Errno) {
	if at < 0 || at > len(s) {
		return 0, 0, api.ErrArg
	}
	run := 0
	n := new(big.Int)
	for at+run < len(s) && s[at+run] >= 128 {
		n.Add(n, new(big.Int).Lsh(big.NewInt(int64(s[at+run]-128)), uint(7*run)))
		run++
	}
	if run >= 10 {
		return 0, 0, api.ErrForm
	}
	if at+run == len(s) {
		return 0, 0, api.ErrShort
	}
	n.Add(n, new(big.Int).Lsh(big.NewInt(int64(s[at+run])), uint(7*run)))
	if !n.IsUint64() || laidNumber(n) != s[at:at+run+1] {
		return 0, 0, api.ErrForm
	}
	return n.Uint64(), at + run + 1, api.OK
}

func readText(s string, at int) (string, int, api.Errno) {
	size, from, e := readNumber(s, at)
	if e != api.OK {
		return "", 0, e
	}
	if whole(size).Cmp(big.NewInt(int64(len(s)-from))) > 0 {
		return "", 0, api.ErrShort
	}
	return s[from : from+int(size)], from + int(size), api.OK
}

func readTexts(s string, at int) ([]string, int, api.Errno) {
	count, at, e := readNumber(s, at)
	if e != api.OK {
		return nil, 0, e
	}
	var l []string
	for ; count > 0; count-- {
		x, to, e := readText(s, at)
		if e != api.OK {
			return nil, 0, e
		}
		l, at = append(l, x), to
	}
	return l, at, api.OK
}

// signedOf is the number n of which 2n, or -2n - 1, is u.
func signedOf(u uint64) int64 {
	n := new(big.Int).Rsh(whole(u), 1)
	if u%2 == 1 {
		n.Neg(n).Sub(n, big.NewInt(1))
	}
	return n.Int64()
}

// checkTaking holds each call that takes against what the document says of it.
func checkTaking(t *testing.T, s string, at int) {
	t.Helper()
	n, to, e := TakeNumber(s, at)
	wantN, wantTo, wantE := readNumber(s, at)
	if n != wantN || to != wantTo || e != wantE {
		t.Errorf("TakeNumber(%x, %d) = %d, %d, %v, want %d, %d, %v", s, at, n, to, e, wantN, wantTo, wantE)
	}
	z, to, e := TakeSigned(s, at)
	if z != signedOf(wantN) || to != wantTo || e != wantE {
		t.Errorf("TakeSigned(%x, %d) = %d, %d, %v, want %d, %d, %v", s, at, z, to, e, signedOf(wantN), wantTo, wantE)
	}
	x, to, e := TakeText(s, at)
	wantX, wantTo, wantE := readText(s, at)
	if x != wantX || to != wantTo || e != wantE {
		t.Errorf("TakeText(%x, %d) = %x, %d, %v, want %x, %d, %v", s, at, x, to, e, wantX, wantTo, wantE)
	}
	l, to, e := TakeTexts(s, at)
	wantL, wantTo, wantE := readTexts(s, at)
	if !slices.Equal(l, wantL) || to != wantTo || e != wantE {
		t.Errorf("TakeTexts(%x, %d) = %x, %d, %v, want %x, %d, %v", s, at, l, to, e, wantL, wantTo, wantE)
	}
}

func TestTakingOfAllShortBytes(t *testing.T) { // P1.2
	alphabet := []byte{0, 1, 2, 3, 127, 128, 129, 255}
	rows := []string{""}
	for len(rows[0]) < 5 {
		var longer []string
		for _, s := range rows {
			for at := -1; at <= len(s)+1; at++ {
				checkTaking(t, s, at)
			}
			for _, b := range alphabet {
				longer = append(longer, s+string([]byte{b}))
			}
		}
		rows = longer
	}
}

func TestTakingOfLongNumbers(t *testing.T) { // P1.2
	for _, b := range []string{"\x80", "\x81", "\xfe", "\xff"} {
		for size := range 14 {
			for last := range 256 {
				checkTaking(t, strings.Repeat(b, size)+string([]byte{byte(last)}), 0)
				checkTaking(t, "x"+strings.Repeat(b, size)+string([]byte{byte(last)})+"\x00", 1)
			}
		}
	}
}

func TestTakeTextAtEnds(t *testing.T) { // P1.2
	for s, want := range map[string]taken{
		"\x00": {"", 1, api.OK}, "\x00a": {"", 1, api.OK}, "\x01a": {"a", 2, api.OK}, "\x01ab": {"a", 2, api.OK},
		"\x01": {"", 0, api.ErrShort}, "\x02a": {"", 0, api.ErrShort}, "\x80\x01a": {"", 0, api.ErrShort}, "\x81\x00a": {"", 0, api.ErrForm},
		Number(math.MaxInt64) + "a":     {"", 0, api.ErrShort},
		Number(math.MaxInt64+1) + "a":   {"", 0, api.ErrShort},
		Number(greatest) + "a":          {"", 0, api.ErrShort},
		Number(greatest-9) + "aaaaaaaa": {"", 0, api.ErrShort},
	} {
		if x, to, e := TakeText(s, 0); (taken{x, to, e}) != want {
			t.Errorf("TakeText(%x, 0) = %q, %d, %v, want %v", s, x, to, e, want)
		}
	}
}

func TestTakeTextsTellsTheFirstError(t *testing.T) { // P1.2
	for s, want := range map[string]api.Errno{
		"\x01": api.ErrShort, "\x02\x01a": api.ErrShort, "\x02\x01a\x01": api.ErrShort, "\x02\x01a\x80": api.ErrShort,
		"\x02\x01a\x80\x00": api.ErrForm, "\x05\x80\x00": api.ErrForm, "\x02\x05a\x80\x00": api.ErrShort,
		Number(greatest) + "\x00\x00\x80\x00": api.ErrForm,
		Number(greatest) + "\x00\x00":         api.ErrShort,
		Number(greatest):                      api.ErrShort,
		Number(1 << 40):                       api.ErrShort,
	} {
		if l, to, e := TakeTexts(s, 0); len(l) != 0 || to != 0 || e != want {
			t.Errorf("TakeTexts(%x, 0) = %q, %d, %v, want %v", s, l, to, e, want)
		}
	}
}

func TestTakeTextsHandsOutNewLists(t *testing.T) { // rule 4
	s := Texts("a", "b")
	one, _, _ := TakeTexts(s, 0)
	two, _, _ := TakeTexts(s, 0)
	one[0] = "c"
	if !slices.Equal(two, []string{"a", "b"}) {
		t.Errorf("shared: %q", two)
	}
}

// surroundings has what can stand ahead of what was laid, and behind it.
func surroundings() [][2]string {
	return [][2]string{{"", ""}, {"x", ""}, {"", "x"}, {"\x80", "\x80"}, {"\x00", "\x00"}, {"\xff\xff", "\xff\xff"}, {"\x80\x00", "\x01"}, {strings.Repeat("\xff", 12), strings.Repeat("\xff", 12)}}
}

func TestBack(t *testing.T) { // P1.3
	for _, around := range surroundings() {
		at := len(around[0])
		for _, n := range numbers() {
			laid := Number(n)
			if got, to, e := TakeNumber(around[0]+laid+around[1], at); got != n || to != at+len(laid) || e != api.OK {
				t.Errorf("number %d in %x: %d, %d, %v", n, around, got, to, e)
			}
		}
		for _, n := range signeds() {
			laid := Signed(n)
			if got, to, e := TakeSigned(around[0]+laid+around[1], at); got != n || to != at+len(laid) || e != api.OK {
				t.Errorf("signed %d in %x: %d, %d, %v", n, around, got, to, e)
			}
		}
		for _, x := range texts() {
			laid := Text(x)
			if got, to, e := TakeText(around[0]+laid+around[1], at); got != x || to != at+len(laid) || e != api.OK {
				t.Errorf("text of %d bytes in %x: %x, %d, %v", len(x), around, got, to, e)
			}
		}
		for _, l := range lists() {
			laid := Texts(l...)
			if got, to, e := TakeTexts(around[0]+laid+around[1], at); !slices.Equal(got, l) || to != at+len(laid) || e != api.OK {
				t.Errorf("%d texts in %x: %d, %d, %v", len(l), around, len(got), to, e)
			}
		}
	}
}

// checkForms lays again what is taken of s, if something is, and takes each beginning of it.
func checkForms(t *testing.T, s string) {
	t.Helper()
	layers := map[string]func() (string, int, api.Errno){
		"TakeNumber": func() (string, int, api.Errno) { n, to, e := TakeNumber(s, 0); return Number(n), to, e },
		"TakeSigned": func() (string, int, api.Errno) { n, to, e := TakeSigned(s, 0); return Signed(n), to, e },
		"TakeText":   func() (string, int, api.Errno) { x, to, e := TakeText(s, 0); return Text(x), to, e },
		"TakeTexts":  func() (string, int, api.Errno) { l, to, e := TakeTexts(s, 0); return Texts(l...), to, e },
	}
	for name, take := range takers() {
		laid, to, e := layers[name]()
		if e != api.OK {
			continue
		}
		if laid != s[:to] {
			t.Errorf("%s of %x, laid again: %x", name, s[:to], laid)
		}
		for end := range to {
			if got := take(s[:end], 0); got != refused(name, api.ErrShort) {
				t.Errorf("%s of a beginning %x of %x = %v, want ErrShort", name, s[:end], s[:to], got)
			}
		}
	}
}

func TestForms(t *testing.T) { // P1.4
	seed := uint64(7)
	for range 20000 {
		var bytes []byte
		for range 1 + seed>>60 {
			seed = seed*6364136223846793005 + 1442695040888963407
			bytes = append(bytes, []byte{0, 1, 2, 3, 127, 128, 129, byte(seed >> 40)}[seed>>61])
		}
		checkForms(t, string(bytes))
	}
	for _, n := range numbers() {
		checkForms(t, Number(n))
	}
	for _, l := range lists()[:9] {
		checkForms(t, Texts(l...))
		checkForms(t, Text(strings.Join(l, "")))
	}
	checkForms(t, Texts(strings.Repeat("s", 300), strings.Repeat("\x80", 128)))
}

func TestOrder(t *testing.T) { // P1.5
	rising := numbers()
	for i, less := range rising {
		form := Number(less)
		for _, greater := range rising[i+1:] {
			other := Number(greater)
			if len(other) < len(form) {
				t.Errorf("%d has %d bytes, %d has %d", less, len(form), greater, len(other))
			}
			if strings.HasPrefix(other, form) || strings.HasPrefix(form, other) {
				t.Errorf("the forms %x of %d and %x of %d begin with each other", form, less, other, greater)
			}
		}
	}
	forms := map[string]int64{}
	for _, n := range signeds() {
		if other, ok := forms[Signed(n)]; ok {
			t.Errorf("%d and %d have one form", n, other)
		}
		forms[Signed(n)] = n
	}
}
