package cash

import (
	"math"
	"math/big"
	"math/rand"
	"slices"
	"strings"
	"testing"

	"entente/api"
)

const (
	most  = math.MaxInt64
	least = math.MinInt64
)

// told is what the chapter answers for a whole number: it, or ErrCash outside the range.
func told(n *big.Int) (int64, api.Errno) {
	low := new(big.Int).Neg(new(big.Int).Lsh(big.NewInt(1), 63))
	high := new(big.Int).Sub(new(big.Int).Lsh(big.NewInt(1), 63), big.NewInt(1))
	if n.Cmp(low) < 0 || n.Cmp(high) > 0 {
		return 0, api.ErrCash
	}
	return n.Int64(), api.OK
}

func wholeSum(l []int64) *big.Int {
	n := new(big.Int)
	for _, a := range l {
		n.Add(n, big.NewInt(a))
	}
	return n
}

func checkSum(t *testing.T, l []int64) {
	t.Helper()
	want, wantErr := told(wholeSum(l))
	if a, e := Sum(l...); a != want || e != wantErr {
		t.Errorf("Sum(%v) = %d, %d; want %d, %d", l, a, e, want, wantErr)
	}
}

func checkTimes(t *testing.T, a, n int64) {
	t.Helper()
	want, wantErr := told(new(big.Int).Mul(big.NewInt(a), big.NewInt(n)))
	if b, e := Times(a, n); b != want || e != wantErr {
		t.Errorf("Times(%d, %d) = %d, %d; want %d, %d", a, n, b, e, want, wantErr)
	}
}

// orders calls what it is given with every order of some parts.
func orders(l []int64, visit func([]int64)) {
	var place func(int)
	place = func(at int) {
		if at == len(l) {
			visit(slices.Clone(l))
			return
		}
		for i := at; i < len(l); i++ {
			l[at], l[i] = l[i], l[at]
			place(at + 1)
			l[at], l[i] = l[i], l[at]
		}
	}
	place(0)
}

// edges has amounts at which something changes: the range's ends, their halves and roots, 0, hundreds and the limit.
func edges() []int64 {
	var l []int64
	for _, a := range []int64{0, 10, 100, 1000, 1 << 31, 1 << 32, 3037000499, 1 << 62, most/2 + 1, api.MaxCash, most / 10, most / 100} {
		for d := int64(-2); d <= 2; d++ {
			l = append(l, a+d, -a+d)
		}
	}
	return append(l, most, most-1, most-2, least, least+1, least+2)
}

// random is an amount of any length.
func random(r *rand.Rand) int64 {
	return int64(r.Uint64()) >> r.Intn(64)
}

// P4.1: the sum of all, as whole numbers.
func TestSumTellsTheSum(t *testing.T) {
	for _, c := range []struct {
		parts []int64
		want  int64
	}{
		{nil, 0}, {[]int64{}, 0}, {[]int64{0}, 0}, {[]int64{7}, 7}, {[]int64{-7}, -7},
		{[]int64{1, 2, 3}, 6}, {[]int64{1, -2, 3, -4}, -2}, {[]int64{5, -5}, 0}, {[]int64{0, 0, 0}, 0},
		{[]int64{most}, most}, {[]int64{least}, least}, {[]int64{most, 0}, most}, {[]int64{least, 0}, least},
		{[]int64{most - 1, 1}, most}, {[]int64{least + 1, -1}, least}, {[]int64{most, -1}, most - 1}, {[]int64{least, 1}, least + 1},
		{[]int64{most, least}, -1}, {[]int64{most, least, 1}, 0},
		{[]int64{-1 << 62, -1 << 62}, least}, {[]int64{1 << 62, 1<<62 - 1}, most},
	} {
		if a, e := Sum(c.parts...); a != c.want || e != api.OK {
			t.Errorf("Sum(%v) = %d, %d; want %d", c.parts, a, e, c.want)
		}
	}
	if a, e := Sum(); a != 0 || e != api.OK {
		t.Errorf("Sum() = %d, %d", a, e)
	}
}

// P4.1: ErrCash outside the range, and 0 beside it.
func TestSumOutsideTheRange(t *testing.T) {
	for _, parts := range [][]int64{
		{most, 1}, {1, most}, {least, -1}, {-1, least}, {most, most}, {least, least}, {1 << 62, 1 << 62}, {-1 << 62, -1<<62 - 1},
		{most, most, most}, {least, least, least}, {most, most, 2}, {least, least, 1}, {most, most, least, 2}, {least, least, most},
		slices.Repeat([]int64{most}, 4), slices.Repeat([]int64{least}, 4),
		slices.Repeat([]int64{1 << 62}, 5), // wrapped round, it would be in the range again
		slices.Repeat([]int64{-1 << 62}, 7),
	} {
		if a, e := Sum(parts...); a != 0 || e != api.ErrCash {
			t.Errorf("Sum(%v) = %d, %d", parts, a, e)
		}
	}
	for _, part := range []int64{1 << 62, -1 << 62, least, most} {
		for count := range 70 {
			checkSum(t, slices.Repeat([]int64{part}, count))
		}
	}
}

// P4.1, P4.3: a sum may leave the range on the way and come back, from above and from below, in every order.
func TestSumInEveryOrder(t *testing.T) {
	for _, c := range []struct {
		parts []int64
		want  int64
		err   api.Errno
	}{
		{[]int64{most, 1, -1}, most, api.OK},
		{[]int64{least, -1, 1}, least, api.OK},
		{[]int64{most, most, -most}, most, api.OK},
		{[]int64{least, least, most, most, 2}, 0, api.OK},
		{[]int64{most, most, least, least, 3, -1}, 0, api.OK},
		{[]int64{most, 5, least, -5}, -1, api.OK},
		{[]int64{most, most, least + 1, 1}, 0, api.ErrCash},
		{[]int64{least, least, most, -1}, 0, api.ErrCash},
		{[]int64{1 << 62, 1 << 62, 1 << 62, -1 << 62}, 0, api.ErrCash},
		{[]int64{1, 20, 300, -4000, 50000}, 46321, api.OK},
	} {
		orders(c.parts, func(l []int64) {
			if a, e := Sum(l...); a != c.want || e != c.err {
				t.Errorf("Sum(%v) = %d, %d; want %d, %d", l, a, e, c.want, c.err)
			}
		})
	}
}

// P4.1: sums of edges and of mixed parts, held against whole numbers.
func TestSumAgainstWholeNumbers(t *testing.T) {
	for _, a := range edges() {
		checkSum(t, []int64{a})
		for _, b := range edges() {
			checkSum(t, []int64{a, b})
			checkSum(t, []int64{a, b, -1})
			checkSum(t, []int64{a, b, 1})
		}
	}
	r := rand.New(rand.NewSource(41))
	for range 20000 {
		parts := make([]int64, r.Intn(9))
		for i := range parts {
			parts[i] = random(r)
		}
		checkSum(t, parts)
	}
}

// P4.1: the product, and ErrCash with 0 outside the range.
func TestTimes(t *testing.T) {
	for _, c := range []struct {
		a, n, want int64
		err        api.Errno
	}{
		{0, 0, 0, api.OK}, {3, 4, 12, api.OK}, {3, -4, -12, api.OK}, {-3, 4, -12, api.OK}, {-3, -4, 12, api.OK},
		{least, 0, 0, api.OK}, {least, 1, least, api.OK}, {least, -1, 0, api.ErrCash}, {least, 2, 0, api.ErrCash},
		{least, least, 0, api.ErrCash}, {least, most, 0, api.ErrCash}, {most, most, 0, api.ErrCash},
		{most, 0, 0, api.OK}, {most, 1, most, api.OK}, {most, -1, -most, api.OK}, {most, 2, 0, api.ErrCash}, {most, -2, 0, api.ErrCash},
		{1 << 62, 2, 0, api.ErrCash}, {-1 << 62, 2, least, api.OK}, {1 << 62, -2, least, api.OK}, {-1 << 62, -2, 0, api.ErrCash},
		{1<<62 - 1, 2, most - 1, api.OK}, {-1<<62 - 1, 2, 0, api.ErrCash}, {1 << 32, 1 << 31, 0, api.ErrCash}, {1 << 32, -1 << 31, least, api.OK},
		{1 << 32, 1 << 32, 0, api.ErrCash}, {1 << 33, 1 << 31, 0, api.ErrCash}, {-1 << 32, 1 << 32, 0, api.ErrCash},
		{7, most / 7, most, api.OK}, {7, most/7 + 1, 0, api.ErrCash}, {-7, most / 7, -most, api.OK}, {7, least/7 - 1, 0, api.ErrCash},
	} {
		for _, f := range [][2]int64{{c.a, c.n}, {c.n, c.a}} {
			if b, e := Times(f[0], f[1]); b != c.want || e != c.err {
				t.Errorf("Times(%d, %d) = %d, %d; want %d, %d", f[0], f[1], b, e, c.want, c.err)
			}
		}
	}
}

// P4.1: products of edges and of mixed factors, held against whole numbers.
func TestTimesAgainstWholeNumbers(t *testing.T) {
	for _, a := range edges() {
		for _, n := range edges() {
			checkTimes(t, a, n)
		}
		// The factors at which the product leaves the range.
		if a != 0 {
			for d := int64(-2); d <= 2; d++ {
				checkTimes(t, a, most/a+d)
				checkTimes(t, a, -(most/a)+d)
			}
		}
	}
	r := rand.New(rand.NewSource(42))
	for range 50000 {
		checkTimes(t, random(r), random(r))
	}
}

// P4.1: from 0 to MaxCash.
func TestFits(t *testing.T) {
	for _, a := range []int64{0, 1, 99, 100, 999999999999999, 1000000000000000} {
		if !Fits(a) {
			t.Errorf("Fits(%d) is false", a)
		}
	}
	for _, a := range []int64{-1, -2, -1000000000000000, 1000000000000001, most, least, least + 1000000000000000} {
		if Fits(a) {
			t.Errorf("Fits(%d) is true", a)
		}
	}
}

// wholeText is the chapter's own words, with whole numbers of any length.
func wholeText(n *big.Int) string {
	s := ""
	if n.Sign() < 0 {
		s = "-"
	}
	hundreds, last := new(big.Int).QuoRem(new(big.Int).Abs(n), big.NewInt(100), new(big.Int))
	tens, ones := last.Int64()/10, last.Int64()%10
	return s + hundreds.String() + "." + "0123456789"[tens:tens+1] + "0123456789"[ones:ones+1]
}

// P4.2: what Show writes, and that Parse reads it.
func TestShow(t *testing.T) {
	for _, c := range []struct {
		a    int64
		want string
	}{
		{0, "0.00"}, {1, "0.01"}, {5, "0.05"}, {9, "0.09"}, {10, "0.10"}, {11, "0.11"}, {50, "0.50"}, {99, "0.99"},
		{-1, "-0.01"}, {-5, "-0.05"}, {-9, "-0.09"}, {-10, "-0.10"}, {-50, "-0.50"}, {-99, "-0.99"},
		{100, "1.00"}, {101, "1.01"}, {110, "1.10"}, {-100, "-1.00"}, {-101, "-1.01"}, {999, "9.99"}, {1000, "10.00"}, {-1000, "-10.00"},
		{1234, "12.34"}, {-1234, "-12.34"}, {100000, "1000.00"}, {1000000000000000, "10000000000000.00"},
		{most, "92233720368547758.07"}, {most - 7, "92233720368547758.00"}, {least, "-92233720368547758.08"}, {least + 1, "-92233720368547758.07"},
	} {
		if s := Show(c.a); s != c.want {
			t.Errorf("Show(%d) = %q; want %q", c.a, s, c.want)
		}
		if a, e := Parse(c.want); a != c.a || e != api.OK {
			t.Errorf("Parse(%q) = %d, %d; want %d", c.want, a, e, c.a)
		}
	}
}

// P4.2: texts that are nearly an amount's.
func TestParseWrongTexts(t *testing.T) {
	for _, s := range []string{
		"", "-", ".", "-.", "0", "1", "00", "05", "-1", "0.", "0.0", "1.2", "-1.2", "0.000", "1.000", "1.234", "-1.234", "1234",
		".00", ".05", "-.05", "-0.00", "--0.05", "--1.00", "-0-.05", "0.-05", "0.0-5", "0.05-", "1.00-", "+1.00", "+0.00", "-+1.00", "+-1.00", "1.+00",
		"00.00", "01.00", "-01.00", "00.05", "-00.05", "000012.34",
		" 1.00", "1.00 ", "1 .00", "1. 00", "1.0 0", "- 1.00", "-1.00\n", "\t1.00", "1.00\x00", "\x001.00",
		"1..00", "1.0.0", ".1.00", "1.00.", "1.00.00", "..", "1,00", "1:00", "1/00", "12.3a", "a.00", "1.0a", "1.00x", "x1.00", "0x1.00", "1e2.00", "1_0.00", "1.0:", "1.0/", ":.00", "/.00",
		"1,000.00", "１.00", "1.0０", "1.\xb0\xb1", "\xff1.00", "−1.00", "NaN", "1.00-1.00", "1.001.00", "Inf",
		"92233720368547758.08", "-92233720368547758.09", "92233720368547758.10", "-92233720368547758.10", "92233720368547759.00", "-92233720368547759.00", "100000000000000000.00", "-100000000000000000.00", "99999999999999999.99", "-99999999999999999.99",
		"184467440737095516.15", "184467440737095516.16", "-184467440737095516.16", "184467440737095516.17", "-184467440737095516.17", "184467440737095517.16", "276701161105643274.24", // wrapped round, they would be in the range
		strings.Repeat("9", 1000) + ".99", "1" + strings.Repeat("0", 100000) + ".00", strings.Repeat("0", 1000) + "1.00", "1." + strings.Repeat("0", 1000), strings.Repeat("-", 1000), strings.Repeat(".", 1000),
	} {
		if a, e := Parse(s); a != 0 || e != api.ErrCash {
			t.Errorf("Parse(%q) = %d, %d", s, a, e)
		}
	}
}

// P4.2: every short text of the signs that amounts have, and of some next to them, held against the amounts' own texts.
func TestParseEveryShortText(t *testing.T) {
	amounts := map[string]int64{}
	for a := int64(-99999); a <= 99999; a++ {
		amounts[wholeText(big.NewInt(a))] = a
	}
	var visit func(string)
	visit = func(s string) {
		want, is := amounts[s]
		a, e := Parse(s)
		if a != want || (e == api.OK) != is || e != api.OK && e != api.ErrCash {
			t.Fatalf("Parse(%q) = %d, %d; want %d, %v", s, a, e, want, is)
		}
		if len(s) == 6 {
			return
		}
		for _, sign := range "-.019+ /:" {
			visit(s + string(sign))
		}
	}
	visit("")
}

// P4.2, P4.4: Show is the text in the chapter's words; Parse of Show is the number, Show of Parse the text.
func TestBack(t *testing.T) {
	r := rand.New(rand.NewSource(43))
	amounts := edges()
	for range 20000 {
		amounts = append(amounts, random(r))
	}
	for a := int64(-2500); a <= 2500; a++ {
		amounts = append(amounts, a)
	}
	for _, a := range amounts {
		s := Show(a)
		if want := wholeText(big.NewInt(a)); s != want {
			t.Errorf("Show(%d) = %q; want %q", a, s, want)
		}
		b, e := Parse(s)
		if b != a || e != api.OK || Show(b) != s {
			t.Errorf("Parse(%q) = %d, %d; want %d", s, b, e, a)
		}
	}
}

// P4.2, P4.4: an amount's text with one byte changed, put in or left out is another's or none's.
func TestParseChangedTexts(t *testing.T) {
	r := rand.New(rand.NewSource(44))
	for range 50000 {
		s := Show(random(r))
		at := r.Intn(len(s))
		put := string("-.0123456789+ x"[r.Intn(15)])
		s = s[:at] + []string{put, put + s[at:at+1], ""}[r.Intn(3)] + s[at+1:]
		a, e := Parse(s)
		if e == api.OK && wholeText(big.NewInt(a)) != s || e != api.OK && (a != 0 || e != api.ErrCash) {
			t.Errorf("Parse(%q) = %d, %d", s, a, e)
		}
		if e != api.OK && isText(s) {
			t.Errorf("Parse(%q) takes it not", s)
		}
	}
}

// isText tells whether s is the text of a number in the range: read as whole numbers, and written again.
func isText(s string) bool {
	n, ok := new(big.Int).SetString(strings.ReplaceAll(s, ".", ""), 10)
	if !ok || wholeText(n) != s {
		return false
	}
	_, e := told(n)
	return e == api.OK
}

// P4.3: how a sum is parted is of no matter, where the parts' sums are told.
func TestSumOfSums(t *testing.T) {
	r := rand.New(rand.NewSource(45))
	toldBoth := 0
	for range 20000 {
		parts := make([]int64, 2+r.Intn(6))
		for i := range parts {
			parts[i] = random(r)
		}
		cut := r.Intn(len(parts) + 1)
		first, e1 := Sum(parts[:cut]...)
		second, e2 := Sum(parts[cut:]...)
		if e1 != api.OK || e2 != api.OK {
			continue
		}
		toldBoth++
		whole, e := Sum(parts...)
		if again, e3 := Sum(first, second); again != whole || e3 != e {
			t.Errorf("Sum(%v) = %d, %d; of the sums of %d and the rest %d, %d", parts, whole, e, cut, again, e3)
		}
		slices.Sort(parts)
		if again, e3 := Sum(parts...); again != whole || e3 != e {
			t.Errorf("Sum(%v) = %d, %d; in another order %d, %d", parts, again, e3, whole, e)
		}
	}
	if toldBoth < 5000 {
		t.Errorf("only %d sums were parted", toldBoth)
	}
}

// P4.3: Times is the sum of as many.
func TestTimesIsTheSumOfAsMany(t *testing.T) {
	for _, a := range edges() {
		for count := range 40 {
			sum, wantErr := Sum(slices.Repeat([]int64{a}, count)...)
			if b, e := Times(a, int64(count)); b != sum || e != wantErr {
				t.Errorf("Times(%d, %d) = %d, %d; their sum %d, %d", a, count, b, e, sum, wantErr)
			}
		}
	}
}

// The rules that hold everywhere: a list that is handed in is not changed, nor its spare room.
func TestSumLeavesItsParts(t *testing.T) {
	room := []int64{most, 1, -1, 77, 78}
	before := slices.Clone(room)
	Sum(room[:3]...)
	if !slices.Equal(room, before) {
		t.Errorf("Sum left %v of %v", room, before)
	}
}
