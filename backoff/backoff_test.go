package backoff

import (
	"math"
	"math/big"
	"math/rand"
	"slices"
	"testing"

	"entente/api"
)

const (
	most  = math.MaxInt
	least = math.MinInt
)

// told is the chapter's own words, with whole numbers of any length: two to the power of tries, but at most 8; below 0 it is 1.
func told(tries int) int {
	if tries < 0 {
		return 1
	}
	// What is above 2^200 is above 8 as well; the power itself of the greatest int has no room anywhere.
	power := new(big.Int).Exp(big.NewInt(2), big.NewInt(int64(min(tries, 200))), nil)
	if power.Cmp(big.NewInt(8)) > 0 {
		return 8
	}
	return int(power.Int64())
}

// edges has the tries that the chapter and the types make edges of.
func edges() []int {
	l := []int{least, least + 1, least / 2, math.MinInt32, -1 << 20, -64, -63, -5, -4, -3, -2, -1}
	for n := range 70 {
		l = append(l, n)
	}
	return append(l, 127, 128, 129, 255, 256, 257, 1<<16, 1<<31-1, 1<<31, 1<<31+1, 1<<32, 1<<32+1, 1<<62, 1<<62+1, most-1, most)
}

// mixed has tries of all sizes, below 0 and above it.
func mixed(r *rand.Rand, count int) []int {
	l := make([]int, count)
	for i := range l {
		l[i] = int(r.Uint64()) >> r.Intn(64)
		if r.Intn(2) == 0 {
			l[i] = r.Intn(8) - 2
		}
	}
	return l
}

// The chapter's example, and the limits that its numbers come from.
func TestExample(t *testing.T) {
	if api.Base != 1 || api.Cap != 8 {
		t.Fatal("the limits are others", api.Base, api.Cap)
	}
	for tries, want := range []int{1, 2, 4, 8, 8} {
		if d := Delay(tries); d != want {
			t.Errorf("Delay(%d) = %d; want %d", tries, d, want)
		}
	}
	for _, c := range [][2]int{{7, 3}, {14, 3}, {15, 4}} {
		if n := Within(c[0]); n != c[1] {
			t.Errorf("Within(%d) = %d; want %d", c[0], n, c[1])
		}
	}
}

// P11.1: the powers of two, the cap, and Base below 0.
func TestDelay(t *testing.T) {
	for _, c := range [][2]int{
		{least, 1}, {least + 1, 1}, {-1 << 32, 1}, {-64, 1}, {-63, 1}, {-5, 1}, {-3, 1}, {-2, 1}, {-1, 1},
		{0, 1}, {1, 2}, {2, 4}, {3, 8}, {4, 8}, {5, 8}, {6, 8}, {7, 8}, {8, 8}, {31, 8}, {32, 8}, {33, 8},
		{61, 8}, {62, 8}, {63, 8}, {64, 8}, {65, 8}, {127, 8}, {128, 8}, {1 << 32, 8}, {1 << 62, 8}, {most - 1, 8}, {most, 8},
	} {
		if d := Delay(c[0]); d != c[1] {
			t.Errorf("Delay(%d) = %d; want %d", c[0], d, c[1])
		}
	}
}

// P11.1: delays of edges, of a row of tries and of mixed ones, held against whole numbers.
func TestDelayAgainstWholeNumbers(t *testing.T) {
	tries := append(edges(), mixed(rand.New(rand.NewSource(111)), 20000)...)
	for n := -1000; n <= 3000; n++ {
		tries = append(tries, n)
	}
	for _, n := range tries {
		if d, want := Delay(n), told(n); d != want {
			t.Errorf("Delay(%d) = %d; want %d", n, d, want)
		}
	}
}

// P11.2: now and the delay together, at both ends of the times.
func TestNext(t *testing.T) {
	for _, c := range [][3]int{
		{0, 0, 1}, {0, 1, 2}, {0, 2, 4}, {0, 3, 8}, {0, 4, 8}, {0, -1, 1}, {0, least, 1}, {0, most, 8},
		{1, 0, 2}, {5, 2, 9}, {7, 3, 15}, {100, 64, 108}, {100, -64, 101}, {999999999, 0, 1000000000}, {999999999, 9, 1000000007},
		{1000000000, 0, 1000000001}, {1000000000, 1, 1000000002}, {1000000000, 2, 1000000004}, {1000000000, 3, 1000000008},
		{1000000000, 9, 1000000008}, {1000000000, -9, 1000000001}, {1000000000, least, 1000000001}, {1000000000, most, 1000000008},
	} {
		if at, e := Next(c[0], c[1]); at != c[2] || e != api.OK {
			t.Errorf("Next(%d, %d) = %d, %d; want %d", c[0], c[1], at, e, c[2])
		}
	}
}

// P11.2: ErrTime of a now outside the times, whatever the tries are, and 0 beside it.
func TestNextAtWrongTimes(t *testing.T) {
	for _, now := range []int{
		-1, -2, -8, -1000000000, -1000000001, math.MinInt32, least, least + 1, least + 1000000000,
		1000000001, 1000000002, 1000000008, 2000000000, math.MaxInt32, 1 << 32, 1<<32 + 5, most - 8, most - 7, most - 1, most,
	} {
		for _, tries := range edges() {
			if at, e := Next(now, tries); at != 0 || e != api.ErrTime {
				t.Errorf("Next(%d, %d) = %d, %d", now, tries, at, e)
			}
		}
	}
}

// P11.2: every edge of the times with every edge of the tries, held against whole numbers.
func TestNextAgainstWholeNumbers(t *testing.T) {
	r := rand.New(rand.NewSource(112))
	times := []int{0, 1, 2, 7, 8, 9, 999999, 1000000, 1000001, 500000000, 999999991, 999999992, 999999993, 999999999, 1000000000}
	for range 200 {
		times = append(times, r.Intn(1000000001))
	}
	for _, now := range times {
		for _, tries := range append(edges(), mixed(r, 50)...) {
			if at, e := Next(now, tries); at != now+told(tries) || e != api.OK {
				t.Errorf("Next(%d, %d) = %d, %d; want %d", now, tries, at, e, now+told(tries))
			}
		}
	}
}

// P11.3: of nothing, of one, of some, of all that may be.
func TestTotal(t *testing.T) {
	for _, c := range []struct {
		tries []int
		want  int
	}{
		{nil, 0}, {[]int{}, 0}, {[]int{0}, 1}, {[]int{1}, 2}, {[]int{3}, 8}, {[]int{-1}, 1}, {[]int{least}, 1}, {[]int{most}, 8},
		{[]int{0, 0}, 2}, {[]int{0, 1, 2, 3, 4}, 23}, {[]int{4, 3, 2, 1, 0}, 23}, {[]int{-3, -2, -1}, 3}, {[]int{2, 2, 2}, 12},
		{[]int{least, most}, 9}, {[]int{most, most, most}, 24}, {[]int{62, 63, 64}, 24}, {[]int{least, least}, 2},
		{make([]int, 999), 999}, {make([]int, 1000), 1000},
		{slices.Repeat([]int{most}, 999), 7992}, {slices.Repeat([]int{most}, 1000), 8000}, {slices.Repeat([]int{least}, 1000), 1000},
		{slices.Repeat([]int{2}, 1000), 4000}, {append(make([]int, 999), 3), 1007}, {append([]int{3}, make([]int, 999)...), 1007},
	} {
		if n, e := Total(c.tries...); n != c.want || e != api.OK {
			t.Errorf("Total(%v) = %d, %d; want %d", c.tries, n, e, c.want)
		}
	}
	if n, e := Total(); n != 0 || e != api.OK {
		t.Errorf("Total() = %d, %d", n, e)
	}
	if n, e := Total(0, 1, 2); n != 7 || e != api.OK {
		t.Errorf("Total(0, 1, 2) = %d, %d", n, e)
	}
}

// P11.3: ErrBig of more than 1000, whatever they are, and 0 beside it.
func TestTotalOfTooMany(t *testing.T) {
	for _, count := range []int{1001, 1002, 1024, 2000, 65536, 1000000} {
		for _, tries := range []int{least, -1, 0, 1, 3, most} {
			if n, e := Total(slices.Repeat([]int{tries}, count)...); n != 0 || e != api.ErrBig {
				t.Errorf("Total of %d times %d = %d, %d", count, tries, n, e)
			}
		}
	}
}

// P11.3: lists of every length about the edges, with mixed tries, held against whole numbers; their order is of no matter.
func TestTotalAgainstWholeNumbers(t *testing.T) {
	r := rand.New(rand.NewSource(113))
	for count := range 1010 {
		tries := mixed(r, count)
		want, wantErr := 0, api.OK
		for _, n := range tries {
			want += told(n)
		}
		if count > 1000 {
			want, wantErr = 0, api.ErrBig
		}
		if n, e := Total(tries...); n != want || e != wantErr {
			t.Errorf("Total of %d = %d, %d; want %d, %d", count, n, e, want, wantErr)
		}
		slices.Sort(tries)
		if n, e := Total(tries...); n != want || e != wantErr {
			t.Errorf("Total of %d, sorted = %d, %d; want %d, %d", count, n, e, want, wantErr)
		}
	}
}

// P11.4: spans about each of the first delays, and about the longest one.
func TestWithin(t *testing.T) {
	for span, want := range []int{0, 1, 1, 2, 2, 2, 2, 3, 3, 3, 3, 3, 3, 3, 3, 4, 4, 4, 4, 4, 4, 4, 4, 5, 5, 5, 5, 5, 5, 5, 5, 6, 6} {
		if n := Within(span); n != want {
			t.Errorf("Within(%d) = %d; want %d", span, n, want)
		}
	}
	for _, c := range [][2]int{
		{least, 0}, {least + 1, 0}, {math.MinInt32, 0}, {-1000001, 0}, {-1000000, 0}, {-15, 0}, {-8, 0}, {-7, 0}, {-2, 0}, {-1, 0}, {0, 0},
		{998, 126}, {999, 127}, {1000, 127}, {999990, 125000}, {999991, 125001}, {999998, 125001}, {999999, 125002}, {1000000, 125002},
	} {
		if n := Within(c[0]); n != c[1] {
			t.Errorf("Within(%d) = %d; want %d", c[0], n, c[1])
		}
	}
}

// P11.4: a span of more than 1000000 is as one of 1000000.
func TestWithinLongSpans(t *testing.T) {
	for _, span := range []int{
		1000001, 1000002, 1000006, 1000007, 1000008, 1000015, 1000016, 1000100, 1100000, 2000000, 1000000000,
		math.MaxInt32, math.MaxInt32 + 1, 1 << 32, 1<<32 + 7, 1 << 62, most - 8, most - 1, most,
	} {
		if n := Within(span); n != 125002 {
			t.Errorf("Within(%d) = %d; want 125002", span, n)
		}
	}
}

// P11.4, P11.6: every span up to 1000000, and some beyond, held against the delays, one behind the other.
func TestWithinEverySpan(t *testing.T) {
	count, together := 0, 0
	for span := -100; span <= 1000100; span++ {
		if together+told(count) <= min(span, 1000000) {
			together += told(count)
			count++
		}
		if n := Within(span); n != count {
			t.Fatalf("Within(%d) = %d; want %d", span, n, count)
		}
	}
	if count != 125002 {
		t.Errorf("%d delays were held against the spans", count)
	}
}

// P11.5: more tries, no less a delay, and at most twice as much as of one less; always from Base to Cap.
func TestGrows(t *testing.T) {
	tries := append(edges(), mixed(rand.New(rand.NewSource(115)), 20000)...)
	for n := -300; n <= 300; n++ {
		tries = append(tries, n)
	}
	slices.Sort(tries)
	before := Delay(least)
	for _, n := range tries {
		d := Delay(n)
		if d < api.Base || d > api.Cap {
			t.Errorf("Delay(%d) = %d, which is not from %d to %d", n, d, api.Base, api.Cap)
		}
		if d < before {
			t.Errorf("Delay(%d) = %d, and of less it was %d", n, d, before)
		}
		before = d
		if n == least {
			continue // there is no int of one less
		}
		if less := Delay(n - 1); d < less || d > 2*less {
			t.Errorf("Delay(%d) = %d, Delay(%d) = %d", n, d, n-1, less)
		}
	}
	if d := Delay(0); d != api.Base {
		t.Errorf("Delay(0) = %d", d)
	}
	if d := Delay(most); d != api.Cap {
		t.Errorf("Delay(%d) = %d", most, d)
	}
}

// row has the first tries: 0, 1, and so on.
func row(count int) []int {
	l := make([]int, count)
	for i := range l {
		l[i] = i
	}
	return l
}

// P11.6: by the package's own calls, the first delays fit into a span, and one more does not.
func TestFits(t *testing.T) {
	for span := -20; span <= 7900; span++ {
		n := Within(span)
		if n == 0 && span < 1 {
			continue // of nothing there is nothing to fit
		}
		fits, e1 := Total(row(n)...)
		more, e2 := Total(row(n + 1)...)
		if e1 != api.OK || e2 != api.OK {
			t.Fatalf("Within(%d) = %d; Total answers %d and %d", span, n, e1, e2)
		}
		if fits > span || more <= span {
			t.Errorf("Within(%d) = %d, which are %d together; one more: %d", span, n, fits, more)
		}
		if again := Within(more); again != n+1 {
			t.Errorf("Within(%d) = %d, though %d are as long", more, again, n+1)
		}
	}
}

// The rules that hold everywhere: a list that is handed in is not changed, nor its spare room, whether it is taken or not.
func TestTotalLeavesItsTries(t *testing.T) {
	r := rand.New(rand.NewSource(117))
	for _, count := range []int{0, 1, 7, 1000, 1001, 1500} {
		room := mixed(r, count+9)
		before := slices.Clone(room)
		Total(room[:count]...)
		if !slices.Equal(room, before) {
			t.Errorf("Total of %d left another list", count)
		}
	}
}

// The rules that hold everywhere: nothing is kept from call to call.
func TestSameAnswersAgain(t *testing.T) {
	type answer struct {
		delay, next, total, within int
		nextErr, totalErr          api.Errno
	}
	ask := func(n int) (a answer) {
		a.delay, a.within = Delay(n), Within(n)
		a.next, a.nextErr = Next(n, n)
		a.total, a.totalErr = Total(slices.Repeat([]int{n}, 990+max(0, min(n, 20)))...)
		return a
	}
	first := map[int]answer{}
	for _, n := range edges() {
		first[n] = ask(n)
	}
	l := edges()
	slices.Reverse(l)
	for _, n := range l {
		if a := ask(n); a != first[n] {
			t.Errorf("of %d: %v, and then %v", n, first[n], a)
		}
	}
}
