package wheel

import (
	"fmt"
	"math"
	"math/rand"
	"slices"
	"sort"
	"strconv"
	"strings"
	"testing"
	"unsafe"

	"entente/api"
)

const (
	most  = math.MaxInt
	least = math.MinInt
	last  = 1000000000 // the chapter's greatest time
)

// plain is the chapter's own words: a time and timers, looked through one by one at each Tick.
type plain struct {
	now int
	due map[string]int
}

func newPlain(now int) *plain { return &plain{now: now, due: map[string]int{}} }

func (p *plain) set(key string, at int) api.Errno {
	_, there := p.due[key]
	switch {
	case len(key) < 1 || len(key) > 100 || at > 1000000000:
		return api.ErrArg
	case at <= p.now:
		return api.ErrTime
	case len(p.due) >= 200 && !there:
		return api.ErrBig
	}
	p.due[key] = at
	return api.OK
}

func (p *plain) drop(key string) bool {
	_, there := p.due[key]
	delete(p.due, key)
	return there
}

func (p *plain) all() []api.Timer {
	var l []api.Timer
	for key, at := range p.due {
		l = append(l, api.Timer{Key: key, At: at})
	}
	sort.Slice(l, func(i, j int) bool { return l[i].At < l[j].At || l[i].At == l[j].At && l[i].Key < l[j].Key })
	return l
}

// skip is n Ticks: of those that all tells, the ones up to the new time.
func (p *plain) skip(n int) []api.Timer {
	p.now = min(p.now+n, 1000000000)
	var l []api.Timer
	for _, x := range p.all() {
		if x.At <= p.now {
			l = append(l, x)
			delete(p.due, x.Key)
		}
	}
	return l
}

// made has a wheel at a time.
func made(t *testing.T, now int) *Wheel {
	t.Helper()
	w, e := New(now)
	if w == nil || e != api.OK {
		t.Fatalf("New(%d) = %v, %d", now, w, e)
	}
	return w
}

// set sets timers that can be set.
func set(t *testing.T, w *Wheel, timers ...api.Timer) {
	t.Helper()
	for _, x := range timers {
		if e := w.Set(x.Key, x.At); e != api.OK {
			t.Fatalf("at %d Set(%q, %d) = %d", w.Now(), x.Key, x.At, e)
		}
	}
}

// filled has a wheel at a time with timers k0, k1, and so on, one behind the other.
func filled(t *testing.T, now, count int) *Wheel {
	t.Helper()
	w := made(t, now)
	for i := range count {
		set(t, w, api.Timer{Key: "k" + strconv.Itoa(i), At: now + 1 + i})
	}
	return w
}

// timers reads "a 3 b 5".
func timers(s string) []api.Timer {
	var l []api.Timer
	words := strings.Fields(s)
	for i := 0; i < len(words); i += 2 {
		at, _ := strconv.Atoi(words[i+1])
		l = append(l, api.Timer{Key: words[i], At: at})
	}
	return l
}

// same fails, unless a wheel has just this time and these timers, by each of its looks.
func same(t *testing.T, w *Wheel, now int, want []api.Timer) {
	t.Helper()
	if w.Now() != now {
		t.Errorf("the time is %d; want %d", w.Now(), now)
	}
	if l := w.All(); !slices.Equal(l, want) {
		t.Errorf("at %d All = %v; want %v", now, l, want)
	}
	for _, x := range want {
		if at, ok := w.At(x.Key); at != x.At || !ok {
			t.Errorf("at %d At(%q) = %d, %v; want %d", now, x.Key, at, ok, x.At)
		}
	}
}

// The chapter's example.
func TestExample(t *testing.T) {
	w := made(t, 0)
	set(t, w, timers("a 3 b 2 c 3 b 5")...)
	for i, want := range []string{"", "", "a 3 c 3", "", "b 5", "", ""} {
		if l := w.Tick(); !slices.Equal(l, timers(want)) {
			t.Errorf("Tick %d = %v; want %v", i+1, l, want)
		}
	}
}

// P12.1: a wheel at each time that may be, without timers.
func TestNew(t *testing.T) {
	for _, now := range []int{0, 1, 2, 31, 32, 33, 1023, 1024, 1 << 29, 999999999, 1000000000} {
		w := made(t, now)
		same(t, w, now, nil)
		if at, ok := w.At("a"); at != 0 || ok || w.Drop("a") {
			t.Errorf("of a new wheel at %d there is a timer at %d", now, at)
		}
		if l := w.Tick(); len(l) != 0 {
			t.Errorf("a new wheel at %d tells %v", now, l)
		}
		same(t, w, min(now+1, last), nil)
	}
}

// P12.1: ErrArg, and no wheel, at all other times.
func TestNewAtWrongTimes(t *testing.T) {
	for _, now := range []int{-1, -2, -1000000000, math.MinInt32, least, least + 1, 1000000001, 1000000002, 1 << 30, math.MaxInt32, 1 << 32, most - 1, most} {
		if w, e := New(now); w != nil || e != api.ErrArg {
			t.Errorf("New(%d) = %v, %d", now, w, e)
		}
	}
}

// P12.1: wheels know nothing of each other.
func TestNewIsItsOwn(t *testing.T) {
	v, w := made(t, 5), made(t, 5)
	set(t, v, timers("a 7")...)
	same(t, w, 5, nil)
	v.Tick()
	set(t, w, timers("a 9 b 6")...)
	same(t, v, 6, timers("a 7"))
	same(t, w, 5, timers("b 6 a 9"))
}

// P12.1: every call of nil, and of a Wheel that no call made, again and again.
func TestNone(t *testing.T) {
	var blank Wheel
	for i, w := range []*Wheel{nil, {}, new(Wheel), &blank} {
		for range 3 {
			for _, key := range []string{"", "a", strings.Repeat("k", 100), strings.Repeat("k", 101)} {
				for _, at := range []int{least, -1, 0, 1, 7, last, last + 1, most} {
					if e := w.Set(key, at); e != api.ErrNil {
						t.Errorf("%d: Set(%q, %d) = %d", i, key, at, e)
					}
				}
				if w.Drop(key) {
					t.Errorf("%d: Drop(%q)", i, key)
				}
				if at, ok := w.At(key); at != 0 || ok {
					t.Errorf("%d: At(%q) = %d, %v", i, key, at, ok)
				}
			}
			for _, n := range []int{least, -1, 0, 1, 100000, 100001, most} {
				if l, e := w.Skip(n); len(l) != 0 || e != api.ErrNil {
					t.Errorf("%d: Skip(%d) = %v, %d", i, n, l, e)
				}
			}
			if l := w.Tick(); len(l) != 0 {
				t.Errorf("%d: Tick = %v", i, l)
			}
			if l := w.All(); len(l) != 0 || w.Now() != 0 {
				t.Errorf("%d: at %d All = %v", i, w.Now(), l)
			}
		}
	}
}

// P12.2: keys from 1 to 100 bytes of any kind.
func TestSetKeys(t *testing.T) {
	for _, key := range []string{"a", "\x00", "\xff", " ", "l/0.1/2@3", "é", "kk", strings.Repeat("k", 99), strings.Repeat("k", 100), strings.Repeat("\xff", 100), strings.Repeat("é", 50)} {
		w := made(t, 0)
		set(t, w, api.Timer{Key: key, At: 2})
		same(t, w, 0, []api.Timer{{Key: key, At: 2}})
		if l := w.Tick(); len(l) != 0 {
			t.Errorf("%q: %v at 1", key, l)
		}
		if l := w.Tick(); !slices.Equal(l, []api.Timer{{Key: key, At: 2}}) {
			t.Errorf("%q: %v at 2", key, l)
		}
	}
	for _, key := range []string{"", strings.Repeat("k", 101), strings.Repeat("k", 102), strings.Repeat("é", 51), strings.Repeat("k", 1000000)} {
		w := made(t, 0)
		set(t, w, timers("a 9")...)
		if e := w.Set(key, 2); e != api.ErrArg {
			t.Errorf("Set of a key of %d bytes = %d", len(key), e)
		}
		same(t, w, 0, timers("a 9"))
	}
}

// P12.2: a time above the wheel's own, up to 1000000000.
func TestSetTimes(t *testing.T) {
	for _, c := range []struct {
		now, at int
		want    api.Errno
	}{
		{0, least, api.ErrTime}, {0, -1, api.ErrTime}, {0, 0, api.ErrTime}, {0, 1, api.OK}, {0, 2, api.OK},
		{0, 999999999, api.OK}, {0, 1000000000, api.OK}, {0, 1000000001, api.ErrArg}, {0, 1 << 30, api.ErrArg}, {0, 1 << 32, api.ErrArg}, {0, 1<<32 + 5, api.ErrArg}, {0, most, api.ErrArg},
		{7, least, api.ErrTime}, {7, -7, api.ErrTime}, {7, 0, api.ErrTime}, {7, 6, api.ErrTime}, {7, 7, api.ErrTime}, {7, 8, api.OK}, {7, 9, api.OK},
		{31, 31, api.ErrTime}, {31, 32, api.OK}, {32, 31, api.ErrTime}, {32, 32, api.ErrTime}, {32, 33, api.OK}, {1023, 1024, api.OK}, {1024, 1023, api.ErrTime},
		{999999999, 999999998, api.ErrTime}, {999999999, 999999999, api.ErrTime}, {999999999, 1000000000, api.OK}, {999999999, 1000000001, api.ErrArg}, {999999999, most, api.ErrArg},
		{1000000000, least, api.ErrTime}, {1000000000, 0, api.ErrTime}, {1000000000, 999999999, api.ErrTime}, {1000000000, 1000000000, api.ErrTime}, {1000000000, 1000000001, api.ErrArg}, {1000000000, most, api.ErrArg},
	} {
		w := made(t, c.now)
		if e := w.Set("a", c.at); e != c.want {
			t.Errorf("at %d Set(a, %d) = %d; want %d", c.now, c.at, e, c.want)
		}
		var want []api.Timer
		if c.want == api.OK {
			want = []api.Timer{{Key: "a", At: c.at}}
		}
		same(t, w, c.now, want)
	}
}

// P12.2: of several errors the one that is named first, and nothing is changed.
func TestSetFirstError(t *testing.T) {
	long := strings.Repeat("k", 101)
	w := filled(t, 100, 200)
	before := w.All()
	for _, c := range []struct {
		key  string
		at   int
		want api.Errno
	}{
		{"", 100, api.ErrArg}, {"", 99, api.ErrArg}, {"", least, api.ErrArg}, {"", 200, api.ErrArg}, {"", last + 1, api.ErrArg}, {"", most, api.ErrArg},
		{long, 100, api.ErrArg}, {long, least, api.ErrArg}, {long, 200, api.ErrArg}, {long, most, api.ErrArg},
		{"k0", last + 1, api.ErrArg}, {"k0", most, api.ErrArg}, {"new", last + 1, api.ErrArg}, {"new", most, api.ErrArg},
		{"k0", 100, api.ErrTime}, {"k0", 99, api.ErrTime}, {"k0", least, api.ErrTime}, {"k199", 100, api.ErrTime},
		{"new", 100, api.ErrTime}, {"new", 99, api.ErrTime}, {"new", -1, api.ErrTime}, {"new", least, api.ErrTime},
		{"new", 101, api.ErrBig}, {"new", 200, api.ErrBig}, {"new", last, api.ErrBig}, {"k", 101, api.ErrBig}, {"k00", 101, api.ErrBig}, {"k200", 301, api.ErrBig},
	} {
		if e := w.Set(c.key, c.at); e != c.want {
			t.Errorf("Set(%q, %d) = %d; want %d", c.key, c.at, e, c.want)
		}
		same(t, w, 100, before)
	}
	if l, e := w.Skip(300); !slices.Equal(l, before) || e != api.OK {
		t.Errorf("behind the errors there come %v, %d", l, e)
	}
}

// P12.2: 200 timers, and no more, but the keys that are there may be set anew.
func TestSetMany(t *testing.T) {
	w := filled(t, 0, 199)
	set(t, w, timers("k0 900 new 300 k5 7")...)
	if e := w.Set("more", 5); e != api.ErrBig {
		t.Errorf("a timer more than 200: %d", e)
	}
	set(t, w, timers("k0 901 new 2 k198 901")...)
	if n := len(w.All()); n != 200 {
		t.Errorf("%d timers", n)
	}
	if !w.Drop("k7") {
		t.Error("k7 is not there")
	}
	set(t, w, timers("more 5")...)
	if e := w.Set("k7", 5); e != api.ErrBig {
		t.Errorf("k7 anew: %d", e)
	}
	if l := w.Tick(); len(l) != 0 {
		t.Errorf("%v at 1", l)
	}
	if l := w.Tick(); !slices.Equal(l, timers("k1 2 new 2")) {
		t.Errorf("%v at 2", l)
	}
	set(t, w, timers("k7 3 new 4")...)
	if e := w.Set("k1", 4); e != api.ErrBig {
		t.Errorf("k1 anew: %d", e)
	}
	if l := w.Tick(); !slices.Equal(l, timers("k2 3 k7 3")) {
		t.Errorf("%v at 3", l)
	}
}

// P12.2: a key set anew comes at its new time, and no longer at the one before, be it earlier, later or the same, near or far.
func TestSetAnew(t *testing.T) {
	spans := []int{1, 2, 30, 31, 32, 33, 63, 64, 65, 1022, 1023, 1024, 1025, 2000, 32767, 32768, 32769, 99999, 100000}
	for _, now := range []int{0, 1, 31, 32, 1000, 1023, 1024, 32767, 1<<20 - 1, 1<<25 - 1} {
		for _, first := range spans {
			for _, second := range spans {
				w := made(t, now)
				set(t, w, api.Timer{Key: "a", At: now + first}, api.Timer{Key: "b", At: now + first}, api.Timer{Key: "a", At: now + second})
				p := newPlain(now)
				p.set("a", now+second)
				p.set("b", now+first)
				same(t, w, now, p.all())
				if l, e := w.Skip(100000); !slices.Equal(l, p.skip(100000)) || e != api.OK {
					t.Errorf("at %d, behind %d and %d: %v, %d", now, first, second, l, e)
				}
				same(t, w, now+100000, nil)
			}
		}
	}
}

// P12.3: keys that are there, that are not, that were dropped, that have come.
func TestDropAndAt(t *testing.T) {
	w := made(t, 10)
	set(t, w, timers("a 12 b 12 c 50 d 5000 e 1000000000")...)
	for _, key := range []string{"", "f", "A", "aa", "a ", strings.Repeat("a", 100), strings.Repeat("a", 101)} {
		if at, ok := w.At(key); at != 0 || ok || w.Drop(key) {
			t.Errorf("%q is there, at %d", key, at)
		}
	}
	same(t, w, 10, timers("a 12 b 12 c 50 d 5000 e 1000000000"))
	for i, key := range []string{"c", "a", "e", "d"} {
		if _, ok := w.At(key); !ok || !w.Drop(key) {
			t.Errorf("%q is not there", key)
		}
		if at, ok := w.At(key); at != 0 || ok || w.Drop(key) {
			t.Errorf("%q was dropped, and is there, at %d", key, at)
		}
		same(t, w, 10, timers([]string{"a 12 b 12 d 5000 e 1000000000", "b 12 d 5000 e 1000000000", "b 12 d 5000", "b 12"}[i]))
	}
	w.Tick()
	if at, ok := w.At("b"); at != 12 || !ok {
		t.Errorf("ahead of its time b is at %d, %v", at, ok)
	}
	if l := w.Tick(); !slices.Equal(l, timers("b 12")) {
		t.Errorf("%v at 12", l)
	}
	if at, ok := w.At("b"); at != 0 || ok || w.Drop("b") {
		t.Errorf("b has come, and is there, at %d", at)
	}
	set(t, w, timers("b 13 a 14")...)
	if at, ok := w.At("b"); at != 13 || !ok {
		t.Errorf("b is set again, and is at %d, %v", at, ok)
	}
	if l, e := w.Skip(100000); !slices.Equal(l, timers("b 13 a 14")) || e != api.OK {
		t.Errorf("%v, %d", l, e)
	}
}

// P12.3: each timer of a full wheel can be dropped, whichever goes first, and comes no more.
func TestDropEach(t *testing.T) {
	r := rand.New(rand.NewSource(123))
	for range 20 {
		w, p := made(t, 1000), newPlain(1000)
		for i := range 200 {
			key, at := "k"+strconv.Itoa(i), 1001+r.Intn(1<<r.Intn(17))
			set(t, w, api.Timer{Key: key, At: at})
			p.set(key, at)
		}
		for _, i := range r.Perm(200)[:150] {
			key := "k" + strconv.Itoa(i)
			if !w.Drop(key) || w.Drop(key) {
				t.Errorf("%s is dropped never or twice", key)
			}
			p.drop(key)
		}
		same(t, w, 1000, p.all())
		if l, e := w.Skip(100000); !slices.Equal(l, p.skip(100000)) || e != api.OK {
			t.Errorf("%v, %d", l, e)
		}
	}
}

// P12.3, P12.4: timers of one time in the order of their keys as texts, in whatever order they were set.
func TestOrder(t *testing.T) {
	keys := []string{"\x00", "\x00\x00", " ", "1", "10", "2", "9", "A", "Z", "a", "a\x00", "aa", "ab", "b", "k", strings.Repeat("k", 99), strings.Repeat("k", 100), "z", "é", "\xff", "\xff\xff"}
	if !slices.IsSorted(keys) {
		t.Fatal("the keys are not sorted")
	}
	r := rand.New(rand.NewSource(124))
	for _, span := range []int{1, 31, 32, 33, 1024, 1025, 32768, 99999, 100000} {
		for _, now := range []int{0, 17, 1023, 500000000} {
			w := made(t, now)
			for _, i := range r.Perm(len(keys)) {
				set(t, w, api.Timer{Key: keys[i], At: now + span})
			}
			set(t, w, api.Timer{Key: "m", At: now + span + 1}, api.Timer{Key: "y", At: now + span + 2}, api.Timer{Key: "c", At: now + span + 2})
			var want []api.Timer
			for _, key := range keys {
				want = append(want, api.Timer{Key: key, At: now + span})
			}
			same(t, w, now, append(slices.Clone(want), api.Timer{Key: "m", At: now + span + 1}, api.Timer{Key: "c", At: now + span + 2}, api.Timer{Key: "y", At: now + span + 2}))
			if l, e := w.Skip(span - 1); len(l) != 0 || e != api.OK {
				t.Errorf("at %d, ahead of %d: %v, %d", now, span, l, e)
			}
			if l := w.Tick(); !slices.Equal(l, want) {
				t.Errorf("at %d, by %d: %v", now, span, l)
			}
			if l, e := w.Skip(5); len(l) != 3 || l[0].Key != "m" || l[1].Key != "c" || l[2].Key != "y" || e != api.OK {
				t.Errorf("at %d, behind %d: %v, %d", now, span, l, e)
			}
		}
	}
}

// P12.4: the last Tick that there is, and those behind it.
func TestTickAtTheLastTime(t *testing.T) {
	w := made(t, 999999998)
	set(t, w, timers("a 1000000000 b 999999999")...)
	if l := w.Tick(); !slices.Equal(l, timers("b 999999999")) {
		t.Errorf("%v at 999999999", l)
	}
	same(t, w, 999999999, timers("a 1000000000"))
	if l := w.Tick(); !slices.Equal(l, timers("a 1000000000")) {
		t.Errorf("%v at 1000000000", l)
	}
	for range 3 {
		same(t, w, 1000000000, nil)
		if l := w.Tick(); len(l) != 0 {
			t.Errorf("%v behind all times", l)
		}
		for _, n := range []int{0, 1, 2, 100000} {
			if l, e := w.Skip(n); len(l) != 0 || e != api.OK {
				t.Errorf("Skip(%d) behind all times = %v, %d", n, l, e)
			}
		}
	}
}

// P12.4: Skip of -1, 0, 1, 100000, 100001, and of the numbers about them.
func TestSkipEdges(t *testing.T) {
	all := "a 8 b 9 c 9 d 100006 e 100007 f 100008"
	for _, c := range []struct {
		n    int
		told int // how many of all
	}{{0, 0}, {1, 1}, {2, 3}, {3, 3}, {99998, 3}, {99999, 4}, {100000, 5}} {
		w := made(t, 7)
		set(t, w, timers(all)...)
		if l, e := w.Skip(c.n); !slices.Equal(l, timers(all)[:c.told]) || e != api.OK {
			t.Errorf("Skip(%d) = %v, %d", c.n, l, e)
		}
		same(t, w, 7+c.n, timers(all)[c.told:])
	}
	w := made(t, 7)
	set(t, w, timers(all)...)
	for _, n := range []int{-1, -2, -100000, math.MinInt32, least, least + 1, 100001, 100002, 1000000, last, last + 1, 1 << 32, 1<<32 + 1, most - 7, most - 1, most} {
		if l, e := w.Skip(n); len(l) != 0 || e != api.ErrArg {
			t.Errorf("Skip(%d) = %v, %d", n, l, e)
		}
		same(t, w, 7, timers(all))
	}
}

// P12.4: ErrArg of a wrong number at the last time too.
func TestSkipWrongAtTheLastTime(t *testing.T) {
	w := made(t, last)
	for _, n := range []int{-1, least, 100001, most} {
		if l, e := w.Skip(n); len(l) != 0 || e != api.ErrArg {
			t.Errorf("Skip(%d) = %v, %d", n, l, e)
		}
	}
}

// P12.4: a Skip across 1000000000 ends there, and tells what is due up to it.
func TestSkipAcrossTheLastTime(t *testing.T) {
	all := "a 999999990 c 999999999 b 1000000000 d 1000000000"
	for _, n := range []int{10, 11, 12, 13, 50, 99999, 100000} {
		w := made(t, 999999989)
		set(t, w, timers(all)...)
		told := timers(all)
		if n < 11 {
			told = told[:2]
		}
		if l, e := w.Skip(n); !slices.Equal(l, told) || e != api.OK {
			t.Errorf("Skip(%d) = %v, %d", n, l, e)
		}
		same(t, w, min(999999989+n, last), timers(all)[len(told):])
	}
}

// starts has times about those at which a wheel turns, to whatever base it has its digits.
func starts() []int {
	l := []int{0, 1, 2, 3, 5, 7, 9, 10, 60, 99, 100, 999, 1000, 1001, 12345, 499999999, 500000000, 123456789, 987654321, 999900000, 999999000, 999999990}
	for shift := 2; shift < 30; shift++ {
		l = append(l, 1<<shift-2, 1<<shift-1, 1<<shift, 1<<shift+1)
		if n := 3<<shift - 1; n < last {
			l = append(l, n, n+1)
		}
	}
	return l
}

// near has the timers of a wheel at a time: about each power of two behind it, and about each time that such a power divides.
func near(now int) []api.Timer {
	var l []api.Timer
	for shift := range 17 {
		round := (now>>shift + 1) << shift
		for _, at := range []int{now + 1<<shift - 1, now + 1<<shift, now + 1<<shift + 1, round - 1, round, round + 1} {
			if at > now && at <= min(now+100000, last) {
				l = append(l, api.Timer{Key: fmt.Sprintf("s%02d.%d", shift, len(l)), At: at})
			}
		}
	}
	return l
}

// P12.5: wherever it starts, each timer comes just at its time, and nothing else comes, whether by Ticks or by Skips.
func TestNearTimers(t *testing.T) {
	for _, now := range starts() {
		v, w, p := made(t, now), made(t, now), newPlain(now)
		for _, x := range near(now) {
			set(t, v, x)
			set(t, w, x)
			p.set(x.Key, x.At)
		}
		same(t, v, now, p.all())
		for range 3000 {
			want := p.skip(1)
			if l := v.Tick(); !slices.Equal(l, want) {
				t.Fatalf("from %d on, Tick at %d = %v; want %v", now, v.Now(), l, want)
			}
			if l, e := w.Skip(1); !slices.Equal(l, want) || e != api.OK {
				t.Fatalf("from %d on, Skip(1) at %d = %v, %d; want %v", now, w.Now(), l, e, want)
			}
		}
		same(t, v, p.now, p.all())
		same(t, w, p.now, p.all())
		for p.now < min(now+100000, last) {
			want := p.skip(997)
			if l, e := w.Skip(997); !slices.Equal(l, want) || e != api.OK {
				t.Fatalf("from %d on, Skip at %d = %v, %d; want %v", now, w.Now(), l, e, want)
			}
			same(t, w, p.now, p.all())
		}
		if len(p.due) != 0 {
			t.Errorf("from %d on, %v are left", now, p.all())
		}
	}
}

// P12.5: one timer alone, at each of the first times and by each of the first spans.
func TestEachSpan(t *testing.T) {
	for now := range 200 {
		for span := 1; span <= 1200; span += 1 + span/40 {
			w := made(t, now)
			set(t, w, api.Timer{Key: "a", At: now + span})
			for w.Now() < now+span-1 {
				if l := w.Tick(); len(l) != 0 {
					t.Fatalf("from %d on, %v at %d", now, l, w.Now())
				}
			}
			if at, ok := w.At("a"); at != now+span || !ok {
				t.Fatalf("from %d on, the timer of %d is gone", now, now+span)
			}
			if l := w.Tick(); len(l) != 1 || l[0].At != now+span {
				t.Fatalf("from %d on, %v at %d", now, l, w.Now())
			}
		}
	}
}

// P12.5: timers from one above the time to 1000000000, all the way through all times.
func TestFarTimers(t *testing.T) {
	r := rand.New(rand.NewSource(125))
	w, p := made(t, 0), newPlain(0)
	put := func(at int) {
		key := "at" + strconv.Itoa(at)
		set(t, w, api.Timer{Key: key, At: at})
		p.set(key, at)
	}
	put(last)
	put(last - 1)
	for shift := range 30 {
		put(1 << shift)
	}
	for range 120 {
		put(1 + r.Intn(last))
	}
	for p.now < last {
		n := []int{100000, 100000, 100000, 99999, 65536, 32768, 1 + r.Intn(100000)}[r.Intn(7)]
		want := p.skip(n)
		if l, e := w.Skip(n); !slices.Equal(l, want) || e != api.OK {
			t.Fatalf("at %d Skip(%d) = %v, %d; want %v", p.now, n, l, e, want)
		}
		if w.Now() != p.now {
			t.Fatalf("the time is %d; want %d", w.Now(), p.now)
		}
	}
	same(t, w, last, nil)
}

// P12.5: a far timer that was set early comes with one that was set just ahead, in order, and neither comes but once.
func TestFarTimersMeetNearOnes(t *testing.T) {
	for _, at := range []int{32, 1024, 32768, 40000, 65536, 98304, 99999} {
		w := made(t, 0)
		set(t, w, api.Timer{Key: "m", At: at})
		if l, e := w.Skip(at - 3); len(l) != 0 || e != api.OK {
			t.Errorf("%v, %d", l, e)
		}
		set(t, w, api.Timer{Key: "z", At: at})
		w.Tick()
		set(t, w, api.Timer{Key: "a", At: at}, api.Timer{Key: "n", At: at + 1})
		w.Tick()
		if l := w.Tick(); len(l) != 3 || l[0].Key+l[1].Key+l[2].Key != "amz" {
			t.Errorf("%v at %d", l, at)
		}
		if l := w.Tick(); len(l) != 1 || l[0].Key != "n" {
			t.Errorf("%v behind %d", l, at)
		}
		same(t, w, at+1, nil)
	}
}

// P12.6: Skip of n and then of m is Skip of both together, and what they tell is what All told.
func TestSkipsTogether(t *testing.T) {
	r := rand.New(rand.NewSource(126))
	for _, now := range starts() {
		whole, parts, ticks := made(t, now), made(t, now), made(t, now)
		for range 60 {
			x := api.Timer{Key: "k" + strconv.Itoa(r.Intn(50)), At: min(now+1+r.Intn(1<<(1+r.Intn(17))), last)}
			set(t, whole, x)
			set(t, parts, x)
			set(t, ticks, x)
		}
		total := []int{0, 1, 33, 1025, 4000, 100000}[r.Intn(6)]
		all := whole.All()
		n := 0
		for n < len(all) && all[n].At <= now+total {
			n++
		}
		if l, e := whole.Skip(total); !slices.Equal(l, all[:n]) || e != api.OK {
			t.Errorf("at %d Skip(%d) = %v, %d; All told %v", now, total, l, e, all)
		}
		var told []api.Timer
		for left := total; left > 0; {
			n := r.Intn(left + 1)
			l, e := parts.Skip(n)
			if e != api.OK {
				t.Fatalf("Skip(%d) = %d", n, e)
			}
			told = append(told, l...)
			left -= n
		}
		if !slices.Equal(told, all[:n]) {
			t.Errorf("at %d skips of %d together told %v; All told %v", now, total, told, all)
		}
		told = nil
		for range total {
			told = append(told, ticks.Tick()...)
		}
		if !slices.Equal(told, all[:n]) {
			t.Errorf("at %d %d Ticks told %v; All told %v", now, total, told, all)
		}
		for _, w := range []*Wheel{whole, parts, ticks} {
			same(t, w, min(now+total, last), all[n:])
		}
	}
}

// P12.2 to P12.6: any calls in any order, each held against the chapter's own words.
func TestAnyCalls(t *testing.T) {
	r := rand.New(rand.NewSource(127))
	from := starts()
	for round := range 300 {
		now := from[r.Intn(len(from))]
		w, p := made(t, now), newPlain(now)
		keys := 1 + r.Intn(260) // with more than 200 the wheel gets full
		reach := 1 + r.Intn(20)
		for step := range 1500 {
			key := "k" + strconv.Itoa(r.Intn(keys))
			switch what := r.Intn(20); {
			case what < 11:
				at := p.now + r.Intn(1<<r.Intn(reach)+2)
				if e, want := w.Set(key, at), p.set(key, at); e != want {
					t.Fatalf("%d.%d: at %d Set(%q, %d) = %d; want %d", round, step, p.now, key, at, e, want)
				}
			case what < 13:
				if ok, want := w.Drop(key), p.drop(key); ok != want {
					t.Fatalf("%d.%d: Drop(%q) = %v", round, step, key, ok)
				}
			case what < 18:
				if l, want := w.Tick(), p.skip(1); !slices.Equal(l, want) {
					t.Fatalf("%d.%d: Tick at %d = %v; want %v", round, step, p.now, l, want)
				}
			case what < 19:
				n := r.Intn(1<<r.Intn(17) + 1)
				l, e := w.Skip(n)
				if want := p.skip(n); !slices.Equal(l, want) || e != api.OK {
					t.Fatalf("%d.%d: Skip(%d) at %d = %v, %d; want %v", round, step, n, p.now, l, e, want)
				}
			default:
				at, ok := w.At(key)
				if want, there := p.due[key]; at != want || ok != there {
					t.Fatalf("%d.%d: At(%q) = %d, %v; want %d", round, step, key, at, ok, want)
				}
			}
			if step%50 == 0 {
				same(t, w, p.now, p.all())
			}
		}
		same(t, w, p.now, p.all())
	}
}

// spoil writes over a list that was handed out, and over its spare room.
func spoil(l []api.Timer) {
	l = l[:cap(l)]
	for i := range l {
		l[i] = api.Timer{Key: "spoiled", At: -1}
	}
}

// The rules that hold everywhere: what is handed out is new memory, and changing it changes no wheel.
func TestNewMemory(t *testing.T) {
	w := made(t, 0)
	all := timers("a 1 b 1 c 2 d 2 e 40 f 40 g 2000")
	set(t, w, all...)
	spoil(w.All())
	same(t, w, 0, all)
	first := w.Tick()
	if !slices.Equal(first, all[:2]) {
		t.Errorf("%v at 1", first)
	}
	spoil(first)
	same(t, w, 1, all[2:])
	next, _ := w.Skip(1)
	if !slices.Equal(next, all[2:4]) {
		t.Errorf("%v at 2", next)
	}
	before := w.All()
	spoil(next)
	set(t, w, timers("h 3 i 3")...)
	if !slices.Equal(before, all[4:]) {
		t.Errorf("a list that was handed out is now %v", before)
	}
	if l := w.Tick(); !slices.Equal(l, timers("h 3 i 3")) {
		t.Errorf("%v at 3", l)
	}
	if l, e := w.Skip(3000); !slices.Equal(l, all[4:]) || e != api.OK {
		t.Errorf("%v, %d", l, e)
	}
}

// The rules that hold everywhere: the text that is handed in as a key is not kept, and no answer shares another one's text.
func TestKeysAreNewMemory(t *testing.T) {
	w := made(t, 0)
	key := strings.Clone("key")
	again := strings.Clone("key")
	seen := map[*byte]string{unsafe.StringData(key): "the argument", unsafe.StringData(again): "the argument again"}
	look := func(what string, l []api.Timer) {
		t.Helper()
		if len(l) != 1 || l[0].Key != "key" {
			t.Fatalf("%s is %v", what, l)
		}
		place := unsafe.StringData(l[0].Key)
		if other, there := seen[place]; there {
			t.Errorf("%s shares its text with %s", what, other)
		}
		seen[place] = what
	}
	set(t, w, api.Timer{Key: key, At: 50})
	look("All", w.All())
	set(t, w, api.Timer{Key: again, At: 40})
	look("All behind a second Set", w.All())
	look("All once more", w.All())
	l, _ := w.Skip(39)
	if len(l) != 0 {
		t.Fatal(l)
	}
	look("All behind a Skip", w.All())
	look("Tick", w.Tick())
	set(t, w, api.Timer{Key: key, At: 41})
	l, _ = w.Skip(1)
	look("Skip", l)
}

// The rules that hold everywhere: the same calls get the same answers, whatever other wheels did, in whatever order keys come.
func TestSameAnswersAgain(t *testing.T) {
	run := func(seed int64) string {
		r := rand.New(rand.NewSource(7))
		order := rand.New(rand.NewSource(seed))
		w := made(t, 990)
		var b strings.Builder
		for range 40 {
			var l []api.Timer
			for i := range 30 {
				l = append(l, api.Timer{Key: strconv.Itoa(i), At: w.Now() + 1 + r.Intn(60)})
			}
			order.Shuffle(len(l), func(i, j int) { l[i], l[j] = l[j], l[i] })
			set(t, w, l...)
			told, e := w.Skip(r.Intn(50))
			fmt.Fprintln(&b, w.Now(), w.All(), told, int(e))
		}
		return b.String()
	}
	first := run(1)
	for seed := int64(2); seed < 12; seed++ {
		if run(seed) != first {
			t.Fatalf("other answers, when the keys come in order %d", seed)
		}
	}
}
