package ident

import (
	"math"
	"math/rand"
	"slices"
	"strconv"
	"strings"
	"testing"
	"unsafe"

	"entente/api"
)

// made is an id of a root, a number, and hops' steps and organisations in turn.
func made(root, n int, hops ...int) api.Id {
	id := api.Id{Root: root, N: n}
	for i := 0; i < len(hops); i += 2 {
		id.Hops = append(id.Hops, api.Hop{Step: hops[i], Org: hops[i+1]})
	}
	return id
}

// same tells whether two ids have the same fields; a list without a hop may be nil or empty.
func same(a, b api.Id) bool {
	if a.Root != b.Root || a.N != b.N || len(a.Hops) != len(b.Hops) {
		return false
	}
	for i := range a.Hops {
		if a.Hops[i].Step != b.Hops[i].Step || a.Hops[i].Org != b.Hops[i].Org {
			return false
		}
	}
	return true
}

// mayBe is the chapter's own words, with the organisations counted.
func mayBe(id api.Id) bool {
	count := map[int]int{id.Root: 1}
	for _, hop := range id.Hops {
		count[hop.Org]++
		if hop.Step < 0 || hop.Step > 7 {
			return false
		}
	}
	for org, times := range count {
		if org < 0 || org > 15 || times > 1 {
			return false
		}
	}
	return id.N >= 1 && id.N <= 999999 && len(id.Hops) <= 4
}

// good has ids that may be, at the edges of each of their numbers.
func good() []api.Id {
	return []api.Id{
		made(0, 1), made(15, 1), made(0, 999999), made(15, 999999), made(9, 10), made(10, 9), made(1, 100000),
		{Root: 3, N: 4, Hops: []api.Hop{}},
		made(0, 7, 2, 3), made(0, 7, 2, 3, 0, 5), made(0, 7, 0, 15), made(15, 7, 7, 0), made(15, 7, 0, 14, 0, 13, 0, 0),
		made(1, 1, 0, 2, 1, 3, 2, 4), made(1, 1, 0, 2, 1, 3, 2, 4, 7, 5),
		made(15, 999999, 7, 14, 7, 13, 7, 12, 7, 11), made(4, 1, 0, 3, 0, 2, 0, 1, 0, 0),
	}
}

// bad has ids that may not be, each for one reason.
func bad() []api.Id {
	l := []api.Id{
		{}, made(0, 0), made(0, 1000000), made(0, -1), made(-1, 1), made(16, 1),
		made(0, 1, -1, 1), made(0, 1, 8, 1), made(0, 1, 0, -1), made(0, 1, 0, 16), made(0, 1, 0, 0),
		made(0, 1, 0, 1, 0, 1), made(0, 1, 0, 1, 0, 0), made(0, 1, 0, 1, 8, 2), made(0, 1, 0, 1, -1, 2),
		made(0, 1, 0, 1, 0, 16), made(0, 1, 0, 1, 0, -1), made(16, 1, 0, 1), made(0, 0, 0, 1), made(0, 1000000, 0, 1),
		made(0, 1, 0, 2, 0, 3, 0, 4, 0, 2), made(0, 1, 0, 2, 0, 3, 0, 4, 0, 0), made(0, 1, 0, 2, 0, 3, 0, 4, 0, 4),
		made(0, 1, 0, 2, 0, 3, 0, 4, 8, 5), made(0, 1, 0, 2, 0, 3, 0, 4, 0, 16),
		made(0, 1, 0, 2, 0, 3, 0, 4, 0, 5, 0, 6), made(0, 1, 0, 2, 0, 3, 0, 4, 0, 5, 0, 5),
		{Root: 0, N: 1, Hops: make([]api.Hop, 1000)},
	}
	for _, n := range []int{math.MinInt, math.MaxInt, 1 << 32, -1 << 32} {
		l = append(l, made(n, 1), made(0, n), made(0, 1, n, 1), made(0, 1, 1, n), made(0, 1, 0, 2, 1, n))
	}
	return l
}

// mixed has ids of small numbers, below and above the edges too, the same at each call.
func mixed(count int) []api.Id {
	r := rand.New(rand.NewSource(3))
	numbers := []int{1, 2, 3, 999999}
	var l []api.Id
	for range count {
		id := made(r.Intn(18)-1, numbers[r.Intn(len(numbers))])
		for range r.Intn(6) {
			id.Hops = append(id.Hops, api.Hop{Step: r.Intn(8), Org: r.Intn(16)})
		}
		if r.Intn(10) == 0 {
			id.N = 1000000 * r.Intn(2)
		}
		if len(id.Hops) > 0 && r.Intn(10) == 0 {
			id.Hops[r.Intn(len(id.Hops))].Step = 9*r.Intn(2) - 1
		}
		l = append(l, id)
	}
	return l
}

func all() []api.Id { return slices.Concat(good(), bad(), mixed(3000)) }

// shares tells whether two lists have memory in common, their spare room among it.
func shares(a, b []api.Hop) bool {
	return cap(a) > 0 && cap(b) > 0 && unsafe.SliceData(a[:cap(a)]) == unsafe.SliceData(b[:cap(b)])
}

func TestCheckAtTheEdges(t *testing.T) { // P3.1
	for _, id := range good() {
		if e := Check(id); e != api.OK {
			t.Errorf("Check(%v): error %d", id, int(e))
		}
	}
	for _, id := range bad() {
		if e := Check(id); e != api.ErrId {
			t.Errorf("Check(%.40v): error %d", id, int(e))
		}
	}
}

func TestCheckOfEachNumber(t *testing.T) { // P3.1
	for n := -2; n <= 18; n++ {
		for _, id := range []api.Id{made(n, 1), made(n, 1, 0, 7), made(7, 1, 3, n), made(7, 1, n, 9), made(7, 1, 0, 9, n, n)} {
			want := api.ErrId
			if mayBe(id) {
				want = api.OK
			}
			if e := Check(id); e != want {
				t.Errorf("Check(%v): error %d, not %d", id, int(e), int(want))
			}
		}
	}
}

func TestCheckOrgPathOfMixedIds(t *testing.T) { // P3.1
	for _, id := range all() {
		e, org, path := Check(id), Org(id), Path(id)
		if !mayBe(id) {
			if e != api.ErrId || org != -1 || path != nil {
				t.Errorf("%.40v: error %d, Org %d, Path %v", id, int(e), org, path)
			}
			continue
		}
		want := []int{id.Root}
		for _, hop := range id.Hops {
			want = append(want, hop.Org)
		}
		if e != api.OK || org != want[len(want)-1] || !slices.Equal(path, want) {
			t.Errorf("%v: error %d, Org %d, Path %v, not %v", id, int(e), org, path, want)
		}
	}
}

func TestOrgAndPath(t *testing.T) { // P3.1
	id := made(0, 7, 2, 3, 0, 5)
	if Org(id) != 5 || !slices.Equal(Path(id), []int{0, 3, 5}) {
		t.Error(Org(id), Path(id))
	}
	root := made(9, 7)
	if Org(root) != 9 || !slices.Equal(Path(root), []int{9}) {
		t.Error(Org(root), Path(root))
	}
}

func TestParent(t *testing.T) { // P3.2
	for _, id := range all() {
		parent, step, ok := Parent(id)
		if !mayBe(id) || len(id.Hops) == 0 {
			if ok || step != 0 || parent.Root != 0 || parent.N != 0 || len(parent.Hops) != 0 {
				t.Errorf("Parent(%.40v): %v, %d, %v", id, parent, step, ok)
			}
			continue
		}
		last := len(id.Hops) - 1
		want := api.Id{Root: id.Root, N: id.N, Hops: id.Hops[:last]}
		if !ok || step != id.Hops[last].Step || !same(parent, want) {
			t.Errorf("Parent(%v): %v, %d, %v", id, parent, step, ok)
		}
	}
}

func TestChild(t *testing.T) { // P3.2
	numbers := []int{math.MinInt, -1, 0, 1, 5, 7, 8, 15, 16, math.MaxInt}
	for _, id := range slices.Concat(good(), bad(), mixed(300)) {
		for _, step := range numbers {
			for _, org := range numbers {
				want := api.Id{Root: id.Root, N: id.N, Hops: append(slices.Clone(id.Hops), api.Hop{Step: step, Org: org})}
				child, e := Child(id, step, org)
				if mayBe(id) && mayBe(want) {
					if e != api.OK || !same(child, want) {
						t.Errorf("Child(%v, %d, %d): %v, error %d", id, step, org, child, int(e))
					}
				} else if e != api.ErrId || !same(child, api.Id{}) {
					t.Errorf("Child(%.40v, %d, %d): %v, error %d", id, step, org, child, int(e))
				}
			}
		}
	}
}

func TestChildAtTheEdges(t *testing.T) { // P3.2
	three, four := made(0, 1, 0, 1, 0, 2, 0, 3), made(0, 1, 0, 1, 0, 2, 0, 3, 7, 4)
	if child, e := Child(three, 7, 4); e != api.OK || !same(child, four) {
		t.Error(child, int(e))
	}
	if child, e := Child(four, 0, 5); e != api.ErrId || !same(child, api.Id{}) {
		t.Error(child, int(e))
	}
	if child, e := Child(made(0, 7, 2, 3, 0, 5), 0, 3); e != api.ErrId || !same(child, api.Id{}) {
		t.Error(child, int(e))
	}
}

// numbersOf writes an id as a row of numbers by which ids stand in their order: a hop that is not there is ahead of all.
func numbersOf(id api.Id, hops int) []int {
	row := []int{id.Root, id.N}
	for i := range hops {
		if i < len(id.Hops) {
			row = append(row, 1, id.Hops[i].Step, id.Hops[i].Org)
		} else {
			row = append(row, 0, 0, 0)
		}
	}
	return row
}

func wantCmp(a, b api.Id) int {
	hops := max(len(a.Hops), len(b.Hops))
	x, y := numbersOf(a, hops), numbersOf(b, hops)
	for i := range x {
		if x[i] < y[i] {
			return -1
		}
		if x[i] > y[i] {
			return 1
		}
	}
	return 0
}

func TestCmpOfRisingIds(t *testing.T) { // P3.3
	rising := []api.Id{
		made(math.MinInt, math.MaxInt, 9, 9), made(-1, 5), made(0, math.MinInt), made(0, 0), made(0, 1),
		made(0, 1, math.MinInt, 3), made(0, 1, -1, 15), made(0, 1, 0, math.MinInt), made(0, 1, 0, 0), made(0, 1, 0, 1), made(0, 1, 0, 1, 0, 0),
		made(0, 1, 0, 1, 0, 1), made(0, 1, 0, 1, 1, 0), made(0, 1, 0, 2), made(0, 1, 0, 10), made(0, 1, 1, 0), made(0, 1, 1, 0, 5, 5),
		made(0, 1, 1, 9), made(0, 1, 10, 0), made(0, 1, math.MaxInt, math.MinInt), made(0, 2), made(0, 2, 0, 1), made(0, 10),
		made(0, math.MaxInt), made(1, 1), made(1, 1, 0, 2, 0, 3, 0, 4, 0, 5, 0, 6), made(1, 1, 0, 2, 0, 3, 0, 4, 0, 5, 0, 7), made(2, 0),
		made(10, 0), made(math.MaxInt, math.MinInt),
	}
	for i, a := range rising {
		for k, b := range rising {
			want := 0
			if i < k {
				want = -1
			} else if i > k {
				want = 1
			}
			if got := Cmp(a, b); got != want {
				t.Errorf("Cmp(%v, %v): %d, not %d", a, b, got, want)
			}
		}
	}
}

func TestCmpOfMixedIds(t *testing.T) { // P3.3
	ids := slices.Concat(good(), bad()[:26], mixed(300))
	for _, a := range ids {
		for _, b := range ids {
			if got, want := Cmp(a, b), wantCmp(a, b); got != want {
				t.Errorf("Cmp(%v, %v): %d, not %d", a, b, got, want)
			}
		}
	}
}

// isUnder is the chapter's own words: hops are taken from the id's end, one by one.
func isUnder(id api.Id, tops []api.Id) bool {
	for left := len(id.Hops); left >= 0; left-- {
		short := api.Id{Root: id.Root, N: id.N, Hops: id.Hops[:left]}
		if slices.ContainsFunc(tops, func(top api.Id) bool { return same(top, short) }) {
			return true
		}
	}
	return false
}

func TestUnder(t *testing.T) { // P3.3
	id := made(0, 7, 2, 3, 0, 5)
	for _, top := range []api.Id{id, made(0, 7, 2, 3), made(0, 7), {Root: 0, N: 7, Hops: []api.Hop{}}} {
		if !Under(id, top) || !Under(id, made(1, 7), top) || !Under(id, top, made(1, 7)) {
			t.Errorf("%v is under %v", id, top)
		}
	}
	for _, top := range []api.Id{
		{}, made(1, 7), made(0, 8), made(0, 7, 2, 4), made(0, 7, 1, 3), made(0, 7, 0, 5), made(0, 7, 2, 3, 0, 6), made(0, 7, 2, 3, 1, 5),
		made(0, 7, 2, 3, 0, 5, 0, 1), made(0, 7, 1, 3, 0, 5), made(0, 7, 2, 4, 0, 5), made(1, 7, 2, 3), made(0, 8, 2, 3, 0, 5), made(7, 0),
		made(0, 7, 2, 3, 0, 5, 0, 5),
	} {
		if Under(id, top) || Under(id, top, top) {
			t.Errorf("%v is not under %v", id, top)
		}
	}
	if Under(id) || Under(id, []api.Id{}...) || Under(api.Id{}) {
		t.Error("no tops: nothing is under them")
	}
}

func TestUnderOfIdsThatMayNotBe(t *testing.T) { // P3.3
	for _, id := range bad() {
		if !Under(id, id) || !Under(id, made(0, 1, 5, 5, 6, 6), id) || Under(id) {
			t.Errorf("%.40v is under itself", id)
		}
		if Under(made(3, 1, 3, 3), id) != isUnder(made(3, 1, 3, 3), []api.Id{id}) {
			t.Errorf("3.1/3@3 and %.40v", id)
		}
	}
	if !Under(made(16, 0, 9, 9), made(16, 0)) || Under(made(16, 0), made(16, 0, 9, 9)) {
		t.Error("16.0/9@9 is under 16.0")
	}
}

func TestUnderOfMixedIds(t *testing.T) { // P3.3
	r := rand.New(rand.NewSource(33))
	ids := slices.Concat(good(), bad()[:26], mixed(300))
	for range 20000 {
		id := ids[r.Intn(len(ids))]
		var tops []api.Id
		for range r.Intn(4) {
			top := ids[r.Intn(len(ids))]
			if r.Intn(3) == 0 {
				top = api.Id{Root: id.Root, N: id.N, Hops: slices.Clone(id.Hops[:r.Intn(len(id.Hops)+1)])}
			}
			if len(top.Hops) > 0 && r.Intn(5) == 0 {
				top.Hops = slices.Clone(top.Hops)
				top.Hops[r.Intn(len(top.Hops))].Step++
			}
			tops = append(tops, top)
		}
		if got, want := Under(id, tops...), isUnder(id, tops); got != want {
			t.Errorf("Under(%v, %v): %v", id, tops, got)
		}
	}
}

func TestShowAndParseOfKnownIds(t *testing.T) { // P3.4
	for s, id := range map[string]api.Id{
		"0.1": made(0, 1), "15.999999": made(15, 999999), "10.10": made(10, 10), "0.7/2@3/0@5": made(0, 7, 2, 3, 0, 5),
		"15.100/7@0": made(15, 100, 7, 0), "1.1/0@2/1@3/2@4/7@5": made(1, 1, 0, 2, 1, 3, 2, 4, 7, 5),
		"11.999999/7@15/7@14/7@13/7@12": made(11, 999999, 7, 15, 7, 14, 7, 13, 7, 12),
	} {
		if got, e := Show(id); got != s || e != api.OK {
			t.Errorf("Show(%v): %q, error %d", id, got, int(e))
		}
		if got, e := Parse(s); !same(got, id) || e != api.OK {
			t.Errorf("Parse(%q): %v, error %d", s, got, int(e))
		}
	}
}

// text is what an id's Show would be, if every id had one.
func text(id api.Id) string {
	s := strconv.Itoa(id.Root) + "." + strconv.Itoa(id.N)
	for _, hop := range id.Hops {
		s += "/" + strconv.Itoa(hop.Step) + "@" + strconv.Itoa(hop.Org)
	}
	return s
}

func TestShowAndParseOfMixedIds(t *testing.T) { // P3.4, P3.5
	for _, id := range all() {
		want := text(id)
		s, e := Show(id)
		back, f := Parse(want)
		if mayBe(id) {
			if s != want || e != api.OK || !same(back, id) || f != api.OK {
				t.Errorf("%v: Show %q, error %d, Parse %v, error %d", id, s, int(e), back, int(f))
			}
		} else if s != "" || e != api.ErrId || !same(back, api.Id{}) || f != api.ErrId {
			t.Errorf("%.40v: Show %q, error %d, Parse %v, error %d", id, s, int(e), back, int(f))
		}
	}
}

func refused(t *testing.T, s string) {
	t.Helper()
	if id, e := Parse(s); e != api.ErrId || !same(id, api.Id{}) {
		t.Errorf("Parse(%.60q): %v, error %d", s, id, int(e))
	}
}

func TestParseOfWrongTexts(t *testing.T) { // P3.4
	for _, s := range []string{
		"", "0", ".", "/", "@", "0.", ".1", "0.0", "00.1", "0.01", "0.1000000", "0.0999999", "16.1", "-1.1", "+0.1", "-0.1", "0.+1", "0.-1",
		" 0.1", "0.1 ", "0 .1", "0. 1", "0.1\n", "0.1\x00", "0..1", "0.1.", ".0.1", "0,1", "0.1.1", "0.1/", "/0.1", "0.1//", "0.1//0@1",
		"0.1/0@1/", "0.1/@1", "0.1/0@", "0.1/0", "0.1/@", "0.1/0@1@", "0.1/0@1@2", "0.1/0@@1", "0.1/0.1", "0@1", "0@1/0@2", "0.1@0/1",
		"0.1/8@1", "0.1/-1@1", "0.1/+0@1", "0.1/00@1", "0.1/07@1", "0.1/7@01", "0.1/7@16", "0.1/7@-1", "0.1/7@+1", "0.1/ 7@1", "0.1/7@1 ",
		"0.1/7 @1", "0.1/7@ 1", "0.1 /7@1", "0.1/0@0", "0.1/0@1/0@1", "0.1/0@1/0@0", "0.1/10@1", "0.1/7@100", "0.1/7@15/7@15",
		"0.1/0@2/1@3/2@4/7@5/0@6", "0.1/0@2/1@3/2@4/7@5/", "0.1/0@2/1@3/2@4/7@5//", "0.1/0@2/1@3/2@4/7@5/x", "0.1/0@2/1@3/2@4/7@5x",
		"0x0.1", "0.0x1", "0.1e0", "0.1_0", "1_0.1", "0_1.1", "0.1/0b1@1", "٠.١", "0.१", "०.1", "0.1/0＠1", "0.1／0@1", "18446744073709551616.1",
		"0.18446744073709551617", "0.4294967297", "4294967296.1", "0.1/4294967296@1", "0.1/0@4294967297", "0.1/0@18446744073709551617",
		"0.9223372036854775807", "0.9223372036854775808", "0.-9223372036854775808", "0.-9223372036854775809", "\xff.1", "0.\xff", "a.1", "0.a",
	} {
		refused(t, s)
	}
	refused(t, strings.Repeat("/", 1<<20))
	refused(t, strings.Repeat("0", 1<<20)+".1")
	refused(t, "0.1"+strings.Repeat("/0@1", 1<<18))
}

func TestParseOfTextsNearlyAnIds(t *testing.T) { // P3.4
	for _, id := range good() {
		s := text(id)
		for cut := range len(s) {
			short := s[:cut]
			back, e := Parse(short)
			if e == api.OK && text(back) != short || e != api.OK && (e != api.ErrId || !same(back, api.Id{})) {
				t.Errorf("Parse(%q): %v, error %d", short, back, int(e))
			}
			if strings.ContainsAny(short[max(cut-1, 0):], "./@") || cut == 0 {
				refused(t, short)
			}
		}
		for at := range len(s) + 1 {
			for _, more := range []string{" ", "+", "-", "_", "\x00", ".", "/", "@", "x"} {
				refused(t, s[:at]+more+s[at:])
			}
			if at == 0 || strings.ContainsAny(s[at-1:at], "./@") {
				refused(t, s[:at]+"0"+s[at:])
			}
		}
	}
}

func TestHopsCutAtEachByte(t *testing.T) { // P3.4
	const s = "0.7/2@13/0@15"
	whole := []string{"0.7", "0.7/2@1", "0.7/2@13", "0.7/2@13/0@1", s}
	for cut := range len(s) + 1 {
		id, e := Parse(s[:cut])
		if slices.Contains(whole, s[:cut]) {
			if e != api.OK || text(id) != s[:cut] {
				t.Errorf("Parse(%q): %v, error %d", s[:cut], id, int(e))
			}
		} else {
			refused(t, s[:cut])
		}
	}
}

func TestParseTakesNoOtherText(t *testing.T) { // P3.4, P3.5
	r := rand.New(rand.NewSource(34))
	const letters = "0011223456789./@./@ +-"
	taken := 0
	for range 200000 {
		b := []byte("1.7/2@3/0@5"[:3+4*r.Intn(3)])
		for range r.Intn(4) {
			b[r.Intn(len(b))] = letters[r.Intn(len(letters))]
		}
		id, e := Parse(string(b))
		if e == api.ErrId {
			if !same(id, api.Id{}) {
				t.Errorf("Parse(%q): %v beside an error", b, id)
			}
			continue
		}
		taken++
		if s, f := Show(id); e != api.OK || f != api.OK || s != string(b) || !mayBe(id) {
			t.Errorf("Parse(%q): %v, error %d, whose Show is %q", b, id, int(e), s)
		}
	}
	if taken == 0 {
		t.Error("no text was taken")
	}
}

func TestParseOfShowAndBack(t *testing.T) { // P3.5
	shown := map[string]api.Id{}
	for _, id := range all() {
		s, e := Show(id)
		if e != api.OK {
			continue
		}
		if other, ok := shown[s]; ok && !same(other, id) {
			t.Errorf("%v and %v have one text: %q", id, other, s)
		}
		shown[s] = id
		back, e := Parse(s)
		again, f := Show(back)
		if e != api.OK || f != api.OK || !same(back, id) || again != s {
			t.Errorf("%v: Show %q, Parse %v, Show %q", id, s, back, again)
		}
	}
}

func TestCmpOrdersTotally(t *testing.T) { // P3.6
	ids := slices.Concat(good(), bad()[:26], mixed(60))
	for _, a := range ids {
		for _, b := range ids {
			ab := Cmp(a, b)
			if ab != -Cmp(b, a) || (ab == 0) != same(a, b) {
				t.Errorf("Cmp of %v and %v: %d, and back %d", a, b, ab, Cmp(b, a))
			}
			for _, c := range ids {
				if ab <= 0 && Cmp(b, c) <= 0 && Cmp(a, c) > 0 {
					t.Errorf("%v, %v and %v are in no order", a, b, c)
				}
			}
		}
	}
}

func TestChildrenAndParents(t *testing.T) { // P3.6, P3.7
	for _, id := range slices.Concat(good(), mixed(200)) {
		if Check(id) != api.OK {
			continue
		}
		path := Path(id)
		for step := -1; step <= 8; step++ {
			for org := -1; org <= 16; org++ {
				child, e := Child(id, step, org)
				mustFail := step < 0 || step > 7 || org < 0 || org > 15 || slices.Contains(path, org) || len(path) == 5
				if (e != api.OK) != mustFail {
					t.Errorf("Child(%v, %d, %d): error %d", id, step, org, int(e))
				}
				if e != api.OK {
					continue
				}
				parent, by, ok := Parent(child)
				if !ok || by != step || !same(parent, id) || !slices.Equal(Path(child), append(slices.Clone(path), org)) || Org(child) != org {
					t.Errorf("Child(%v, %d, %d): %v, whose parent is %v by %d", id, step, org, child, parent, by)
				}
				if Cmp(child, id) != 1 || Cmp(id, child) != -1 || !Under(child, id) || Under(id, child) {
					t.Errorf("%v is not behind %v, or not under it", child, id)
				}
			}
		}
	}
}

func TestPathsOfIdsThatMayBe(t *testing.T) { // P3.7
	longest := 0
	for _, id := range all() {
		path := Path(id)
		longest = max(longest, len(path))
		for i, org := range path {
			if org < 0 || org > 15 || slices.Contains(path[i+1:], org) {
				t.Errorf("Path(%v): %v", id, path)
			}
			if child, e := Child(id, 0, org); e != api.ErrId {
				t.Errorf("Child(%v, 0, %d): %v, error %d", id, org, child, int(e))
			}
		}
	}
	if longest != 5 {
		t.Errorf("the longest path has %d organisations", longest)
	}
}

func TestHopsAreNewMemory(t *testing.T) { // rule 4
	room := make([]api.Hop, 6, 10)
	for i := range room {
		room[i] = api.Hop{Step: i, Org: i + 1}
	}
	before := slices.Clone(room)
	for hops := range 4 {
		id := api.Id{Root: 0, N: 1, Hops: room[:hops]}
		child, e := Child(id, 7, 9)
		if e != api.OK || shares(child.Hops, room) {
			t.Errorf("Child(%v): %v shares its hops", id, child)
		}
		next, e := Child(child, 0, 10)
		other, f := Child(child, 1, 11)
		if hops < 3 && (e != api.OK || f != api.OK || shares(next.Hops, other.Hops) || next.Hops[hops+1].Org != 10) {
			t.Errorf("two children of %v share their hops: %v, %v", child, next, other)
		}
		parent, _, _ := Parent(child)
		if shares(parent.Hops, child.Hops) {
			t.Errorf("Parent(%v): %v shares its hops", child, parent)
		}
		parent.Hops = append(parent.Hops, api.Hop{Step: 3, Org: 3})
		if child.Hops[hops] != (api.Hop{Step: 7, Org: 9}) {
			t.Errorf("what is put behind the parent's hops shows in the child: %v", child)
		}
		path := Path(child)
		path[0] = 99
		Under(child, id, child)
		Cmp(child, id)
		Show(id)
		if !slices.Equal(room, before) || Path(child)[0] != 0 {
			t.Errorf("the hops handed in were changed: %v", room)
		}
	}
}
