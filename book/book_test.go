package book

import (
	"cmp"
	"fmt"
	"math/rand"
	"regexp"
	"slices"
	"strconv"
	"strings"
	"testing"
	"unsafe"

	"entente/api"
	"entente/def"
	"entente/lexic"
)

const full = int64(1000000000000000) // the greatest amount

func own(kind int, account string, amount int64, tries int) api.Step {
	return api.Step{Act: api.Act{Kind: kind, Account: account, Amount: amount}, Tries: tries}
}

func ask(org int, sub string, wait int) api.Step { return api.Step{Org: org, Sub: sub, Wait: wait} }

func saga(name string, steps ...api.Step) api.Def { return api.Def{Name: name, Steps: steps} }

// one has a definition of a name: names of unlike lengths have unlike steps.
func one(name string) api.Def { return saga(name, own(api.ActDebit, "cash", int64(len(name)+1), 1)) }

// many has definitions of names, in the order in which they come.
func many(names ...string) []api.Def {
	var l []api.Def
	for _, n := range names {
		l = append(l, one(n))
	}
	return l
}

// letters has the first n names of a row that rises.
func letters(n int) []string { return strings.Split("abcdefghijklmnopqrstuvwxyz", "")[:n] }

func equal(a, b api.Def) bool { return a.Name == b.Name && slices.Equal(a.Steps, b.Steps) }

func equalAll(a, b []api.Def) bool { return slices.EqualFunc(a, b, equal) }

func empty(d api.Def) bool { return d.Name == "" && len(d.Steps) == 0 }

// kept has definitions with lists of their own.
func kept(l []api.Def) []api.Def {
	c := slices.Clone(l)
	for i := range c {
		c[i].Steps = slices.Clone(c[i].Steps)
	}
	return c
}

// wrong has definitions of a name that may not be, each for another cause.
func wrong(name string) []api.Def {
	s := own(api.ActDebit, "cash", 5, 1)
	return []api.Def{
		saga(name), saga(name, slices.Repeat([]api.Step{s}, 9)...), saga(name, api.Step{}), saga(name, s, api.Step{}),
		saga(name, own(0, "cash", 5, 1)), saga(name, own(5, "cash", 5, 1)), saga(name, own(1, "Cash", 5, 1)), saga(name, own(1, "cash", 0, 1)), saga(name, own(1, "cash", full+1, 1)),
		saga(name, own(1, "cash", 5, 0)), saga(name, own(1, "cash", 5, 6)), saga(name, ask(16, "u", 20)), saga(name, ask(-1, "u", 20)), saga(name, ask(1, "u", 0)), saga(name, ask(1, "u", 51)), saga(name, ask(1, "U", 20)),
	}
}

// noNames has texts that are no names, some of which stand where names stand in the order of texts.
func noNames() []string {
	return []string{"", "0", "5a", "A", "aB", "a b", " a", "a ", "a\n", "a_", "a-b", "aé", "\x00", "a\x00", "\xff", "a\xff", "{", "a{", "abcdefghijklmnopq", strings.Repeat("a", 3000)}
}

// wantMay is the second reading of P10.1.
func wantMay(l []api.Def) api.Errno {
	var names []string
	for _, d := range l {
		if def.Check(d) != api.OK {
			return api.ErrArg
		}
		names = append(names, d.Name)
	}
	sorted := slices.Compact(slices.Sorted(slices.Values(names)))
	if len(l) > 8 || !slices.Equal(names, sorted) {
		return api.ErrArg
	}
	return api.OK
}

// wantFind is the second reading of P10.1.
func wantFind(l []api.Def, name string) (api.Def, bool) {
	at := slices.IndexFunc(l, func(d api.Def) bool { return d.Name == name })
	if wantMay(l) != api.OK || at < 0 {
		return api.Def{}, false
	}
	return l[at], true
}

// wantAdd is the second reading of P10.2.
func wantAdd(l []api.Def, more []api.Def) ([]api.Def, api.Errno) {
	if wantMay(l) != api.OK {
		return nil, api.ErrArg
	}
	all := map[string]api.Def{}
	for _, d := range l {
		all[d.Name] = d
	}
	for _, d := range more {
		if def.Check(d) != api.OK {
			return nil, api.ErrDef
		}
		if _, there := all[d.Name]; there {
			return nil, api.ErrTwice
		}
		if len(all) == 8 {
			return nil, api.ErrBig
		}
		all[d.Name] = d
	}
	var book []api.Def
	for _, d := range all {
		book = append(book, d)
	}
	slices.SortFunc(book, func(a, b api.Def) int { return cmp.Compare(a.Name, b.Name) })
	return book, api.OK
}

// wantShow is the second reading of P10.3.
func wantShow(l []api.Def) (string, api.Errno) {
	if wantMay(l) != api.OK {
		return "", api.ErrArg
	}
	all := ""
	for _, d := range l {
		s, _ := def.Show(d)
		all += s
	}
	if len(all) > 2000 {
		return "", api.ErrBig
	}
	return all, api.OK
}

var (
	remark    = regexp.MustCompile(`#[^\n]*`)
	aPiece    = regexp.MustCompile(`[^}]*(?:\}|$)`)
	blankText = regexp.MustCompile(`^[ \t\n]*$`)
	ahead     = regexp.MustCompile(`^[ \t\n]*`)
)

// wantRead is the second reading of P10.4: a text is cut behind each }, for a definition ends at the first one that comes, and each piece is read by itself.
func wantRead(s string) ([]api.Def, api.Fault) {
	if _, f := lexic.Scan(s); f.Err != api.OK {
		return nil, f
	}
	s = remark.ReplaceAllStringFunc(s, func(r string) string { return strings.Repeat(" ", len(r)) })
	var book []api.Def
	for from := 0; !blankText.MatchString(s[from:]); {
		piece := aPiece.FindString(s[from:])
		d, f := def.Text(piece)
		if f.Err != api.OK {
			return nil, api.Fault{Err: f.Err, At: from + f.At}
		}
		more, e := wantAdd(book, []api.Def{d})
		if e != api.OK {
			return nil, api.Fault{Err: e, At: from + len(ahead.FindString(piece))}
		}
		book, from = more, from+len(piece)
	}
	return book, api.Fault{}
}

// may holds May, and the second reading, against what both must answer, and Find, Add and Show of the same.
func may(t *testing.T, l []api.Def, want api.Errno) {
	t.Helper()
	if second := wantMay(l); second != want {
		t.Errorf("the second reading of %.300v: error %d; want %d", l, int(second), int(want))
	}
	if e := May(l); e != want {
		t.Errorf("May(%.300v): error %d; want %d", l, int(e), int(want))
	}
	adds(t, l)
	shows(t, l)
	for _, d := range l {
		finds(t, l, d.Name)
	}
}

// finds holds Find against the second reading.
func finds(t *testing.T, l []api.Def, name string) bool {
	t.Helper()
	want, there := wantFind(l, name)
	d, ok := Find(l, name)
	if ok != there || !equal(d, want) || !ok && !empty(d) {
		t.Errorf("Find(%.300v, %.30q): %v, %v; want %v, %v", l, name, d, ok, want, there)
	}
	return ok
}

// adds holds Add against the second reading.
func adds(t *testing.T, l []api.Def, more ...api.Def) api.Errno {
	t.Helper()
	want, errno := wantAdd(l, more)
	m, e := Add(l, more...)
	if e != errno || !equalAll(m, want) {
		t.Errorf("Add(%.300v, %.300v): %v, error %d; want %v, error %d", l, more, m, int(e), want, int(errno))
	}
	if e != api.OK {
		return e
	}
	if May(m) != api.OK {
		t.Errorf("Add(%.300v, %.300v): %v is no book", l, more, m)
	}
	for _, d := range slices.Concat(l, more) {
		if found, ok := Find(m, d.Name); !ok || !equal(found, d) {
			t.Errorf("Find(%v, %q): %v, %v; want %v", m, d.Name, found, ok, d)
		}
	}
	return e
}

// shows holds Show against the second reading, and what is shown against P10.5.
func shows(t *testing.T, l []api.Def) api.Errno {
	t.Helper()
	want, errno := wantShow(l)
	s, e := Show(l)
	if e != errno || s != want {
		t.Errorf("Show(%.300v): %q, error %d; want %q, error %d", l, s, int(e), want, int(errno))
	}
	if e == api.OK {
		if back, f := Read(s); f != (api.Fault{}) || !equalAll(back, l) {
			t.Errorf("Read(%q): %v, %v; want %v", s, back, f, l)
		}
	}
	return e
}

// reads holds Read, and the second reading, against what both must answer.
func reads(t *testing.T, s string, want []api.Def, fault api.Fault) {
	t.Helper()
	if l, f := wantRead(s); f != fault || !equalAll(l, want) {
		t.Errorf("the second reading of %.300q: %v, %v; want %v, %v", s, l, f, want, fault)
	}
	answers(t, s, want, fault)
}

func answers(t *testing.T, s string, want []api.Def, fault api.Fault) {
	t.Helper()
	if l, f := Read(s); f != fault || !equalAll(l, want) {
		t.Errorf("Read(%.300q) of %d bytes: %v, %v; want %v, %v", s, len(s), l, f, want, fault)
	}
}

// fails holds Read against a fault that it must tell.
func fails(t *testing.T, s string, e api.Errno, at int) {
	t.Helper()
	reads(t, s, nil, api.Fault{Err: e, At: at})
}

// follows holds Read against the second reading, and what is read against P10.5.
func follows(t *testing.T, s string) api.Errno {
	t.Helper()
	want, fault := wantRead(s)
	answers(t, s, want, fault)
	if fault.Err == api.OK {
		may(t, want, api.OK)
	}
	return fault.Err
}

// P10.1: books of 0 to 9 definitions and more.
func TestMayOfEachLength(t *testing.T) {
	may(t, nil, api.OK)
	may(t, []api.Def{}, api.OK)
	for n := range 27 {
		want := api.OK
		if n > 8 {
			want = api.ErrArg
		}
		may(t, many(letters(n)...), want)
	}
	var long []api.Def
	for n := range 500 {
		long = append(long, one(fmt.Sprintf("a%04d", n)))
	}
	may(t, long, api.ErrArg)
}

// P10.1: names that rise, that are equal, that fall, and one that begins with the other.
func TestMayByHand(t *testing.T) {
	for s, want := range map[string]api.Errno{
		"a": api.OK, "z": api.OK, "abcdefghijklmnop": api.OK, "a b": api.OK, "a z": api.OK, "y z": api.OK, "a aa": api.OK, "a a0": api.OK, "a0 a00": api.OK, "a aa b": api.OK, "a0 a1": api.OK,
		"a0 aa": api.OK, "a9 aa": api.OK, "a a0 aa ab b": api.OK, "abcdefghijklmno abcdefghijklmnop": api.OK, "a10 a2": api.OK, "a b c": api.OK, "b c d e f g h i": api.OK,
		"a a": api.ErrArg, "b a": api.ErrArg, "aa a": api.ErrArg, "a0 a": api.ErrArg, "aa a0": api.ErrArg, "a1 a0": api.ErrArg, "a2 a10": api.ErrArg, "a b b": api.ErrArg, "a a b": api.ErrArg,
		"b a c": api.ErrArg, "a c b": api.ErrArg, "a b a": api.ErrArg, "b c a": api.ErrArg, "b aa c": api.ErrArg, "abcdefghijklmnop abcdefghijklmno": api.ErrArg, "a b c d e f g g": api.ErrArg, "b a c d e f g h": api.ErrArg,
	} {
		may(t, many(strings.Fields(s)...), want)
	}
}

// P10.1: each definition of a book in turn: one that may not be, one whose name is no name, is the next one's, or falls.
func TestMayOfEachPlace(t *testing.T) {
	for n := 1; n <= 8; n++ {
		good := many(strings.Fields("b d f h j l n p")[:n]...)
		may(t, good, api.OK)
		for at := range n {
			try := func(d api.Def, want api.Errno) {
				t.Helper()
				l := kept(good)
				l[at] = d
				may(t, l, want)
			}
			for _, d := range wrong(good[at].Name) {
				try(d, api.ErrArg)
			}
			for _, name := range noNames() {
				try(one(name), api.ErrArg)
			}
			try(one(good[at].Name+"x"), api.OK)
			try(saga(good[at].Name, ask(3, "u", 7)), api.OK)
			for other := range n {
				if other != at {
					try(good[other], api.ErrArg)
					l := kept(good)
					l[at], l[other] = l[other], l[at]
					may(t, l, api.ErrArg)
				}
			}
		}
	}
}

// rows goes through every row of up to n elements.
func rows[T any](l []T, n int, each func([]T)) {
	var grow func([]T)
	grow = func(row []T) {
		each(slices.Clone(row))
		if len(row) < n {
			for _, x := range l {
				grow(append(slices.Clone(row), x))
			}
		}
	}
	grow(nil)
}

// P10.1: every short row of names.
func TestMayOfEveryShortRow(t *testing.T) {
	count := map[api.Errno]int{}
	rows([]string{"a", "a0", "aa", "ab", "b", "A", ""}, 4, func(names []string) {
		l := many(names...)
		want := wantMay(l)
		may(t, l, want)
		count[want]++
	})
	// Those that rise: one for each choice of up to four among five names.
	if count[api.OK] != 1+5+10+10+5 {
		t.Error(count)
	}
}

// P10.1: names that are there, at each place, and such as are not, between all of them.
func TestFindByHand(t *testing.T) {
	for n := range 9 {
		l := many(strings.Fields("b d dd f h j l n")[:n]...)
		for at, d := range l {
			if found, ok := Find(l, d.Name); !ok || !equal(found, l[at]) {
				t.Errorf("Find(%v, %q): %v, %v", l, d.Name, found, ok)
			}
		}
		for _, name := range append(strings.Fields("a aa b0 ba c cc d0 da dda e ee g i k m o z zz abcdefghijklmnop"), noNames()...) {
			if finds(t, l, name) {
				t.Errorf("Find(%v, %q)", l, name)
			}
		}
	}
}

// P10.1: in what is no book nothing is found.
func TestFindInNoBook(t *testing.T) {
	for _, l := range [][]api.Def{
		many("b", "a"), many("a", "a"), many("a", "b", "d", "c"), many(letters(9)...), many("a", "A"), many("", "a", "b"), {one("a"), saga("b")}, {saga("a"), one("b")}, {one("a"), {}}, {{}, one("a")},
		append(many("a", "b"), wrong("c")[3]), append(wrong("a")[4:5], many("b", "c")...),
	} {
		for _, name := range append(letters(10), "", "A") {
			if finds(t, l, name) {
				t.Errorf("Find(%v, %q)", l, name)
			}
		}
	}
}

// P10.2: one or many, ahead of all, between and behind all, in any order; and nothing.
func TestAddByHand(t *testing.T) {
	for s, want := range map[string]string{
		"":                  "",
		"b":                 "b",
		"b d f":             "b d f",
		"| a":               "a",
		"| b a":             "a b",
		"| c a b":           "a b c",
		"| b aa a":          "a aa b",
		"b d | a":           "a b d",
		"b d | aa":          "aa b d",
		"b d | c":           "b c d",
		"b d | b0":          "b b0 d",
		"b d | e":           "b d e",
		"b d | dd":          "b d dd",
		"b d | e c a":       "a b c d e",
		"b d | a c e":       "a b c d e",
		"b d | c e a":       "a b c d e",
		"| h g f e d c b a": "a b c d e f g h",
		"| a b c d e f g h": "a b c d e f g h",
		"a b c d e f g | h": "a b c d e f g h",
		"b c d e f g h | a": "a b c d e f g h",
		"a b c e f g h | d": "a b c d e f g h",
		"a b c d e f g h":   "a b c d e f g h",
		"abcdefghijklmno | abcdefghijklmnop abcdefg": "abcdefg abcdefghijklmno abcdefghijklmnop",
	} {
		have, more, _ := strings.Cut(s, "|")
		l, m := many(strings.Fields(have)...), many(strings.Fields(more)...)
		if got, e := Add(l, m...); e != api.OK || !equalAll(got, many(strings.Fields(want)...)) {
			t.Errorf("Add %q: %v, error %d", s, got, int(e))
		}
		adds(t, l, m...)
	}
}

// P10.2: the faults, read by hand. A capital stands for a definition of that name that may not be.
func TestAddOfWrongDefinitions(t *testing.T) {
	for s, want := range map[string]api.Errno{
		"| A": api.ErrDef, "b | A": api.ErrDef, "b | B": api.ErrDef, "b | b": api.ErrTwice, "| b b": api.ErrTwice, "| b a b": api.ErrTwice, "b d | d": api.ErrTwice, "b d | a b": api.ErrTwice, "b d | a a": api.ErrTwice,
		"a b c d e f g h | i": api.ErrBig, "a b c d e f g h | a": api.ErrTwice, "a b c d e f g h | h": api.ErrTwice, "a b c d e f g h | A": api.ErrDef, "a b c d e f g h | I": api.ErrDef,
		"b c d e f g h i | a": api.ErrBig, "a b c d e f g | h i": api.ErrBig, "| a b c d e f g h i": api.ErrBig, "| i h g f e d c b a": api.ErrBig, "a b c d e f g | h h": api.ErrTwice,
		"b | b A": api.ErrTwice, "b | A b": api.ErrDef, "b | a A b": api.ErrDef, "b | a b A": api.ErrTwice, "b | a a A": api.ErrTwice, "| A a a": api.ErrDef, "| a A a": api.ErrDef,
		"a b c d e f g h | i A": api.ErrBig, "a b c d e f g h | A i": api.ErrDef, "a b c d e f g h | i a": api.ErrBig, "a b c d e f g h | a i": api.ErrTwice, "a b c d e f g h | i i": api.ErrBig,
		"a b c d e f g | h i A": api.ErrBig, "a b c d e f g | h A i": api.ErrDef, "a b c d e f g | h a i": api.ErrTwice, "a b c d e f g | A": api.ErrDef, "a b c d e f g | h i a": api.ErrBig,
	} {
		have, more, _ := strings.Cut(s, "|")
		for _, bad := range append(wrong("a"), one("A"), one(""), api.Def{}) {
			var m []api.Def
			for _, name := range strings.Fields(more) {
				d := one(name)
				if low := strings.ToLower(name); low != name {
					d = bad
					if d.Name == "a" {
						d.Name = low
					}
				}
				m = append(m, d)
			}
			l := many(strings.Fields(have)...)
			if got, e := Add(l, m...); e != want || len(got) != 0 {
				t.Errorf("Add %q: %v, error %d; want %d", s, got, int(e), int(want))
			}
			adds(t, l, m...)
		}
	}
}

// P10.2: to what is no book nothing is added, whatever else is wrong.
func TestAddToNoBook(t *testing.T) {
	bad := append(wrong("a"), one("A"), api.Def{})
	lists := [][]api.Def{many("b", "a"), many("a", "a"), many("a", "c", "b"), many(letters(9)...), many("a", "A"), many("")}
	for _, d := range bad {
		lists = append(lists, []api.Def{d}, append(many("0")[:0:0], d, one("b")))
	}
	for _, l := range lists {
		for _, more := range [][]api.Def{nil, many("a"), many("z"), many("z", "z"), many(letters(10)...), bad} {
			if e := adds(t, l, more...); e != api.ErrArg {
				t.Errorf("Add(%v, %v): error %d", l, more, int(e))
			}
		}
	}
}

// P10.2: every short row added to books of each length.
func TestAddOfEveryShortRow(t *testing.T) {
	names := strings.Fields("b d f h j l n p")
	for n := range 9 {
		count := map[api.Errno]int{}
		choice := []api.Def{one("a"), one("g"), one("gg"), one("z"), saga("b", ask(1, "u", 20)), saga("p", ask(1, "u", 20)), saga("g"), one("G")}
		rows(choice, 3, func(more []api.Def) { count[adds(t, many(names[:n]...), more...)]++ })
		if count[api.ErrDef] < 100 || count[api.ErrTwice] < 30 || (count[api.ErrBig] > 0) != (n > 5) || (count[api.OK] > 1) != (n < 8) || count[api.ErrArg] > 0 {
			t.Error(n, count)
		}
	}
}

// P10.2: a definition stays as it was given, with all its steps, beside others.
func TestAddKeepsEachStep(t *testing.T) {
	r := rand.New(rand.NewSource(101))
	for range 300 {
		var l []api.Def
		for range 12 {
			d := someDef(r)
			m, e := Add(l, d)
			_, there := wantFind(l, d.Name)
			if want := map[bool]api.Errno{true: api.ErrTwice, false: api.OK}[there]; e != want && (there || len(l) < 8 || e != api.ErrBig) {
				t.Fatalf("Add(%v, %v): error %d", l, d, int(e))
			}
			adds(t, l, d)
			if e == api.OK {
				l = m
			}
		}
	}
}

// P10.3: texts read by hand, byte for byte.
func TestShowByHand(t *testing.T) {
	for want, l := range map[string][]api.Def{
		"":                                    nil,
		"saga t {\n  debit a 1 tries 1;\n}\n": {saga("t", own(1, "a", 1, 1))},
		"saga a {\n  ask 2 c wait 20;\n}\nsaga b {\n  debit x 1 tries 1;\n}\n": {saga("a", ask(2, "c", 20)), saga("b", own(1, "x", 1, 1))},
		"saga a {\n  reserve x 3 tries 5;\n  ask 15 u wait 50;\n}\nsaga aa {\n  release x 3 tries 2;\n}\nsaga b {\n  credit y 7 tries 1;\n}\n": {
			saga("a", own(3, "x", 3, 5), ask(15, "u", 50)), saga("aa", own(4, "x", 3, 2)), saga("b", own(2, "y", 7, 1)),
		},
	} {
		if s, e := Show(l); s != want || e != api.OK {
			t.Errorf("Show(%v): %q, error %d; want %q", l, s, int(e), want)
		}
		shows(t, l)
	}
	if s, e := Show([]api.Def{}); s != "" || e != api.OK {
		t.Error(s, int(e))
	}
}

// P10.3: what is no book is ErrArg, though its text would be too long too.
func TestShowOfNoBook(t *testing.T) {
	long := sized(t, 2040)
	for _, l := range [][]api.Def{
		many("b", "a"), many("a", "a"), many(letters(9)...), {{}}, {saga("a")}, {one("a"), saga("b")},
		append(kept(long), one("z")), append(kept(long[:7]), long[6]), append(kept(long[:7]), saga("z")), append(kept(long[1:]), long[0]), append(kept(long[:7]), wrong("z")[1]),
	} {
		if e := shows(t, l); e != api.ErrArg {
			t.Errorf("Show(%.300v): error %d", l, int(e))
		}
	}
}

// sized has a book of eight whose text has so many bytes.
func sized(t *testing.T, size int) []api.Def {
	t.Helper()
	var l []api.Def
	left := size
	for _, name := range letters(8) {
		d := saga(name, slices.Repeat([]api.Step{own(api.ActDebit, "x", 1, 1)}, 7)...)
		s, _ := def.Show(d)
		left -= len(s)
		l = append(l, d)
	}
	for i := range 8 * 7 {
		more := min(max(left, 0), 15)
		left -= more
		l[i/7].Steps[i%7].Act.Account += strings.Repeat("x", more)
	}
	if left != 0 {
		t.Fatal("no book of this size", size)
	}
	return l
}

// P10.3, P10.5: texts of about 2000 bytes.
func TestShowOfEachSize(t *testing.T) {
	for size := 1264; size <= 2104; size++ {
		l := sized(t, size)
		want, length := api.OK, size
		if size > 2000 {
			want, length = api.ErrBig, 0
		}
		s, e := Show(l)
		if e != want || len(s) != length {
			t.Errorf("%d bytes: %d, error %d", size, len(s), int(e))
		}
		shows(t, l)
		may(t, l, api.OK)
		finds(t, l, "d")
	}
	for _, size := range []int{1999, 2000} {
		if e := shows(t, sized(t, size)); e != api.OK {
			t.Error(size, int(e))
		}
	}
	for _, size := range []int{2001, 2002} {
		if e := shows(t, sized(t, size)); e != api.ErrBig {
			t.Error(size, int(e))
		}
	}
	const name = "abcdefghijklmno"
	var longest []api.Def
	for _, last := range letters(8) {
		longest = append(longest, saga(name+last, slices.Repeat([]api.Step{own(api.ActReserve, name+last, full, 5)}, 8)...))
	}
	may(t, longest, api.OK)
	if e := shows(t, longest); e != api.ErrBig {
		t.Error(int(e))
	}
	if e := shows(t, longest[:4]); e != api.OK {
		t.Error(int(e))
	}
	if e := shows(t, longest[:5]); e != api.ErrBig {
		t.Error(int(e))
	}
}

// P10.4: the chapter's example, no text, blanks and remarks, and texts read by hand.
func TestReadByHand(t *testing.T) {
	a, b := saga("a", ask(2, "c", 20)), saga("b", own(1, "x", 1, 1))
	for s, want := range map[string][]api.Def{
		"": nil, " ": nil, "\n\t \n": nil, "#": nil, "# saga a {": nil, "#\n#\n": nil, " # x\n\t# y": nil, strings.Repeat(" ", 2000): nil, "#" + strings.Repeat("x", 1999): nil,
		"saga b { debit x 1; } saga a { ask 2 c; }":                               {a, b},
		"saga a { ask 2 c; } saga b { debit x 1; }":                               {a, b},
		"saga b{debit x 1;}saga a{ask 2c;}":                                       {a, b},
		"saga b { debit x 1; }\n# saga c { debit x 1; }\nsaga a { ask 2 c; } # }": {a, b},
		"\n\nsaga b { debit x 1; }":                                               {b},
		"saga a { ask 2 c; }":                                                     {a},
		"saga a{ask 2c;}#":                                                        {a},
		"saga saga { ask 2 saga; } saga b { debit x 1; } saga a { ask 2 c; }":     {a, b, saga("saga", ask(2, "saga", 20))},
		"saga aa { ask 2 c; } saga a { ask 2 c; } saga a0 { ask 2 c; }":           {a, saga("a0", ask(2, "c", 20)), saga("aa", ask(2, "c", 20))},
	} {
		reads(t, s, want, api.Fault{})
		follows(t, s)
	}
}

// P10.4: faults read by hand.
func TestReadOfWrongTexts(t *testing.T) {
	const a, b = "saga a { ask 2 c; }", "saga b { debit x 1; }"
	fails(t, "x", api.ErrSyntax, 0)
	fails(t, " 5", api.ErrSyntax, 1)
	fails(t, "}", api.ErrSyntax, 0)
	fails(t, "saga", api.ErrSyntax, 4)
	fails(t, "saga a {", api.ErrSyntax, 8)
	fails(t, "saga a { debit x; }", api.ErrSyntax, 16)
	fails(t, "saga a {}", api.ErrDef, 0)
	fails(t, "\n saga a {}", api.ErrDef, 2)
	fails(t, "saga a { ask 16 u; }", api.ErrDef, 0)
	fails(t, a+" x", api.ErrSyntax, 20)
	fails(t, a+"}", api.ErrSyntax, 19)
	fails(t, a+" ;", api.ErrSyntax, 20)
	fails(t, a+" "+b+" saga", api.ErrSyntax, 46)
	fails(t, a+" saga b {}", api.ErrDef, 20)
	fails(t, a+" saga a {}", api.ErrDef, 20)
	fails(t, a+" saga a { x", api.ErrSyntax, 29)
	fails(t, a+" "+a, api.ErrTwice, 20)
	fails(t, a+a, api.ErrTwice, 19)
	fails(t, a+" # x\n "+a, api.ErrTwice, 25)
	fails(t, a+" saga a { debit x 1; }", api.ErrTwice, 20)
	fails(t, a+" "+b+" "+a, api.ErrTwice, 42)
	fails(t, a+" "+b+" "+b, api.ErrTwice, 42)
	fails(t, b+" "+a+" "+b, api.ErrTwice, 42)
	fails(t, a+" "+a+" x", api.ErrTwice, 20)
	fails(t, a+" "+a+" saga b {}", api.ErrTwice, 20)
	fails(t, a+" "+a+" "+a, api.ErrTwice, 20)
	fails(t, a+" x "+a, api.ErrSyntax, 20)
	fails(t, a+" saga b {} "+a, api.ErrDef, 20)
	fails(t, a+" "+a+" A", api.ErrToken, 40)
	fails(t, "x A", api.ErrToken, 2)
	fails(t, "saga a {} 05", api.ErrToken, 10)
	fails(t, a+" abcdefghijklmnopq", api.ErrToken, 20)
}

// text has definitions of names, each written in 20 bytes, a blank and a name of one byte counted in.
func text(names ...string) string {
	s := ""
	for _, n := range names {
		s += "saga " + n + " {debit x 1;} "
	}
	return s
}

// P10.4: eight and nine definitions, and what else may be wrong with the ninth, ahead of it and behind it.
func TestReadOfManyDefinitions(t *testing.T) {
	x := own(1, "x", 1, 1)
	const each = 20
	for n := range 27 {
		names := letters(n)
		slices.Reverse(names)
		if n > 8 {
			fails(t, text(names...), api.ErrBig, 8*each)
			fails(t, text(letters(n)...), api.ErrBig, 8*each)
			continue
		}
		var want []api.Def
		for _, name := range letters(n) {
			want = append(want, saga(name, x))
		}
		reads(t, text(names...), want, api.Fault{})
		reads(t, text(letters(n)...), want, api.Fault{})
		for at := range n {
			fails(t, text(append(letters(n), letters(n)[at])...), api.ErrTwice, n*each)
			fails(t, text(append(names, letters(n)[at])...), api.ErrTwice, n*each)
		}
	}
	eight := text(letters(8)...)
	fails(t, eight+text("i"), api.ErrBig, 8*each)
	fails(t, eight+"# x\n"+text("i"), api.ErrBig, 8*each+4)
	fails(t, eight+text("a"), api.ErrTwice, 8*each)
	fails(t, eight+text("h"), api.ErrTwice, 8*each)
	fails(t, eight+"x", api.ErrSyntax, 8*each)
	fails(t, eight+"saga i", api.ErrSyntax, 8*each+6)
	fails(t, eight+"saga i {}", api.ErrDef, 8*each)
	fails(t, eight+"saga a {}", api.ErrDef, 8*each)
	fails(t, eight+text("i", "a"), api.ErrBig, 8*each)
	fails(t, eight+text("a", "i"), api.ErrTwice, 8*each)
	fails(t, eight+text("i")+"x", api.ErrBig, 8*each)
	fails(t, eight+text("i")+"saga a {}", api.ErrBig, 8*each)
	fails(t, eight+text("i")+"A", api.ErrToken, 9*each)
	fails(t, eight+text("i")+strings.Repeat(" ", 2000), api.ErrBig, 0)
	reads(t, eight+"# i\n", mustRead(t, eight), api.Fault{})
}

func mustRead(t *testing.T, s string) []api.Def {
	t.Helper()
	l, f := Read(s)
	if f != (api.Fault{}) {
		t.Fatalf("Read(%q): %v", s, f)
	}
	return l
}

// P10.4: texts of more than MaxText bytes are ErrBig at 0, whatever stands in them.
func TestReadOfLongTexts(t *testing.T) {
	for _, s := range []string{"", text("a"), text("a", "a"), text(letters(9)...), "x", "A", "saga a {}", "#"} {
		for _, n := range []int{2001, 2002, 3000, 100000} {
			fails(t, s+strings.Repeat(" ", n-len(s)), api.ErrBig, 0)
			fails(t, strings.Repeat("\n", n-len(s))+s, api.ErrBig, 0)
		}
		for _, n := range []int{1999, 2000} {
			follows(t, s+strings.Repeat(" ", n-len(s)))
			follows(t, strings.Repeat("\n", n-len(s))+s)
		}
	}
	a := text("a")
	reads(t, a+strings.Repeat(" ", 2000-len(a)), mustRead(t, a), api.Fault{})
	reads(t, strings.Repeat(" ", 2000-len(a))+a, mustRead(t, a), api.Fault{})
	fails(t, strings.Repeat(" ", 1999)+"x", api.ErrSyntax, 1999)
	fails(t, a+strings.Repeat(" ", 1994-len(a))+"saga a", api.ErrSyntax, 2000)
}

// P10.4, P10.5: what is read out of a text without blanks may have no text, and its tokens, with blanks, too long a one.
func TestReadOfTokensSideBySide(t *testing.T) {
	s := ""
	for _, name := range letters(8) {
		s += "saga " + name + "{" + strings.Repeat("credit abcdefghijklm 1;", 8) + "}"
	}
	s += strings.Repeat("\n", 2000-len(s))
	l := mustRead(t, s)
	if len(l) != 8 || shows(t, l) != api.ErrBig {
		t.Error("this book has a text", len(l))
	}
	tight := ""
	for _, name := range letters(8) {
		tight += "saga " + name + "{" + strings.Repeat("ask 1u;", 8) + "}"
	}
	follows(t, s)
	follows(t, tight)
	// Behind a book that may be, signs alone: their text, with blanks, would be too long.
	many := tight + strings.Repeat(";", 2000-len(tight))
	if tokens, _ := lexic.Scan(many); lexic.Check(tokens) != api.ErrBig {
		t.Error("these tokens are not too long")
	}
	fails(t, many, api.ErrSyntax, len(tight))
	fails(t, tight+tight+many[:2000-2*len(tight)], api.ErrTwice, len(tight))
}

// P10.4: every short row of pieces, alone and behind books of some length.
func TestReadOfEveryShortRow(t *testing.T) {
	pieces := []string{"saga a{ask 1u;}", "saga b{ask 1u;}", "saga m{credit y 2;}\n", " saga z { ask 1 u wait 3; debit x 1 tries 2; }", "saga a {} ", "saga z{ask 16u;}", "x", "# }\n", "A", "}"}
	for n := range 9 {
		count := map[api.Errno]int{}
		rows(pieces, 4, func(row []string) {
			if n%4 != 0 && len(row) > 3 {
				return
			}
			count[follows(t, text(strings.Fields("b d f h j l n p")[:n]...)+strings.Join(row, ""))]++
		})
		if count[api.OK] < 2 || count[api.ErrDef] < 10 || count[api.ErrTwice] < 2 || count[api.ErrToken] < 10 || count[api.ErrSyntax] < 10 || (count[api.ErrBig] > 0) != (n > 5) {
			t.Error(n, count)
		}
	}
}

// someName has some name out of few, so that they come twice now and then.
func someName(r *rand.Rand) string {
	const letters = "ab0"
	b := []byte{letters[r.Intn(2)]}
	for range r.Intn(4) {
		b = append(b, letters[r.Intn(3)])
	}
	return string(b)
}

// someDef has some definition that may be.
func someDef(r *rand.Rand) api.Def {
	d := saga(someName(r))
	for range 1 + r.Intn(8) {
		if r.Intn(2) == 0 {
			d.Steps = append(d.Steps, ask(r.Intn(16), someName(r), 1+r.Intn(50)))
		} else {
			d.Steps = append(d.Steps, own(1+r.Intn(4), someName(r), 1+r.Int63n([]int64{5, full}[r.Intn(2)]), 1+r.Intn(5)))
		}
	}
	return d
}

// P10.4, P10.5: texts by chance, some cut, some with a piece put in.
func TestReadByChance(t *testing.T) {
	r := rand.New(rand.NewSource(102))
	count := map[api.Errno]int{}
	for range 2000 {
		s := ""
		for range r.Intn(10) {
			d := someDef(r)
			d.Steps = d.Steps[:1+r.Intn(min(3, len(d.Steps)))]
			one, _ := def.Show(d)
			s += []string{"", "\n", "# x {\n", "\t"}[r.Intn(4)] + one
		}
		count[follows(t, s)]++
		if at := r.Intn(len(s) + 1); r.Intn(2) == 0 {
			count[follows(t, s[:at])]++
			count[follows(t, s[:at]+[]string{"x", " ", ";", "0", "7", " saga ", " } ", "#", "A"}[r.Intn(9)]+s[at:])]++
		}
	}
	for _, e := range []api.Errno{api.OK, api.ErrTwice, api.ErrSyntax, api.ErrDef, api.ErrToken, api.ErrBig} {
		if count[e] < 5 {
			t.Error("of one kind there were too few", count)
		}
	}
}

// P10.4: bytes by chance.
func TestReadOfAnyBytes(t *testing.T) {
	r := rand.New(rand.NewSource(103))
	for range 3000 {
		b := make([]byte, r.Intn(40))
		for i := range b {
			b[i] = byte(r.Intn(256))
		}
		follows(t, string(b))
		follows(t, text("a")+string(b))
	}
}

// P10.5: books by chance are read again out of their text, where they have one.
func TestBackByChance(t *testing.T) {
	r := rand.New(rand.NewSource(104))
	count := map[api.Errno]int{}
	for range 2000 {
		var l []api.Def
		long := r.Intn(4) == 0
		for range r.Intn(12) {
			d := someDef(r)
			if long {
				d.Steps = slices.Repeat([]api.Step{own(3, "abcdefghijklmnop", full, 5)}, 8)
			}
			if m, e := Add(l, d); e == api.OK {
				l = m
			}
		}
		may(t, l, api.OK)
		e := shows(t, l)
		count[e]++
		if s, _ := Show(l); e == api.OK {
			reads(t, s, l, api.Fault{})
			again, _ := Show(mustRead(t, s))
			if again != s {
				t.Fatalf("%q, shown again: %q", s, again)
			}
		}
	}
	if count[api.OK] < 100 || count[api.ErrBig] < 5 || len(count) != 2 {
		t.Error(count)
	}
}

// orders goes through all orders of a list.
func orders(l []api.Def, each func([]api.Def)) {
	var turn func(int)
	turn = func(n int) {
		if n == len(l) {
			each(slices.Clone(l))
			return
		}
		for i := n; i < len(l); i++ {
			l[n], l[i] = l[i], l[n]
			turn(n + 1)
			l[n], l[i] = l[i], l[n]
		}
	}
	turn(0)
}

// P10.6: definitions of unlike names, added in any order, at once and one by one, and read in any order.
func TestAddInAnyOrder(t *testing.T) {
	for _, names := range []string{"a b", "a aa ab", "a a0 aa b", "a b c d e", "a aa aaa b bb bbb"} {
		want := many(strings.Fields(names)...)
		orders(kept(want), func(l []api.Def) {
			oneByOne, e := Add(nil)
			text := ""
			for _, d := range l {
				if e == api.OK {
					oneByOne, e = Add(oneByOne, d)
				}
				s, _ := def.Show(d)
				text += s
			}
			atOnce, errno := Add(nil, l...)
			if e != api.OK || errno != api.OK || !equalAll(oneByOne, want) || !equalAll(atOnce, want) {
				t.Errorf("%v: %v, %v; want %v", l, oneByOne, atOnce, want)
			}
			for i := range l {
				first, _ := Add(nil, l[:i]...)
				if m, e := Add(first, l[i:]...); e != api.OK || !equalAll(m, want) {
					t.Errorf("%v, and from %d on: %v, error %d", l, i, m, int(e))
				}
			}
			reads(t, text, want, api.Fault{})
			for _, d := range l {
				if found, ok := Find(atOnce, d.Name); !ok || !equal(found, d) {
					t.Errorf("Find(%v, %q): %v, %v", atOnce, d.Name, found, ok)
				}
			}
		})
	}
}

// P10.6: eight definitions, in orders by chance.
func TestAddOfEightInAnyOrder(t *testing.T) {
	r := rand.New(rand.NewSource(105))
	want := many("a", "a0", "aa", "ab", "b", "ba", "c", "cccccccccccccccc")
	for range 500 {
		l := kept(want)
		r.Shuffle(len(l), func(i, j int) { l[i], l[j] = l[j], l[i] })
		cut := r.Intn(9)
		m, e := Add(nil, l[:cut]...)
		n, errno := Add(m, l[cut:]...)
		if e != api.OK || errno != api.OK || !equalAll(n, want) {
			t.Fatalf("%v, cut at %d: %v, error %d", l, cut, n, int(errno))
		}
		if _, e := Add(n, one("d")); e != api.ErrBig {
			t.Fatal(int(e))
		}
	}
}

// memory has the addresses of all texts and lists of definitions.
func memory(l []api.Def) map[string]bool {
	all := map[string]bool{}
	note := func(p unsafe.Pointer) { all[strconv.FormatUint(uint64(uintptr(p)), 16)] = true }
	for _, d := range l {
		note(unsafe.Pointer(unsafe.StringData(d.Name)))
		note(unsafe.Pointer(unsafe.SliceData(d.Steps)))
		for _, s := range d.Steps {
			if s.Sub != "" {
				note(unsafe.Pointer(unsafe.StringData(s.Sub)))
			}
			if s.Act.Account != "" {
				note(unsafe.Pointer(unsafe.StringData(s.Act.Account)))
			}
		}
	}
	return all
}

// shared tells whether two lists of definitions have any memory together.
func shared(a, b []api.Def) bool {
	of := memory(b)
	for p := range memory(a) {
		if of[p] {
			return true
		}
	}
	return len(a) > 0 && len(b) > 0 && unsafe.SliceData(a) == unsafe.SliceData(b)
}

// P10.1, P10.2, P10.4: what is handed out is new memory.
func TestNewMemory(t *testing.T) {
	s := "saga b { debit x 1; ask 3 y; } saga d { ask 2 c; } saga a { credit z 3; }"
	l := mustRead(t, s)
	more := mustRead(t, "saga c { debit x 1; } saga e { ask 3 y; }")
	all, _ := Add(l, more...)
	same, _ := Add(l)
	found, _ := Find(l, "b")
	if shared(all, l) || shared(all, more) || shared(same, l) || shared([]api.Def{found}, l) || len(all) != 5 || len(same) != 3 {
		t.Error("an answer shares memory with what was handed in")
	}
	twin := mustRead(t, "saga c { debit x 1; } saga e { ask 3 y; }")
	twin[1].Steps = twin[0].Steps
	apart, _ := Add(nil, twin...)
	if unsafe.SliceData(apart[0].Steps) == unsafe.SliceData(apart[1].Steps) {
		t.Error("two lists of an answer share memory")
	}
	was := kept(l)
	for _, m := range [][]api.Def{all, same, {found}} {
		for _, d := range m {
			clear(d.Steps[:cap(d.Steps)])
		}
		clear(m[:cap(m)])
	}
	if !equalAll(l, was) {
		t.Error("what was handed in has changed", l)
	}
	reads(t, s, was, api.Fault{})
}

// P10.4: no text of what was read is a piece of the text that was handed in.
func TestNewMemoryOfTexts(t *testing.T) {
	s := strings.Clone("saga book1 { debit cash 1; ask 3 trip; }")
	from := uintptr(unsafe.Pointer(unsafe.StringData(s)))
	d := mustRead(t, s)[0]
	for _, part := range []string{d.Name, d.Steps[0].Act.Account, d.Steps[1].Sub} {
		at := uintptr(unsafe.Pointer(unsafe.StringData(part)))
		if from <= at && at < from+uintptr(len(s)) {
			t.Errorf("%q is a piece of the text", part)
		}
	}
}

// P10.1, P10.2, P10.3: what is handed in is not changed, nor what stands in its spare room.
func TestNotChanged(t *testing.T) {
	l := many("b", "d", "f", "z", "a", "c", "e", "a", "y")
	for i := range l {
		l[i].Steps = append(l[i].Steps, ask(9, "spare", 9))[:1]
	}
	was := kept(l)
	for n := range len(l) + 1 {
		for from := n; from <= len(l); from++ {
			for to := from; to <= len(l); to++ {
				May(l[:n])
				Show(l[:n])
				Find(l[:n], "d")
				Add(l[:n], l[from:to]...)
			}
		}
	}
	if !equalAll(l, was) {
		t.Error("definitions were changed", l)
	}
	for _, d := range l {
		if d.Steps[:2][1] != ask(9, "spare", 9) {
			t.Error("steps in spare room were changed", d.Steps[:2])
		}
	}
}

// P10.2: what was answered stays as it is when more is added to it twice.
func TestAddsApart(t *testing.T) {
	base, _ := Add(nil, many("b", "d")...)
	left, _ := Add(base, one("a"))
	right, _ := Add(base, one("c"))
	last, _ := Add(base, one("e"))
	for _, c := range []struct {
		l     []api.Def
		names string
	}{{base, "b d"}, {left, "a b d"}, {right, "b c d"}, {last, "b d e"}} {
		if !equalAll(c.l, many(strings.Fields(c.names)...)) {
			t.Errorf("%v; want %s", c.l, c.names)
		}
	}
}
