package lexic

import (
	"fmt"
	"math"
	"math/rand"
	"regexp"
	"slices"
	"strconv"
	"strings"
	"testing"
	"unsafe"

	"entente/api"
)

func word(s string) api.Token { return api.Token{Kind: api.TokWord, Text: s} }

func num(s string) api.Token { return api.Token{Kind: api.TokNum, Text: s} }

func sign(s string) api.Token { return api.Token{Kind: api.TokSign, Text: s} }

func at(n int, t api.Token) api.Token {
	t.At = n
	return t
}

// end has tokens with their TokEnd behind them.
func end(l ...api.Token) []api.Token { return append(slices.Clone(l), api.Token{}) }

func tokenFault(n int) api.Fault { return api.Fault{Err: api.ErrToken, At: n} }

// told writes tokens for a failure, not too long.
func told(l []api.Token) string {
	s := strconv.Itoa(len(l)) + " tokens:"
	for i, k := range l {
		if i == 12 {
			return s + " .."
		}
		s += fmt.Sprintf(" %d %.20q at %d,", k.Kind, k.Text, k.At)
	}
	return s
}

// unplaced has tokens without their places.
func unplaced(l []api.Token) []api.Token {
	l = slices.Clone(l)
	for i := range l {
		l[i].At = 0
	}
	return l
}

// The chapter's own words once more, as patterns. (A byte that is no rune is one that is not byte 10.)
var (
	blanksHere = regexp.MustCompile(`^([ \t\n]|#[^\n]*(\n|$))*`)
	wordHere   = regexp.MustCompile(`^[a-z][a-z0-9]*`)
	numberHere = regexp.MustCompile(`^[0-9]+`)
	aWord      = regexp.MustCompile(`^[a-z][a-z0-9]{0,15}$`)
	aNumber    = regexp.MustCompile(`^(0|[1-9][0-9]{0,15})$`)
	aSign      = regexp.MustCompile(`^[{};]$`)
)

// patternOf has what the text of a token of a kind must be.
func patternOf(kind int) *regexp.Regexp {
	return map[int]*regexp.Regexp{api.TokWord: aWord, api.TokNum: aNumber, api.TokSign: aSign}[kind]
}

// wantScan is the second reading of P8.1.
func wantScan(s string) ([]api.Token, api.Fault) {
	if len(s) > 2000 {
		return nil, api.Fault{Err: api.ErrBig}
	}
	var l []api.Token
	for from := 0; ; {
		from += len(blanksHere.FindString(s[from:]))
		if from == len(s) {
			return append(l, api.Token{At: from}), api.Fault{}
		}
		t := at(from, sign(s[from:from+1]))
		if w := wordHere.FindString(s[from:]); w != "" {
			t = at(from, word(w))
		} else if n := numberHere.FindString(s[from:]); n != "" {
			t = at(from, num(n))
		}
		if !patternOf(t.Kind).MatchString(t.Text) {
			return nil, tokenFault(from)
		}
		l = append(l, t)
		from += len(t.Text)
	}
}

// wantShow is the second reading of P8.2.
func wantShow(l []api.Token) (string, api.Errno) {
	var texts []string
	for i, t := range l {
		if t.Kind == api.TokEnd && t.Text == "" && i == len(l)-1 {
			s := strings.Join(texts, " ")
			if len(s) > 2000 {
				return "", api.ErrBig
			}
			return s, api.OK
		}
		if p := patternOf(t.Kind); p == nil || !p.MatchString(t.Text) {
			return "", api.ErrToken
		}
		texts = append(texts, t.Text)
	}
	return "", api.ErrToken
}

func checkScan(t *testing.T, s string, want []api.Token, fault api.Fault) {
	t.Helper()
	l, f := Scan(s)
	if f != fault || !slices.Equal(l, want) {
		t.Errorf("Scan(%.80q) of %d bytes: %s, %v; want %s, %v", s, len(s), told(l), f, told(want), fault)
	}
	if f.Err != api.OK && len(l) > 0 {
		t.Errorf("Scan(%.80q): tokens beside a fault", s)
	}
}

// scans holds Scan against the second reading.
func scans(t *testing.T, s string) {
	t.Helper()
	want, fault := wantScan(s)
	checkScan(t, s, want, fault)
}

// shows holds Check and Show against what they must answer.
func shows(t *testing.T, l []api.Token, want string, wanted api.Errno) {
	t.Helper()
	if e := Check(l); e != wanted {
		t.Errorf("Check(%s): error %d; want %d", told(l), int(e), int(wanted))
	}
	if s, e := Show(l); s != want || e != wanted {
		t.Errorf("Show(%s): %.80q, error %d; want %.80q, %d", told(l), s, int(e), want, int(wanted))
	}
}

// P8.1: the chapter's example, and texts read by hand.
func TestScanByHand(t *testing.T) {
	for s, want := range map[string][]api.Token{
		"":                              {at(0, api.Token{})},
		"debit cash 5;":                 {at(0, word("debit")), at(6, word("cash")), at(11, num("5")), at(12, sign(";")), {At: 13}},
		" ":                             {{At: 1}},
		" \t\n \n\t":                    {{At: 6}},
		"#":                             {{At: 1}},
		"# debit cash 05 A \x00\r\xff":  {{At: 21}},
		"#\n":                           {{At: 2}},
		"# x\n":                         {{At: 4}},
		"## x # y\n#\n#":                {{At: 12}},
		"# x\na":                        {at(4, word("a")), {At: 5}},
		"#\na#\nb":                      {at(2, word("a")), at(5, word("b")), {At: 6}},
		"a#b\nc":                        {at(0, word("a")), at(4, word("c")), {At: 5}},
		"a1#b":                          {at(0, word("a1")), {At: 4}},
		"5#6":                           {at(0, num("5")), {At: 3}},
		"0#0\n0":                        {at(0, num("0")), at(4, num("0")), {At: 5}},
		"{#}\n}":                        {at(0, sign("{")), at(4, sign("}")), {At: 5}},
		";#;":                           {at(0, sign(";")), {At: 3}},
		"a\tb\nc d":                     {at(0, word("a")), at(2, word("b")), at(4, word("c")), at(6, word("d")), {At: 7}},
		"{};;}{":                        {at(0, sign("{")), at(1, sign("}")), at(2, sign(";")), at(3, sign(";")), at(4, sign("}")), at(5, sign("{")), {At: 6}},
		"5a":                            {at(0, num("5")), at(1, word("a")), {At: 2}},
		"0a0":                           {at(0, num("0")), at(1, word("a0")), {At: 3}},
		"10z9 9":                        {at(0, num("10")), at(2, word("z9")), at(5, num("9")), {At: 6}},
		"{7;8}":                         {at(0, sign("{")), at(1, num("7")), at(2, sign(";")), at(3, num("8")), at(4, sign("}")), {At: 5}},
		"a{b}c;":                        {at(0, word("a")), at(1, sign("{")), at(2, word("b")), at(3, sign("}")), at(4, word("c")), at(5, sign(";")), {At: 6}},
		"a0b1c2":                        {at(0, word("a0b1c2")), {At: 6}},
		"a05":                           {at(0, word("a05")), {At: 3}},
		"0 0":                           {at(0, num("0")), at(2, num("0")), {At: 3}},
		"  x":                           {at(2, word("x")), {At: 3}},
		"x  ":                           {at(0, word("x")), {At: 3}},
		"abcdefghijklmnop":              {at(0, word("abcdefghijklmnop")), {At: 16}},
		"z123456789012345 q":            {at(0, word("z123456789012345")), at(17, word("q")), {At: 18}},
		"9999999999999999":              {at(0, num("9999999999999999")), {At: 16}},
		"1000000000000000a":             {at(0, num("1000000000000000")), at(16, word("a")), {At: 17}},
		"9999999999999999qrstuvwxyzabc": {at(0, num("9999999999999999")), at(16, word("qrstuvwxyzabc")), {At: 29}},
	} {
		checkScan(t, s, want, api.Fault{})
		scans(t, s)
	}
}

// P8.1: ErrToken at the byte where that begins which may not be, the leftmost one.
func TestScanOfWrongTexts(t *testing.T) {
	for s, place := range map[string]int{
		"05": 0, "00": 0, "01": 0, "0123456789": 0, "00000000000000000": 0, " 05": 1, "a 05": 2, "a;05": 2, "5;00;": 2, "# 05\n05": 5,
		"10 010": 3, "07a": 0, "0 07": 2, "{{00": 2,
		"abcdefghijklmnopq": 0, " abcdefghijklmnopq": 1, "x abcdefghijklmnopq": 2, "5abcdefghijklmnopq": 1, "{abcdefghijklmnopq": 1,
		"a1234567890123456": 0, "abcdefghijklmnopq ;": 0,
		"12345678901234567": 0, "10000000000000000": 0, "a 12345678901234567": 2, ";12345678901234567": 1, "12345678901234567a": 0,
		"A": 0, "aB": 1, "a -": 2, "-5": 0, "a-b": 1, "5.0": 1, "a_b": 1, "a\r\n": 1, "\r": 0, "\x00": 0, "a\x00": 1, "\x80": 0, "é": 0, "aé": 1,
		"a\xff": 1, "\v": 0, "\f": 0, "\u00a0": 0, "5\u00a0": 1, "(": 0, "a:": 1, "a,": 1, "[": 0, "`": 0, "/": 0, ":": 0, "|": 0, "~": 0, "<": 0,
		"A 05": 0, "05 A": 0, "a A 05": 2, "a 05 A": 2, "-#": 0, "# -\n-": 4, "#\r\n\r": 3, "5 A# x": 2,
		strings.Repeat("a", 2000): 0, strings.Repeat("9", 2000): 0, strings.Repeat("0", 2000): 0, strings.Repeat(" ", 1999) + "A": 1999,
		"x " + strings.Repeat("a", 17): 2, strings.Repeat("9", 17): 0,
	} {
		checkScan(t, s, nil, tokenFault(place))
		scans(t, s)
	}
}

// P8.1: texts of just so many bytes, and one more: ErrBig at 0 goes ahead of every other fault.
func TestScanOfLongTexts(t *testing.T) {
	for _, one := range []string{" ", "\n", ";", "a ", "5;", "#", "a#\n", "A", "05 ", "a", "9", "0", "\xff", "abcdefghijklmnop ", "9999999999999999z", "{\t"} {
		for _, size := range []int{1, 2, 1998, 1999, 2000, 2001, 2002, 4000, 100000} {
			s := strings.Repeat(one, size/len(one)+1)[:size]
			scans(t, s)
			if size > 2000 {
				checkScan(t, s, nil, api.Fault{Err: api.ErrBig})
			}
		}
	}
	l, f := Scan(strings.Repeat(";", 2000))
	if len(l) != 2001 || l[2000] != (api.Token{At: 2000}) || l[1999] != at(1999, sign(";")) || f != (api.Fault{}) {
		t.Error(len(l), f)
	}
	checkScan(t, strings.Repeat(" ", 1999)+"a", []api.Token{at(1999, word("a")), {At: 2000}}, api.Fault{})
	checkScan(t, "a#"+strings.Repeat("A", 1998), []api.Token{word("a"), {At: 2000}}, api.Fault{})
	checkScan(t, strings.Repeat(" ", 2001), nil, api.Fault{Err: api.ErrBig})
	checkScan(t, "A"+strings.Repeat(" ", 2000), nil, api.Fault{Err: api.ErrBig})
	checkScan(t, strings.Repeat(" ", 2000)+"a", nil, api.Fault{Err: api.ErrBig})
}

// P8.1: words and numbers of every length, at any place.
func TestScanOfEachLength(t *testing.T) {
	for n := 1; n <= 40; n++ {
		for _, begin := range []string{"", " ", "x ", "; ", "{", "7 ", "# a\n"} {
			for _, behind := range []string{"", " ", ";", "#", "}", "\n"} {
				w, d := "a"+strings.Repeat("z9", 20)[:n-1], "1"+strings.Repeat("09", 20)[:n-1]
				scans(t, begin+w+behind)
				scans(t, begin+d+behind)
				for _, s := range []string{w, d} {
					_, f := Scan(begin + s + behind)
					if n <= 16 && f.Err != api.OK || n > 16 && f != tokenFault(len(begin)) {
						t.Errorf("%q: %v", begin+s+behind, f)
					}
				}
			}
		}
	}
}

// P8.1: every byte, alone, ahead of and behind each kind of thing, and within a remark.
func TestScanOfEveryByte(t *testing.T) {
	const known = " \t\n#{};abcdefghijklmnopqrstuvwxyz0123456789"
	for i := range 256 {
		b := string([]byte{byte(i)})
		for _, s := range []string{"", "a", "a1", "0", "5", "12", "{", "}", ";", " ", "\t", "\n", "#", "# x\n", "abcdefghijklmnop", "1234567890123456"} {
			for _, u := range []string{b, s + b, b + s, s + b + s, s + " " + b, s + b + b, "#" + b + s, "#" + b + "\n" + s} {
				scans(t, u)
			}
		}
		_, f := Scan(b)
		if strings.Contains(known, b) != (f == api.Fault{}) {
			t.Errorf("byte %d: %v", i, f)
		}
		if l, f := Scan("#" + b); len(l) != 1 || l[0].At != 2 || f != (api.Fault{}) {
			t.Errorf("byte %d in a remark: %v, %v", i, l, f)
		}
	}
}

// everyText goes through all texts of some pieces, up to a number of them.
func everyText(pieces []string, most int, each func(string)) {
	var grow func(string, int)
	grow = func(s string, left int) {
		each(s)
		if left == 0 {
			return
		}
		for _, piece := range pieces {
			grow(s+piece, left-1)
		}
	}
	grow("", most)
}

// someText has a text by chance that is mostly one of tokens.
func someText(r *rand.Rand) string {
	pieces := []string{"a", "z9", "saga", "debit", "0", "7", "10", "999", "{", "}", ";", " ", "  ", "\n", "\t", " # x\n", "#;{\n", "abcdefghijklmnop", "1234567890123456"}
	var s strings.Builder
	for range r.Intn(30) {
		s.WriteString(pieces[r.Intn(len(pieces))])
		if r.Intn(2) == 0 {
			s.WriteByte(" \n\t;"[r.Intn(4)])
		}
	}
	if r.Intn(4) == 0 {
		s.WriteByte(byte(r.Intn(256)))
		s.WriteString(pieces[r.Intn(len(pieces))])
	}
	return s.String()
}

// places is P8.5 in its own words.
func places(t *testing.T, s string, l []api.Token) {
	t.Helper()
	behind := 0
	for i, k := range l {
		if k.At < behind || k.At+len(k.Text) > len(s) || s[k.At:k.At+len(k.Text)] != k.Text {
			t.Fatalf("%q: token %d, %v, does not stand there", s, i, k)
		}
		if i > 0 && k.At <= l[i-1].At && k.Kind != api.TokEnd {
			t.Fatalf("%q: token %d, %v, does not rise", s, i, k)
		}
		// The end of a remark must be the end of what stands between, or byte 10: else the remark would hide the token.
		gap := s[behind:k.At]
		if k.Kind != api.TokEnd && strings.LastIndexByte(gap, '#') > strings.LastIndexByte(gap, '\n') || blanksHere.FindString(gap) != gap {
			t.Fatalf("%q: ahead of token %d, %v, stands %q", s, i, k, gap)
		}
		behind = k.At + len(k.Text)
	}
	if len(l) == 0 || behind != len(s) || l[len(l)-1] != (api.Token{At: len(s)}) {
		t.Fatalf("%q: the end is not the end: %v", s, l)
	}
}

// back is P8.4 of tokens that may be, and their text no longer than may be.
func back(t *testing.T, l []api.Token) {
	t.Helper()
	s, e := Show(l)
	if e != api.OK {
		t.Fatalf("Show(%s): error %d", told(l), int(e))
	}
	m, f := Scan(s)
	if f != (api.Fault{}) || !slices.Equal(unplaced(m), unplaced(l)) {
		t.Fatalf("Scan(%.80q): %s, %v; want %s", s, told(m), f, told(l))
	}
	if u, e := Show(m); u != s || e != api.OK {
		t.Fatalf("Show of that: %.80q, error %d; want %.80q", u, int(e), s)
	}
}

// blanksAhead is P8.6 in its own words.
func blanksAhead(t *testing.T, s string) {
	t.Helper()
	l, f := Scan(s)
	for _, ahead := range []string{" ", "\n\t ", "#\n", "# x\n", " # A 05 \xff#\n\n#;\n\t"} {
		n := len(ahead)
		m, g := Scan(ahead + s)
		if f.Err != api.OK {
			if len(m) > 0 || g != (api.Fault{Err: f.Err, At: f.At + n}) {
				t.Fatalf("%q ahead of %q: %v, %v; alone %v", ahead, s, m, g, f)
			}
			continue
		}
		for i := range m {
			m[i].At -= n
		}
		if g != f || !slices.Equal(m, l) {
			t.Fatalf("%q ahead of %q: %v, %v; alone %v", ahead, s, m, g, l)
		}
	}
}

// follows holds a text against all promises.
func follows(t *testing.T, s string) bool {
	t.Helper()
	scans(t, s)
	blanksAhead(t, s)
	l, f := Scan(s)
	if f.Err != api.OK {
		return false
	}
	places(t, s, l)
	if Check(l) != api.OK {
		t.Fatalf("Check(%v): no tokens of %q", l, s)
	}
	back(t, l)
	return true
}

// P8.1, P8.4, P8.5, P8.6: every short text.
func TestEveryShortText(t *testing.T) {
	good := map[bool]int{}
	everyText([]string{"a", "0", "5", " ", "\n", "#", ";", "A"}, 5, func(s string) { good[follows(t, s)]++ })
	everyText([]string{"z9", "10", "{", "}", "\t", "# x\n", "\xff", "abcdefghijklmnop", "1234567890123456"}, 4, func(s string) { good[follows(t, s)]++ })
	if good[true] < 1000 || good[false] < 1000 {
		t.Error("of one kind there were too few", good)
	}
}

// P8.1, P8.4, P8.5, P8.6: longer texts by chance.
func TestTextsByChance(t *testing.T) {
	r := rand.New(rand.NewSource(81))
	good := map[bool]int{}
	for range 5000 {
		good[follows(t, someText(r))]++
	}
	if good[true] < 500 || good[false] < 500 {
		t.Error("of one kind there were too few", good)
	}
}

// P8.1: bytes of any kind by chance.
func TestBytesByChance(t *testing.T) {
	r := rand.New(rand.NewSource(82))
	for range 2000 {
		b := make([]byte, r.Intn(60))
		for i := range b {
			b[i] = byte(r.Intn(256))
			if r.Intn(20) > 0 {
				b[i] = "az09 \n\t#{};"[r.Intn(11)]
			}
		}
		follows(t, string(b))
	}
}

// P8.2: rows of tokens read by hand.
func TestShowByHand(t *testing.T) {
	for want, l := range map[string][]api.Token{
		"":                                  end(),
		"a":                                 end(word("a")),
		"0":                                 end(num("0")),
		"{":                                 end(sign("{")),
		"}":                                 end(sign("}")),
		";":                                 end(sign(";")),
		"a a":                               end(word("a"), word("a")),
		"5 5":                               end(num("5"), num("5")),
		"0 5 a1 1":                          end(num("0"), num("5"), word("a1"), num("1")),
		"saga t { debit cash 5 ; }":         end(word("saga"), word("t"), sign("{"), word("debit"), word("cash"), num("5"), sign(";"), sign("}")),
		"abcdefghijklmnop 9999999999999999": end(word("abcdefghijklmnop"), num("9999999999999999")),
		"z123456789012345 1000000000000000": end(word("z123456789012345"), num("1000000000000000")),
	} {
		shows(t, l, want, api.OK)
		if s, e := wantShow(l); s != want || e != api.OK {
			t.Errorf("the second reading says %q, error %d", s, int(e))
		}
		back(t, l)
		for _, n := range []int{1, -1, 2000, math.MinInt, math.MaxInt} {
			m := slices.Clone(l)
			for i := range m {
				m[i].At = n
			}
			shows(t, m, want, api.OK)
		}
	}
}

// P8.2: rows that no text has, with ErrToken.
func TestWrongTokens(t *testing.T) {
	for _, l := range [][]api.Token{
		nil, {}, {word("a")}, {num("5")}, {sign(";")}, {word("a"), num("5")}, {word("a"), sign(";"), num("0")},
		{{}, {}}, {{}, {}, {}}, {word("a"), {}, {}}, {{}, word("a"), {}}, {word("a"), {}, word("b"), {}}, {{}, word("a")}, {word("a"), {}, word("b")},
		{{Text: "x"}}, {{Text: " "}}, {{Text: ";"}}, {{Text: "\x00"}}, {word("a"), {Text: "x"}}, {{Text: "a"}, {}},
		{{}, {Text: "a"}},
	} {
		shows(t, l, "", api.ErrToken)
	}
	for _, kind := range []int{-1, 4, 5, 100, -2, 257, 1 << 32, 1<<32 + 1, math.MinInt, math.MaxInt} {
		for _, text := range []string{"", "a", "5", ";"} {
			shows(t, end(api.Token{Kind: kind, Text: text}), "", api.ErrToken)
			shows(t, []api.Token{{Kind: kind, Text: text}}, "", api.ErrToken)
			shows(t, []api.Token{word("a"), {Kind: kind, Text: text}}, "", api.ErrToken)
		}
	}
}

// oneTexts has texts at the edges of all kinds.
func oneTexts() []string {
	l := []string{
		"", "a", "z", "m", "a1", "a0", "z9z9", "abcdefghijklmnop", "abcdefghijklmnopq", "a123456789012345", "a1234567890123456",
		"0", "1", "9", "5", "10", "00", "01", "05", "0a", "5a", "1234567890123456", "12345678901234567", "9999999999999999", "10000000000000000", "0000000000000000",
		"{", "}", ";", "{}", ";;", "};", "; ", " ;", "a ", " a", "a b", "5 ", " 5", "5 5", "#", "a#", "5#", ";#", "#\n", "a\n", "5\n", ";\n", "\na",
		"A", "aB", "Ab", "a_", "_a", "a-", "-5", "+5", "5.", ".5", "5e3", "0x5", "5_0", "a\x00", "\x00", "5\x00", "a\xff", "\xff", "é", "aé", "٥", "５", "ａ", "；",
		"\t", "\n", " ", "\r", "a\r", "TokEnd", strings.Repeat("a", 2001), strings.Repeat("9", 100000), strings.Repeat(";", 3000),
	}
	for i := range 256 {
		b := string([]byte{byte(i)})
		l = append(l, b, "a"+b, "5"+b, "a"+b+"a", "5"+b+"5")
	}
	return l
}

// P8.2, P8.3: each text with each kind, alone and at each place of a row.
func TestEachKindOfEachText(t *testing.T) {
	for _, text := range oneTexts() {
		for kind := -1; kind <= 4; kind++ {
			k := api.Token{Kind: kind, Text: text}
			for _, l := range [][]api.Token{{k}, end(k), end(k, word("a")), end(num("7"), k), end(word("a"), k, sign(";")), {word("a"), k}} {
				want, wanted := wantShow(l)
				shows(t, l, want, wanted)
			}
			wantValue(t, k)
		}
	}
}

func wantValue(t *testing.T, k api.Token) {
	t.Helper()
	var want int64
	is := k.Kind == api.TokNum && aNumber.MatchString(k.Text)
	if is {
		want, _ = strconv.ParseInt(k.Text, 10, 64)
	}
	for _, n := range []int{0, 1, -1, 2001, math.MinInt, math.MaxInt} {
		if v, ok := Value(at(n, k)); v != want || ok != is {
			t.Errorf("Value(%s): %d, %v; want %d, %v", told([]api.Token{at(n, k)}), v, ok, want, is)
		}
	}
}

// P8.2: every short row of tokens, of which some may be and some not.
func TestEveryShortRow(t *testing.T) {
	kinds := []api.Token{word("a"), num("0"), sign(";"), {}, {Text: "a"}, word("5"), num("05"), {Kind: 4, Text: "a"}}
	errors := map[api.Errno]int{}
	var grow func([]api.Token, int)
	grow = func(l []api.Token, left int) {
		want, wanted := wantShow(l)
		shows(t, l, want, wanted)
		errors[wanted]++
		if wanted == api.OK {
			back(t, l)
		}
		if left > 0 {
			for _, k := range kinds {
				grow(append(slices.Clone(l), k), left-1)
			}
		}
	}
	grow(nil, 5)
	if errors[api.OK] != 1+3+9+27+81 || errors[api.ErrToken] < 1000 {
		t.Error("of one kind there were too few", errors)
	}
}

// P8.2, P8.4: tokens whose text has just so many bytes, and one more.
func TestLongTokens(t *testing.T) {
	signs := func(n int) []api.Token { return slices.Repeat([]api.Token{sign(";")}, n) }
	shows(t, end(signs(1000)...), strings.Repeat("; ", 999)+";", api.OK)                    // 1999 bytes
	shows(t, end(append(signs(999), num("10"))...), strings.Repeat("; ", 999)+"10", api.OK) // 2000 bytes
	shows(t, end(signs(1001)...), "", api.ErrBig)                                           // 2001 bytes
	shows(t, end(signs(2000)...), "", api.ErrBig)
	shows(t, end(signs(100000)...), "", api.ErrBig)
	words := slices.Repeat([]api.Token{word("abcdefghijklmnop")}, 117) // 1988 bytes
	for n, wanted := range map[int]api.Errno{1: api.OK, 10: api.OK, 11: api.OK, 12: api.ErrBig, 13: api.ErrBig} {
		for _, last := range []api.Token{word("abcdefghijklmnop"[:n]), num("1234567890123456"[:n])} {
			for _, l := range [][]api.Token{end(append(slices.Clone(words), last)...), end(append([]api.Token{last}, words...)...)} {
				want, second := wantShow(l)
				if second != wanted {
					t.Errorf("the second reading says %d of %d", int(second), n)
				}
				shows(t, l, want, wanted)
				if wanted == api.OK {
					back(t, l)
				}
			}
		}
	}
	back(t, end(signs(1000)...))
	back(t, end(append(signs(999), num("10"))...))
}

// P8.2: tokens that may not be are that, however long their text is, and wherever the wrong one stands.
func TestWrongAndLongTokens(t *testing.T) {
	signs := slices.Repeat([]api.Token{sign(";")}, 3000)
	for _, place := range []int{0, 1, 1000, 2999} {
		for _, k := range []api.Token{{}, word("A"), num("05"), sign("a"), {Kind: 4, Text: "a"}, word(strings.Repeat("a", 5000))} {
			l := end(signs...)
			l[place] = k
			shows(t, l, "", api.ErrToken)
		}
	}
	shows(t, signs, "", api.ErrToken)
	shows(t, append(slices.Clone(signs), api.Token{Text: "x"}), "", api.ErrToken)
	shows(t, end(word(strings.Repeat("a", 2001))), "", api.ErrToken)
}

// P8.2, P8.4: a text may be shorter than what Show makes of its tokens: then it is ErrBig though Scan takes it.
func TestShowIsLongerThanItsText(t *testing.T) {
	for _, c := range []struct {
		s string
		e api.Errno
	}{{strings.Repeat(";", 1000), api.OK}, {strings.Repeat(";", 1001), api.ErrBig}, {strings.Repeat("5{", 500), api.OK}, {strings.Repeat("5{", 501), api.ErrBig}} {
		l, f := Scan(c.s)
		if f != (api.Fault{}) || len(l) != len(c.s)+1 {
			t.Error(len(l), f)
		}
		want, wanted := wantShow(l)
		if wanted != c.e {
			t.Errorf("the second reading says %d", int(wanted))
		}
		shows(t, l, want, wanted)
	}
}

// P8.3: values read by hand, and no value of anything that is no number.
func TestValue(t *testing.T) {
	for s, want := range map[string]int64{
		"0": 0, "1": 1, "5": 5, "9": 9, "10": 10, "42": 42, "100": 100, "999": 999, "2147483648": 2147483648, "4294967296": 4294967296,
		"123456789": 123456789, "1000000000000000": 1000000000000000, "1234567890123456": 1234567890123456, "9999999999999999": 9999999999999999,
	} {
		if n, ok := Value(num(s)); n != want || !ok {
			t.Errorf("Value(%s): %d, %v", s, n, ok)
		}
	}
	for _, k := range []api.Token{
		{}, {Text: "5"}, word("a"), word("5"), sign(";"), sign("5"), {Kind: 4, Text: "5"}, {Kind: -1, Text: "5"}, {Kind: math.MaxInt, Text: "5"},
		num(""), num("05"), num("00"), num("a"), num("5a"), num("a5"), num("-5"), num("+5"), num(" 5"), num("5 "), num("5\n"), num("5#"), num("{"), num("1_0"), num("0x1"),
		num("10000000000000000"), num("99999999999999999"), num("9223372036854775808"), num("00000000000000000"), num(strings.Repeat("1", 100000)), num("٥"), num("\xff"),
	} {
		if n, ok := Value(k); n != 0 || ok {
			t.Errorf("Value(%s): %d, %v", told([]api.Token{k}), n, ok)
		}
	}
	r := rand.New(rand.NewSource(83))
	for range 3000 {
		wantValue(t, num(strconv.FormatInt(r.Int63n(int64(math.Pow10(1+r.Intn(18)))), 10)))
	}
}

// P8.3: what Scan takes for a number has a value, and nothing else that it takes.
func TestValueOfScanned(t *testing.T) {
	l, f := Scan("saga t7 { debit cash 15 tries 3; ask 0 hotel; }")
	var got []int64
	for _, k := range l {
		n, ok := Value(k)
		if ok != (k.Kind == api.TokNum) || !ok && n != 0 {
			t.Error(k, n, ok)
		}
		if ok {
			got = append(got, n)
		}
	}
	if f != (api.Fault{}) || !slices.Equal(got, []int64{15, 3, 0}) {
		t.Error(f, got)
	}
}

// inside tells whether a text stands in another one's memory.
func inside(part, whole string) bool {
	from := uintptr(unsafe.Pointer(unsafe.StringData(whole)))
	here := uintptr(unsafe.Pointer(unsafe.StringData(part)))
	return part != "" && from <= here && here < from+uintptr(len(whole))
}

// P8.1, P8.2: what is handed out is new memory, and no two texts of one answer share any.
func TestNewMemory(t *testing.T) {
	s := strings.Clone("saga t { # x\n debit cash 5; }")
	l, _ := Scan(s)
	for i, k := range l {
		if inside(k.Text, s) {
			t.Errorf("%v is a piece of what was handed in", k)
		}
		for _, other := range l[:i] {
			if inside(k.Text, other.Text) {
				t.Errorf("%v and %v share memory", k, other)
			}
		}
	}
	for _, one := range []string{"abcdef", "123456", ";"} {
		m, _ := Scan(one)
		if u, e := Show(m); u != one || e != api.OK || inside(u, m[0].Text) {
			t.Errorf("Show(%v): %q, error %d: it is not new", m, u, int(e))
		}
	}
	again, _ := Scan(s)
	clear(again[:cap(again)])
	if again, _ = Scan(s); !slices.Equal(again, l) {
		t.Error("what one call answered changes the next one's answer")
	}
}

// P8.2: tokens that are handed in are not changed, nor what stands in their spare room.
func TestNotChanged(t *testing.T) {
	whole := append(end(word("a"), num("5"), sign(";")), word("b"), api.Token{Kind: 9, Text: "x", At: 9})
	for n := range len(whole) + 1 {
		was := slices.Clone(whole)
		Check(whole[:n])
		Show(whole[:n])
		if !slices.Equal(whole, was) {
			t.Errorf("the first %d: %v; was %v", n, whole, was)
		}
	}
}
