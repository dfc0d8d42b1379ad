package window

import (
	"math"
	"math/rand"
	"slices"
	"testing"

	"entente/api"
)

const (
	most   = math.MaxInt
	least  = math.MinInt
	end    = 1000000000 // the chapter's greatest number
	width  = 16         // the chapter's Width
	places = width - 1  // numbers that Seen may have: from Low and two to Low and 16
)

func win(low int, seen ...int) api.Window { return api.Window{Low: low, Seen: seen} }

func same(a, b api.Window) bool { return a.Low == b.Low && slices.Equal(a.Seen, b.Seen) }

func isNothing(w api.Window) bool { return w.Low == 0 && len(w.Seen) == 0 }

// plainMay is the chapter's own words of what a window may be.
func plainMay(w api.Window) bool {
	if w.Low < 0 || w.Low > end {
		return false
	}
	for i, n := range w.Seen {
		if n < w.Low+2 || n > w.Low+width {
			return false
		}
		for _, ahead := range w.Seen[:i] {
			if ahead >= n {
				return false
			}
		}
	}
	return true
}

// has is the chapter's own words of what a window has taken.
func has(w api.Window, n int) bool { return n >= 1 && n <= w.Low || slices.Contains(w.Seen, n) }

// plainTake is the chapter's own words of Take, the window made anew of all that was taken.
func plainTake(w api.Window, seq int) (api.Window, bool, api.Errno) {
	if !plainMay(w) || seq < 1 || seq > end {
		return api.Window{}, false, api.ErrArg
	}
	if seq > w.Low+width {
		return api.Window{}, false, api.ErrWindow
	}
	if has(w, seq) {
		return w, false, api.OK
	}
	v := win(w.Low)
	for n := w.Low + 1; n <= w.Low+width; n++ {
		switch {
		case n != seq && !has(w, n):
		case n == v.Low+1:
			v.Low = n
		default:
			v.Seen = append(v.Seen, n)
		}
	}
	return v, true, api.OK
}

// plainAll is the chapter's own words of All.
func plainAll(w api.Window, seqs []int) (api.Window, int, api.Errno) {
	fresh := 0
	for _, seq := range seqs {
		v, b, e := plainTake(w, seq)
		if e != api.OK {
			return api.Window{}, 0, e
		}
		if b {
			fresh++
		}
		w = v
	}
	return w, fresh, api.OK
}

// plainMissing is the chapter's own words of Missing.
func plainMissing(w api.Window) []int {
	if !plainMay(w) || len(w.Seen) == 0 {
		return nil
	}
	var l []int
	for n := w.Low + 1; n < slices.Max(w.Seen); n++ {
		if !has(w, n) {
			l = append(l, n)
		}
	}
	return l
}

// holdTake holds Take against the chapter's words.
func holdTake(t *testing.T, w api.Window, seq int) {
	t.Helper()
	want, wantFresh, wantErr := plainTake(w, seq)
	if v, fresh, e := Take(w, seq); !same(v, want) || fresh != wantFresh || e != wantErr {
		t.Fatalf("Take(%v, %d) = %v, %v, error %d, want %v, %v, error %d", w, seq, v, fresh, int(e), want, wantFresh, int(wantErr))
	}
}

// holdAll holds All against the chapter's words.
func holdAll(t *testing.T, w api.Window, seqs ...int) {
	t.Helper()
	want, wantFresh, wantErr := plainAll(w, seqs)
	if v, fresh, e := All(w, seqs...); !same(v, want) || fresh != wantFresh || e != wantErr {
		t.Fatalf("All(%v, %v) = %v, %d, error %d, want %v, %d, error %d", w, seqs, v, fresh, int(e), want, wantFresh, int(wantErr))
	}
}

// expectTake sees that Take answers just so, without an error.
func expectTake(t *testing.T, w api.Window, seq int, want api.Window, wantFresh bool) {
	t.Helper()
	if v, fresh, e := Take(w, seq); !same(v, want) || fresh != wantFresh || e != api.OK {
		t.Errorf("Take(%v, %d) = %v, %v, error %d, want %v, %v", w, seq, v, fresh, int(e), want, wantFresh)
	}
}

// refuseTake sees that Take answers that error, and nothing beside it.
func refuseTake(t *testing.T, want api.Errno, w api.Window, seq int) {
	t.Helper()
	if v, fresh, e := Take(w, seq); !isNothing(v) || fresh || e != want {
		t.Errorf("Take(%v, %d) = %v, %v, error %d, want error %d", w, seq, v, fresh, int(e), int(want))
	}
}

// expectAll sees that All answers just so, without an error.
func expectAll(t *testing.T, w api.Window, want api.Window, wantFresh int, seqs ...int) {
	t.Helper()
	if v, fresh, e := All(w, seqs...); !same(v, want) || fresh != wantFresh || e != api.OK {
		t.Errorf("All(%v, %v) = %v, %d, error %d, want %v, %d", w, seqs, v, fresh, int(e), want, wantFresh)
	}
}

// refuseAll sees that All answers that error, and nothing beside it.
func refuseAll(t *testing.T, want api.Errno, w api.Window, seqs ...int) {
	t.Helper()
	if v, fresh, e := All(w, seqs...); !isNothing(v) || fresh != 0 || e != want {
		t.Errorf("All(%v, %v) = %v, %d, error %d, want error %d", w, seqs, v, fresh, int(e), int(want))
	}
}

func expectMissing(t *testing.T, w api.Window, want ...int) {
	t.Helper()
	if l := Missing(w); !slices.Equal(l, want) {
		t.Errorf("Missing(%v) = %v, want %v", w, l, want)
	}
}

// lows has the edges of Low, and what lies a width about them.
func lows() []int {
	return []int{0, 1, 2, 15, 16, 17, 500000000, end - 17, end - 16, end - 15, end - 2, end - 1, end}
}

// ofBits is the window with that Low whose Seen has Low and two, if the lowest bit is set, and so on.
func ofBits(low, bits int) api.Window {
	w := win(low)
	for i := range places {
		if bits>>i&1 == 1 {
			w.Seen = append(w.Seen, low+2+i)
		}
	}
	return w
}

// fullest has all that Seen may have.
func fullest(low int) api.Window { return ofBits(low, 1<<places-1) }

// wrongWindows has windows that may not be, of each kind.
func wrongWindows() []api.Window {
	l := []api.Window{win(-1), win(-2), win(-17), win(least), win(least + 1), win(end + 1), win(end + 2), win(math.MaxInt32), win(1<<32 + 1), win(most - 16), win(most - 15), win(most - 1), win(most)}
	l = append(l, win(-1, 1), win(-2, 0), win(end+1, end+3), win(most, least), win(most-2, most), win(least, least+2))
	for _, low := range lows() {
		for _, n := range []int{least, -1, 0, low - 1, low, low + 1, low + 17, low + 18, 1<<32 + low + 2, most - 1, most} {
			l = append(l, win(low, n), win(low, n, low+5), win(low, low+5, n))
		}
		l = append(l,
			win(low, low+2, low+2), win(low, low+16, low+16), win(low, low+3, low+2), win(low, low+16, low+2), win(low, low+4, low+6, low+5),
			win(low, low+4, low+4, low+6), win(low, low+4, low+6, low+6), win(low, low+6, low+4, low+8),
			win(low, append(fullest(low).Seen, low+17)...), win(low, append(fullest(low).Seen, low+16)...), win(low, append([]int{low + 1}, fullest(low).Seen...)...),
		)
	}
	return l
}

// TestLimits: the limit that the chapter's numbers come from.
func TestLimits(t *testing.T) {
	if api.Width != width {
		t.Fatal("Width is", api.Width)
	}
}

// TestExample: the chapter's example.
func TestExample(t *testing.T) {
	expectAll(t, win(0), win(3, 5), 4, 1, 3, 2, 3, 5)
	expectMissing(t, win(3, 5), 4)
}

// TestMayLow: P18.1, the edges of Low.
func TestMayLow(t *testing.T) {
	for _, low := range []int{0, 1, 2, 16, 17, 999999999, end} {
		for _, w := range []api.Window{{Low: low}, {Low: low, Seen: []int{}}} {
			if e := May(w); e != api.OK {
				t.Errorf("May(%v) = error %d", w, int(e))
			}
		}
	}
	for _, low := range []int{-1, -2, least, end + 1, end + 2, math.MaxInt32, 1 << 32, most - 16, most} {
		for _, w := range []api.Window{win(low), {Low: low, Seen: []int{}}, win(low, low+2), win(low, 5), win(low, end)} {
			if e := May(w); e != api.ErrArg {
				t.Errorf("May(%v) = error %d", w, int(e))
			}
		}
	}
}

// TestMaySeen: P18.1, the edges of Seen at each edge of Low.
func TestMaySeen(t *testing.T) {
	for _, low := range lows() {
		for _, w := range []api.Window{win(low, low+2), win(low, low+3), win(low, low+15), win(low, low+16), win(low, low+2, low+3), win(low, low+2, low+16), win(low, low+15, low+16), fullest(low)} {
			if e := May(w); e != api.OK {
				t.Errorf("May(%v) = error %d", w, int(e))
			}
		}
	}
	for _, w := range wrongWindows() {
		if plainMay(w) {
			t.Fatalf("%v may be", w)
		}
		if e := May(w); e != api.ErrArg {
			t.Errorf("May(%v) = error %d", w, int(e))
		}
	}
}

// TestMayShortLists: P18.1, every list of up to three numbers about the edges of Seen.
func TestMayShortLists(t *testing.T) {
	hold := func(w api.Window) {
		if e := May(w); (e == api.OK) != plainMay(w) || e != api.OK && e != api.ErrArg {
			t.Fatalf("May(%v) = error %d", w, int(e))
		}
	}
	for _, low := range append(lows(), -2, -1, end+1) {
		l := []int{least, -1, 0, 1, low - 1, low, low + 1, low + 2, low + 3, low + 4, low + 15, low + 16, low + 17, low + 18, most}
		for _, a := range l {
			hold(win(low, a))
			for _, b := range l {
				hold(win(low, a, b))
				for _, c := range l {
					hold(win(low, a, b, c))
				}
			}
		}
	}
}

// TestMayLongLists: P18.1, lists that could be no window, however long.
func TestMayLongLists(t *testing.T) {
	long := make([]int, 100000)
	for i := range long {
		long[i] = i + 2
	}
	for _, l := range [][]int{long, long[:17], long[:16], slices.Repeat([]int{2}, 100000)} {
		if e := May(win(0, l...)); e != api.ErrArg {
			t.Errorf("May of %d numbers = error %d", len(l), int(e))
		}
	}
	if e := May(win(0, long[:15]...)); e != api.OK {
		t.Errorf("May of 15 numbers = error %d", int(e))
	}
}

// TestTakeFromNothing: P18.2, the first numbers and the furthest ones.
func TestTakeFromNothing(t *testing.T) {
	expectTake(t, win(0), 1, win(1), true)
	expectTake(t, win(0), 2, win(0, 2), true)
	expectTake(t, win(0), 15, win(0, 15), true)
	expectTake(t, win(0), 16, win(0, 16), true)
	refuseTake(t, api.ErrWindow, win(0), 17)
	refuseTake(t, api.ErrWindow, win(0), 18)
	refuseTake(t, api.ErrWindow, win(0), end)
	refuseTake(t, api.ErrArg, win(0), 0)
	refuseTake(t, api.ErrArg, win(0), end+1)
	expectTake(t, api.Window{Seen: []int{}}, 1, win(1), true)
}

// TestTakeNumbers: P18.2, the edges of seq, whatever the window has.
func TestTakeNumbers(t *testing.T) {
	for _, low := range lows() {
		for _, w := range []api.Window{win(low), win(low, low+2), win(low, low+16), fullest(low)} {
			for _, seq := range []int{0, -1, -2, least, least + 1, low - end - 1, end + 1, end + 2, end + 16, math.MaxInt32, 1<<32 + 1, 1<<32 + low, most - 16, most - 1, most} {
				refuseTake(t, api.ErrArg, w, seq)
			}
			for _, seq := range []int{low + 17, low + 18, low + 33, end - 1, end} {
				if seq > low+16 && seq <= end {
					refuseTake(t, api.ErrWindow, w, seq)
				}
			}
			for _, seq := range []int{1, 2, low / 2, low - 1, low} {
				if seq >= 1 && seq <= low {
					expectTake(t, w, seq, w, false)
				}
			}
		}
	}
}

// TestTakeGaps: P18.2, P18.6, a number that closes a gap, the last one or not.
func TestTakeGaps(t *testing.T) {
	for _, low := range []int{0, 1, 3, 100, 500000000, end - 40, end - 16} {
		at := func(offsets ...int) api.Window {
			w := win(low)
			for _, n := range offsets {
				w.Seen = append(w.Seen, low+n)
			}
			return w
		}
		expectTake(t, at(2), low+1, win(low+2), true)
		expectTake(t, at(3), low+1, win(low+1, low+3), true)
		expectTake(t, at(3), low+2, at(2, 3), true)
		expectTake(t, at(2, 3), low+1, win(low+3), true)
		expectTake(t, at(2, 4), low+1, win(low+2, low+4), true)
		expectTake(t, at(2, 4), low+3, at(2, 3, 4), true)
		expectTake(t, at(2, 3, 4, 6, 7, 9), low+1, win(low+4, low+6, low+7, low+9), true)
		expectTake(t, at(2, 4, 6), low+5, at(2, 4, 5, 6), true)
		expectTake(t, at(5), low+9, at(5, 9), true)
		expectTake(t, at(5, 9), low+7, at(5, 7, 9), true)
		expectTake(t, at(16), low+2, at(2, 16), true)
		expectTake(t, at(16), low+15, at(15, 16), true)
		expectTake(t, at(2), low+16, at(2, 16), true)
		expectTake(t, fullest(low), low+1, win(low+16), true)
		expectTake(t, at(2), low+2, at(2), false)
		expectTake(t, at(2, 16), low+16, at(2, 16), false)
		expectTake(t, at(2, 5, 16), low+5, at(2, 5, 16), false)
	}
}

// TestTakeOfWrongWindows: P18.2, ErrArg ahead of ErrWindow, whatever seq is.
func TestTakeOfWrongWindows(t *testing.T) {
	for _, w := range wrongWindows() {
		for _, seq := range []int{least, -1, 0, 1, 2, 3, 16, 17, 18, 1000, end - 1, end, end + 1, most} {
			refuseTake(t, api.ErrArg, w, seq)
		}
		if w.Low > least && w.Low < most-17 {
			for _, d := range []int{-1, 0, 1, 2, 16, 17} {
				refuseTake(t, api.ErrArg, w, w.Low+d)
			}
		}
		for _, n := range w.Seen {
			refuseTake(t, api.ErrArg, w, n)
		}
	}
}

// TestTakeEveryWindow: P18.2, every window of an edge of Low, with every number about it.
func TestTakeEveryWindow(t *testing.T) {
	for _, low := range lows() {
		for bits := range 1 << places {
			w := ofBits(low, bits)
			if e := May(w); e != api.OK {
				t.Fatalf("May(%v) = error %d", w, int(e))
			}
			for seq := low - 2; seq <= low+18; seq++ {
				holdTake(t, w, seq)
			}
		}
	}
}

// TestTakeTellsWhatItHas: P18.2, P18.6: just what was taken, and seq, and Low at the first gap.
func TestTakeTellsWhatItHas(t *testing.T) {
	for _, low := range []int{0, 1, 7, 500000000, end - 32} {
		for bits := range 1 << places {
			w := ofBits(low, bits)
			for seq := max(low-1, 1); seq <= low+width; seq++ {
				v, fresh, e := Take(w, seq)
				if e != api.OK || fresh == has(w, seq) || May(v) != api.OK || v.Low < w.Low || has(v, v.Low+1) {
					t.Fatalf("Take(%v, %d) = %v, %v, error %d", w, seq, v, fresh, int(e))
				}
				for n := low - 3; n <= low+40; n++ {
					if has(v, n) != (has(w, n) || n == seq) {
						t.Fatalf("Take(%v, %d) = %v: of %d", w, seq, v, n)
					}
				}
			}
		}
	}
}

// TestTakeAtTheEnd: P18.2, P18.6, the last numbers; what stands in Seen above them is gone on to like all else.
func TestTakeAtTheEnd(t *testing.T) {
	expectTake(t, win(end-1), end, win(end), true)
	expectTake(t, win(end-2), end, win(end-2, end), true)
	expectTake(t, win(end-2, end), end-1, win(end), true)
	expectTake(t, win(end), end, win(end), false)
	expectTake(t, win(end, end+2, end+16), end, win(end, end+2, end+16), false)
	expectTake(t, win(end), 1, win(end), false)
	refuseTake(t, api.ErrArg, win(end), end+1)
	refuseTake(t, api.ErrArg, win(end, end+2), end+2)
	expectTake(t, win(end-1, end+2), end, win(end, end+2), true)
	expectTake(t, win(end-1, end+1), end, win(end+1), true)
	expectTake(t, win(end-1, end+1, end+2, end+4), end, win(end+2, end+4), true)
	expectTake(t, fullest(end-1), end, win(end+15), true)
	refuseAll(t, api.ErrArg, win(end-1, end+1), end, 1)
}

// TestAllOfNoNumber: P18.3.
func TestAllOfNoNumber(t *testing.T) {
	for _, low := range lows() {
		for _, w := range []api.Window{win(low), win(low, low+2), win(low, low+3, low+16), fullest(low)} {
			expectAll(t, w, w, 0)
			expectAll(t, w, w, 0, []int{}...)
		}
	}
	// Where nothing is taken, no Take tells an error.
	for _, w := range wrongWindows() {
		expectAll(t, w, w, 0)
	}
}

// TestAllByHand: P18.3, numbers that are fresh, and such that are not.
func TestAllByHand(t *testing.T) {
	expectAll(t, win(0), win(1), 1, 1)
	expectAll(t, win(0), win(1), 1, 1, 1, 1)
	expectAll(t, win(0), win(3), 3, 3, 2, 1)
	expectAll(t, win(0), win(3), 3, 1, 2, 3)
	expectAll(t, win(0), win(0, 2, 16), 2, 16, 2, 16, 2)
	expectAll(t, win(0), win(17), 17, 16, 15, 14, 13, 12, 11, 10, 9, 8, 7, 6, 5, 4, 3, 2, 1, 17)
	expectAll(t, win(0), win(1, 17), 2, 1, 17)
	expectAll(t, win(5, 8), win(5, 8), 0, 1, 8, 5, 4, 8, 3, 2, 1)
	expectAll(t, win(5, 8), win(8, 10), 3, 8, 7, 5, 6, 7, 10, 10)
	expectAll(t, win(end-3), win(end), 3, end, end-2, end-1, end, 1)
}

// TestAllErrors: P18.3, the first error, wherever it stands, and nothing beside it.
func TestAllErrors(t *testing.T) {
	for _, c := range []struct {
		seq  int
		want api.Errno
	}{{0, api.ErrArg}, {-1, api.ErrArg}, {least, api.ErrArg}, {end + 1, api.ErrArg}, {most, api.ErrArg}, {40, api.ErrWindow}, {end, api.ErrWindow}} {
		refuseAll(t, c.want, win(0), c.seq)
		refuseAll(t, c.want, win(0), c.seq, 1, 2)
		refuseAll(t, c.want, win(0), 1, c.seq, 2)
		refuseAll(t, c.want, win(0), 1, 2, c.seq)
		refuseAll(t, c.want, win(5, 8), 6, 7, 8, 1, c.seq)
		for _, other := range []int{0, 40, end + 1} {
			refuseAll(t, c.want, win(0), c.seq, other)
			refuseAll(t, c.want, win(0), 1, c.seq, 2, other, 3)
		}
	}
	refuseAll(t, api.ErrWindow, win(0), 17, 1)
	refuseAll(t, api.ErrWindow, win(0), 2, 17, 1)
	refuseAll(t, api.ErrWindow, win(0), 1, 18, 2)
	expectAll(t, win(0), win(1, 17), 2, 1, 17)
	for _, w := range wrongWindows() {
		for _, seq := range []int{least, 0, 1, 17, 18, end, end + 1} {
			refuseAll(t, api.ErrArg, w, seq)
			refuseAll(t, api.ErrArg, w, 1, seq)
		}
	}
}

// TestAllIsTakeByTake: P18.3, every short row of numbers, from several windows.
func TestAllIsTakeByTake(t *testing.T) {
	for _, w := range []api.Window{win(0), win(0, 2), win(1, 4), win(2, 4, 18), fullest(0), win(-1), win(3, 3)} {
		var rows func(row []int)
		rows = func(row []int) {
			holdAll(t, w, row...)
			if len(row) == 4 {
				return
			}
			for _, n := range []int{0, 1, 2, 3, 4, 5, 16, 17, 18, 19} {
				rows(append(slices.Clone(row), n))
			}
		}
		rows(nil)
	}
}

// TestAllInParts: P18.3, all at once is as one part behind the other.
func TestAllInParts(t *testing.T) {
	r := rand.New(rand.NewSource(183))
	for range 2000 {
		w := ofBits(r.Intn(1000), r.Intn(1<<places))
		var row []int
		for range r.Intn(20) {
			row = append(row, max(1, w.Low-4+r.Intn(21)))
		}
		all, fresh, e := All(w, row...)
		if e != api.OK {
			t.Fatalf("All(%v, %v): error %d", w, row, int(e))
		}
		for cut := range len(row) + 1 {
			a, n, _ := All(w, row[:cut]...)
			b, m, _ := All(a, row[cut:]...)
			if !same(b, all) || n+m != fresh {
				t.Fatalf("All(%v, %v) = %v, %d, but cut at %d: %v, %d", w, row, all, fresh, cut, b, n+m)
			}
		}
	}
}

// TestMissingByHand: P18.4, no gap that is told without Seen, and each kind of gap.
func TestMissingByHand(t *testing.T) {
	for _, low := range lows() {
		expectMissing(t, win(low))
		expectMissing(t, api.Window{Low: low, Seen: []int{}})
		expectMissing(t, win(low, low+2), low+1)
		expectMissing(t, win(low, low+3), low+1, low+2)
		expectMissing(t, win(low, low+2, low+3), low+1)
		expectMissing(t, win(low, low+2, low+4), low+1, low+3)
		expectMissing(t, win(low, low+2, low+3, low+6, low+7), low+1, low+4, low+5)
		expectMissing(t, win(low, low+4, low+6, low+9), low+1, low+2, low+3, low+5, low+7, low+8)
		expectMissing(t, win(low, low+15, low+16), low+1, low+2, low+3, low+4, low+5, low+6, low+7, low+8, low+9, low+10, low+11, low+12, low+13, low+14)
		expectMissing(t, win(low, low+16), low+1, low+2, low+3, low+4, low+5, low+6, low+7, low+8, low+9, low+10, low+11, low+12, low+13, low+14, low+15)
		expectMissing(t, fullest(low), low+1)
	}
	for _, w := range wrongWindows() {
		expectMissing(t, w)
	}
}

// TestMissingEveryWindow: P18.4; and what is missing is just what is taken till nothing is.
func TestMissingEveryWindow(t *testing.T) {
	for _, low := range lows() {
		for bits := range 1 << places {
			w := ofBits(low, bits)
			l := Missing(w)
			if !slices.Equal(l, plainMissing(w)) {
				t.Fatalf("Missing(%v) = %v, want %v", w, l, plainMissing(w))
			}
			if low > end-width || len(l) == 0 {
				continue
			}
			if v, n, e := All(w, l...); !same(v, win(slices.Max(w.Seen))) || n != len(l) || e != api.OK {
				t.Fatalf("All(%v, %v) = %v, %d, error %d", w, l, v, n, int(e))
			}
		}
	}
}

// taker takes numbers one by one, and keeps how often each was fresh.
type taker struct {
	w     api.Window
	first int
	fresh map[int]int
}

func newTaker(low int) *taker { return &taker{w: win(low), first: low, fresh: map[int]int{}} }

// take takes a number, and holds what P18.5 and P18.6 say.
func (k *taker) take(t *testing.T, seq int) {
	t.Helper()
	v, fresh, e := Take(k.w, seq)
	if far := seq > k.w.Low+width; far != (e == api.ErrWindow) || !far && e != api.OK {
		t.Fatalf("Take(%v, %d): error %d", k.w, seq, int(e))
	}
	if e != api.OK {
		return
	}
	if fresh {
		k.fresh[seq]++
	}
	if k.fresh[seq] > 1 || fresh && seq <= k.first {
		t.Fatalf("Take(%v, %d): fresh again", k.w, seq)
	}
	if v.Low < k.w.Low || May(v) != api.OK {
		t.Fatalf("Take(%v, %d) = %v", k.w, seq, v)
	}
	low := k.first
	for k.fresh[low+1] == 1 {
		low++
	}
	if v.Low != low {
		t.Fatalf("Take(%v, %d) = %v, want Low %d", k.w, seq, v, low)
	}
	k.w = v
}

// holds sees that all that was fresh is still taken, and nothing else.
func (k *taker) holds(t *testing.T) {
	t.Helper()
	for n := max(k.first-2, 1); n <= k.w.Low+2*width; n++ {
		if has(k.w, n) != (n <= k.first || k.fresh[n] == 1) {
			t.Fatalf("%v: of %d", k.w, n)
		}
	}
}

// everyOrder calls f with each order of the numbers.
func everyOrder(l []int, f func([]int)) {
	var from func(at int)
	from = func(at int) {
		if at == len(l) {
			f(l)
			return
		}
		for i := at; i < len(l); i++ {
			l[at], l[i] = l[i], l[at]
			from(at + 1)
			l[at], l[i] = l[i], l[at]
		}
	}
	from(0)
}

// TestEveryOrder: P18.5, P18.6, eight numbers in every order, each of them twice.
func TestEveryOrder(t *testing.T) {
	for _, low := range []int{0, 5, end - 8} {
		var l []int
		for n := range 8 {
			l = append(l, low+1+n)
		}
		everyOrder(l, func(l []int) {
			k := newTaker(low)
			for i, n := range l {
				k.take(t, n)
				k.take(t, l[i/2])
			}
			k.holds(t)
			if !same(k.w, win(low+8)) || len(k.fresh) != 8 {
				t.Fatalf("from %d by %v: %v", low, l, k.w)
			}
		})
	}
}

// TestEveryRow: P18.5, P18.6, every row of seven numbers out of five, so that some never come, and others often.
func TestEveryRow(t *testing.T) {
	for row := range 5 * 5 * 5 * 5 * 5 * 5 * 5 {
		k := newTaker(0)
		for range 7 {
			k.take(t, row%5+1)
			row /= 5
		}
		k.holds(t)
	}
}

// TestLongRows: P18.5, P18.6, numbers that come by chance, late, doubled, lost or too far ahead.
func TestLongRows(t *testing.T) {
	r := rand.New(rand.NewSource(185))
	for _, spread := range []int{2, 8, 20, 40} {
		for range 60 {
			k := newTaker(0)
			for range 600 {
				k.take(t, max(1, k.w.Low-4+r.Intn(5+spread)))
				k.holds(t)
			}
			if k.w.Low < 20 {
				t.Errorf("with a spread of %d Low came to %d", spread, k.w.Low)
			}
		}
	}
}

// spoil changes all of a list's room, its spare room too.
func spoil(l []int) {
	l = l[:cap(l)]
	for i := range l {
		l[i] = -77
	}
}

// roomy is a copy of a window whose Seen has spare room ahead and behind, and all of that room.
func roomy(w api.Window) (api.Window, []int) {
	room := slices.Concat([]int{901, 902}, w.Seen, []int{903, 904, 905})
	return api.Window{Low: w.Low, Seen: room[2 : 2+len(w.Seen)]}, room
}

// TestWindowsStayAsTheyWere: rule 4, what is handed in, and its spare room, whatever the answer is and whatever is done to that.
func TestWindowsStayAsTheyWere(t *testing.T) {
	windows := append(wrongWindows(), win(0), win(0, 2), win(3, 5), win(3, 5, 7), win(3, 19), fullest(3), fullest(0), win(end-1, end+1))
	for _, plain := range windows {
		for _, seq := range []int{-1, 0, 1, 2, 3, 4, 5, 6, 7, 8, 18, 19, 20, end, end + 1} {
			for name, call := range map[string]func(api.Window) []int{
				"May":     func(w api.Window) []int { May(w); return nil },
				"Missing": Missing,
				"Take":    func(w api.Window) []int { v, _, _ := Take(w, seq); return v.Seen },
				"All":     func(w api.Window) []int { v, _, _ := All(w, seq, 4, seq); return v.Seen },
				"none":    func(w api.Window) []int { v, _, _ := All(w); return v.Seen },
			} {
				w, room := roomy(plain)
				was := slices.Clone(room)
				spoil(call(w))
				if !slices.Equal(room, was) || w.Low != plain.Low {
					t.Fatalf("%s of %v with %d left %v of %v", name, plain, seq, room, was)
				}
				got := call(w)
				before := slices.Clone(got)
				spoil(room)
				if !slices.Equal(got, before) {
					t.Fatalf("%s of %v with %d shares its list", name, plain, seq)
				}
			}
		}
	}
}

// TestSeqsStayAsTheyWere: rule 4, the numbers of All, and their spare room.
func TestSeqsStayAsTheyWere(t *testing.T) {
	for _, row := range [][]int{{5, 3, 2, 3, 16}, {5, 3, 0}, {17, 1}, {1}, {}} {
		room := append(slices.Clone(row), 7, 8, 9)
		was := slices.Clone(room)
		v, _, _ := All(win(0), room[:len(row)]...)
		spoil(v.Seen)
		if !slices.Equal(room, was) {
			t.Errorf("All left %v of %v", room, was)
		}
		v, _, _ = All(win(0), room[:len(row)]...)
		before := slices.Clone(v.Seen)
		spoil(room)
		if !slices.Equal(v.Seen, before) {
			t.Errorf("All of %v shares its list", row)
		}
	}
}

// TestSameAnswersAgain: rule 5, nothing is kept from call to call.
func TestSameAnswersAgain(t *testing.T) {
	r := rand.New(rand.NewSource(188))
	for range 2000 {
		w := ofBits(r.Intn(30), r.Intn(1<<places))
		seq := r.Intn(50)
		holdTake(t, w, seq)
		holdTake(t, ofBits(r.Intn(30), r.Intn(1<<places)), r.Intn(50))
		holdAll(t, w, seq, w.Low+1, seq)
		holdTake(t, w, seq)
	}
}
