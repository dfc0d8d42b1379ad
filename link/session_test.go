package link

import (
	"fmt"
	"math/rand"
	"slices"
	"testing"

	"entente/api"
)

// notesEach is how many notes each side of a pair may ever send.
const notesEach = 20

// session is one direction between two lives, and a note in it.
type session struct {
	from  int
	lives [2]int
	note  int
}

// pair is two links, the frames between them, and how often each note was pushed and handed out in each session.
type pair struct {
	t       *testing.T
	now     int
	ends    [2]*Link
	lives   [2]int
	way     [2][]api.Frame // to each end
	was     [2][]api.Frame // all that ever were on the way to it
	pushed  map[session]int
	handed  map[session]int
	history []func() string
}

func newPair(t *testing.T, lives ...int) *pair {
	t.Helper()
	p := &pair{t: t, pushed: map[session]int{}, handed: map[session]int{}}
	for s := range p.ends {
		p.lives[s] = lives[s] - 1
		p.newLife(s)
	}
	return p
}

func (p *pair) note(from, i int) api.Note { return nth(from, 1-from, i) }

// tell notes what is done, for where a test fails.
func (p *pair) tell(form string, with ...any) {
	p.history = append(p.history, func() string { return fmt.Sprintf(form, with...) })
}

func (p *pair) fail(what string, with ...any) {
	p.t.Helper()
	behind := ""
	for _, h := range p.history[max(0, len(p.history)-150):] {
		behind += h() + "; "
	}
	p.t.Fatalf("%s\nat %d, lives %v, behind %s", fmt.Sprintf(what, with...), p.now, p.lives, behind)
}

// newLife lets a side forget all, and begin a greater life.
func (p *pair) newLife(s int) {
	p.lives[s]++
	l, e := New(s, 1-s, p.lives[s])
	if e != api.OK {
		p.fail("New: error %d", int(e))
	}
	p.ends[s] = l
	p.tell("%d lives anew", s)
}

// key is the session in which a side sends, as it knows it.
func (p *pair) key(from, note int) session {
	k := session{from: from, note: note}
	k.lives[from], k.lives[1-from] = p.lives[from], p.ends[from].Peer()
	return k
}

// waiting are the notes that are on their way from a side.
func (p *pair) waiting(s int) []int { return p.waitingOf(p.ends[s], s) }

func (p *pair) waitingOf(l *Link, s int) []int {
	var all []int
	for i := range notesEach {
		if l.Waits(p.note(s, i)) {
			all = append(all, i)
		}
	}
	return all
}

// send sends notes, and counts each that is new on its way.
func (p *pair) send(s int, list ...int) {
	p.t.Helper()
	was := p.waiting(s)
	var notes []api.Note
	for _, i := range list {
		notes = append(notes, p.note(s, i))
	}
	e := p.ends[s].Send(p.now, notes...)
	p.tell("%d sends %v", s, list)
	for _, i := range p.waiting(s) {
		if !slices.Contains(was, i) {
			p.pushed[p.key(s, i)]++
		}
	}
	if e != api.OK && (e != api.ErrOutbox || len(was) != p.ends[s].Waiting()) {
		p.fail("Send by %d of %v: error %d", s, list, int(e))
	}
}

// tick brings a side's frames on their way.
func (p *pair) tick(s int) []api.Frame {
	frames := p.ends[s].Tick(p.now)
	p.way[1-s] = append(p.way[1-s], frames...)
	p.was[1-s] = append(p.was[1-s], frames...)
	p.tell("%d tells %d", s, len(frames))
	return frames
}

// take hands a frame to a side, and holds what comes of it against what was pushed.
func (p *pair) take(s int, f api.Frame) {
	p.t.Helper()
	was := *p.ends[s]
	n, fresh, e := p.ends[s].Take(f, p.now)
	p.tell("%d takes %d/%d %d/%d: %v %d", s, f.Epoch, f.Seq, f.AckEpoch, f.Ack, fresh, int(e))
	if p.ends[s].Peer() < was.Peer() || fresh && e != api.OK || e != api.OK && e != api.ErrEpoch {
		p.fail("Take: error %d", int(e))
	}
	p.holdAnswered(s, &was)
	if !fresh {
		if !sameNotes(n, api.Note{}) {
			p.fail("what is not fresh has a note: %v", n)
		}
		return
	}
	for i := range notesEach {
		if sameNotes(n, p.note(1-s, i)) {
			k := session{from: 1 - s, note: i}
			k.lives[s], k.lives[1-s] = p.lives[s], f.Epoch
			p.handed[k]++
			if p.handed[k] > p.pushed[k] {
				p.fail("the note %d of %d was pushed %d times, and handed out %d times", i, 1-s, p.pushed[k], p.handed[k])
			}
			return
		}
	}
	p.fail("a note that nobody sent: %v", n)
}

// holdAnswered sees that what is on its way no more was taken, each push of it, in the session that the side knew; in a new one all of it is pushed.
func (p *pair) holdAnswered(s int, was *Link) {
	p.t.Helper()
	is := p.ends[s]
	if is.Peer() > was.Peer() {
		for _, i := range p.waiting(s) {
			p.pushed[p.key(s, i)]++
		}
		if is.Waiting() != was.Waiting() {
			p.fail("a life that %d did not know has answered", s)
		}
	}
	if is.Waiting() == was.Waiting() {
		return
	}
	for _, i := range p.waitingOf(was, s) {
		if k := p.key(s, i); !is.Waits(p.note(s, i)) && (p.handed[k] == 0 || p.handed[k] != p.pushed[k]) {
			p.fail("the note %d of %d is answered, but was handed out %d times, and pushed %d times", i, s, p.handed[k], p.pushed[k])
		}
	}
}

// deliver takes one frame off the way, or leaves it there as well.
func (p *pair) deliver(s, at int, stays bool) {
	p.t.Helper()
	f := p.way[s][at]
	if !stays {
		p.way[s] = slices.Delete(p.way[s], at, at+1)
	}
	p.take(s, f)
}

// shapes are the ways in which the frames of a round may come through.
var shapes = []string{"one side behind the other", "both at once", "the last frame first", "the late ones ahead", "the late ones behind", "each twice"}

// round lets each frame come through, in one of the shapes.
func (p *pair) round(shape int) {
	p.t.Helper()
	p.now++
	p.way = [2][]api.Frame{}
	late := func() {
		for s := range p.ends {
			for _, f := range p.was[s][max(0, len(p.was[s])-15):] {
				p.take(s, f)
			}
		}
	}
	if shape == 3 {
		late()
	}
	for s := range p.ends {
		p.tick(s)
		if shape == 0 {
			p.arrive(1-s, shape)
		}
	}
	p.arrive(0, shape)
	p.arrive(1, shape)
	if shape == 4 {
		late()
	}
}

// arrive hands all that is on the way to a side.
func (p *pair) arrive(s, shape int) {
	p.t.Helper()
	frames := p.way[s]
	p.way[s] = nil
	if shape == 2 {
		slices.Reverse(frames)
	}
	for _, f := range frames {
		p.take(s, f)
		if shape == 5 {
			p.take(s, f)
		}
	}
}

// quiet tells whether nothing is on its way at either side.
func (p *pair) quiet() bool { return p.ends[0].Waiting()+p.ends[1].Waiting() == 0 }

// goWell lets 40 rounds go well, and sees that each note was taken and answered then; in how many rounds.
func (p *pair) goWell(shape int) int {
	p.t.Helper()
	p.tell("all goes well")
	needed := 0
	for round := 0; round < 40 && round < needed+4; round++ {
		p.round(shape)
		if !p.quiet() {
			needed = round + 2
		}
	}
	if !p.quiet() {
		p.fail("behind 40 rounds, %s, %v and %v wait", shapes[shape], p.waiting(0), p.waiting(1))
	}
	// What is answered in a session was taken in it: each push once.
	for k, count := range p.pushed {
		if k.lives == p.lives && p.handed[k] != count {
			p.fail("of the note %d of %d, %d were pushed, and %d handed out", k.note, k.from, count, p.handed[k])
		}
	}
	return needed
}

// stir does one thing by chance: sends, ticks, brings frames through, early, late, twice, or loses them.
func (p *pair) stir(r *rand.Rand, newLives bool) {
	p.t.Helper()
	s := r.Intn(2)
	switch n := r.Intn(40); {
	case n < 8:
		list := []int{r.Intn(notesEach)}
		for r.Intn(2) == 0 {
			list = append(list, r.Intn(notesEach))
		}
		p.send(s, list...)
	case n < 20:
		p.tick(s)
		p.now += r.Intn(4)
	case n < 34 && len(p.way[s]) > 0:
		at := r.Intn(len(p.way[s]))
		switch {
		case r.Intn(3) == 0:
			p.way[s] = slices.Delete(p.way[s], at, at+1)
		default:
			p.deliver(s, at, r.Intn(4) == 0)
		}
	case n < 38 && len(p.was[s]) > 0:
		p.take(s, p.was[s][r.Intn(len(p.was[s]))])
	case n == 39 && newLives && r.Intn(4) == 0:
		p.newLife(s)
	}
}

// TestLossesByChance: P20.6, P20.7, frames that are lost, doubled, late and in another order, and new lives; then all goes well, again and again.
func TestLossesByChance(t *testing.T) {
	worst, handed := 0, 0
	for seed := range int64(600) {
		r := rand.New(rand.NewSource(seed))
		p := newPair(t, 1+r.Intn(3), 1+r.Intn(3))
		for turn := range 3 {
			for range 40 + r.Intn(160) {
				p.stir(r, seed%2 == 0)
			}
			switch r.Intn(5) {
			case 0:
				p.newLife(0)
			case 1:
				p.newLife(1)
			case 2:
				p.newLife(0)
				p.newLife(1)
			}
			worst = max(worst, p.goWell((int(seed)+turn)%len(shapes)))
		}
		for _, count := range p.handed {
			handed += count
		}
	}
	if handed < 10000 || worst < 5 {
		t.Errorf("%d notes handed out, %d rounds at most: that tries little", handed, worst)
	}
}

// TestEachLoss: P20.6, P20.7, each of the first eight frames comes through, is lost, or comes twice and late.
func TestEachLoss(t *testing.T) {
	const frames = 8
	fates := 1
	for range frames {
		fates *= 3
	}
	for fate := range fates {
		p := newPair(t, 5, 7)
		p.send(0, 0, 1)
		p.send(1, 0)
		left := fate
		for count := 0; count < frames; p.now++ {
			for s := range p.ends {
				for _, f := range p.tick(s) {
					switch left % 3 {
					case 0:
						p.take(1-s, f)
					case 2:
						p.take(1-s, f)
						p.way[1-s] = append(p.way[1-s], f)
					}
					left /= 3
					count++
				}
			}
			if p.now > 200 {
				break
			}
			if p.now == 3 {
				p.send(0, 2, 0)
			}
		}
		p.goWell(fate % len(shapes))
	}
}

// TestNewLives: P20.7, each side with no note to twelve on its way, known to the other or not, behind a new life of one side or both.
func TestNewLives(t *testing.T) {
	for bits := range 64 {
		for _, counts := range [][2]int{{0, 0}, {1, 0}, {0, 1}, {12, 0}, {0, 12}, {3, 5}, {12, 12}} {
			p := newPair(t, 5, 7)
			if bits&1 > 0 {
				p.goWell(0)
			}
			if bits&2 > 0 {
				p.send(0, 15, 16)
				p.send(1, 17)
				p.round(1)
				p.round(1)
			}
			for s, count := range counts {
				for i := range count {
					p.send(s, i)
				}
			}
			for range bits >> 2 & 3 { // sent and lost, so that the notes are due later
				p.tick(0)
				p.tick(1)
				p.now += 8
			}
			for s := range p.ends {
				if bits>>(4+s)&1 > 0 {
					p.newLife(s)
				}
			}
			p.goWell(bits % len(shapes))
		}
	}
}

// TestOneWay: P20.7, where only one side has notes, and the other one answers alone.
func TestOneWay(t *testing.T) {
	for shape := range shapes {
		p := newPair(t, 1, 1)
		for turn := range 30 {
			var list []int
			for i := range 12 {
				list = append(list, (turn*5+i)%notesEach)
			}
			p.send(turn%2, list...)
			p.send(turn%2, list...)
			if p.ends[turn%2].Waiting() != 12 {
				p.fail("%d wait", p.ends[turn%2].Waiting())
			}
			p.goWell(shape)
		}
		if p.handed[session{0, p.lives, 7}] < 5 {
			p.fail("%v", p.handed)
		}
	}
}

// TestTakenAgainWhenPushedAgain: P20.6, a note that was answered and is pushed again is handed out again, and each of its frames once.
func TestTakenAgainWhenPushedAgain(t *testing.T) {
	p := newPair(t, 5, 7)
	for turn := range 20 {
		p.send(0, 3)
		p.send(0, 3)
		p.goWell(turn % len(shapes))
		for _, f := range p.was[1] {
			p.take(1, f)
		}
		if got := p.handed[session{0, p.lives, 3}]; got != turn+1 {
			t.Fatalf("pushed %d times, handed out %d times", turn+1, got)
		}
	}
}

// TestLateFramesOfEarlierLives: P20.4, P20.6, all frames of earlier lives, in any order, hand out nothing in later ones.
func TestLateFramesOfEarlierLives(t *testing.T) {
	r := rand.New(rand.NewSource(206))
	p := newPair(t, 1, 1)
	for life := range 30 {
		p.send(0, r.Intn(notesEach), r.Intn(notesEach))
		p.send(1, r.Intn(notesEach))
		p.goWell(life % len(shapes))
		p.newLife(life % 2)
		p.goWell(life % len(shapes))
		before := len(p.handed)
		for s := range p.ends {
			late := slices.Clone(p.was[s])
			r.Shuffle(len(late), func(i, k int) { late[i], late[k] = late[k], late[i] })
			for _, f := range late {
				p.take(s, f)
			}
		}
		if len(p.handed) != before {
			p.fail("late frames handed out notes")
		}
	}
}
