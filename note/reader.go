package note

import (
	"entente/api"
	"entente/ident"
	"entente/pack"
)

// place is how far a frame's body has been read.
type place struct {
	body  string
	at    int
	stuck bool // what comes next is not what must stand there: nothing is taken any more
}

// over tells whether all was taken, and nothing is left.
func (p *place) over() bool { return !p.stuck && p.at == len(p.body) }

// stay notes that what comes next does not fit.
func (p *place) stay() { p.stuck = true }

// pass goes on to a place behind, if what stands ahead of it was taken without an error.
func (p *place) pass(to int, e api.Errno) {
	if e != api.OK {
		p.stay()
		return
	}
	p.at = to
}

// text takes a text.
func (p *place) text() string {
	if p.stuck {
		return ""
	}
	s, to, e := pack.TakeText(p.body, p.at)
	p.pass(to, e)
	return s
}

// number takes a number. None above maxCount stands in a frame that may be, and an int need have no room for it.
func (p *place) number() int {
	if p.stuck {
		return 0
	}
	n, to, e := pack.TakeNumber(p.body, p.at)
	p.pass(to, e)
	if n > maxCount {
		p.stay()
		return 0
	}
	return int(n)
}

// reader is where it stands in a body, and the frame that it has read up to there.
type reader struct {
	place
	frame api.Frame
}

// read takes the frame: whether it may be, and whether something is left, is not told.
func (r *reader) read() {
	f := &r.frame
	take := r.taker()
	take(&f.From, &f.To, &f.Epoch, &f.Seq, &f.AckEpoch, &f.Ack)
	if f.Seq == 0 {
		return
	}
	take(&f.Note.Kind)
	f.Note.Id = r.id()
	f.Note.Def = r.text()
	take(&f.Note.Why)
}

// taker makes a function that takes the next numbers, each for the field that it is handed.
func (r *reader) taker() func(fields ...*int) {
	return func(fields ...*int) {
		for _, field := range fields {
			*field = r.number()
		}
	}
}

// id takes the text of an id.
func (r *reader) id() api.Id {
	id, e := ident.Parse(r.text())
	if e != api.OK {
		r.stay()
	}
	return id
}
