package record

import (
	"entente/api"
	"entente/def"
	"entente/ident"
	"entente/pack"
)

// reader takes what bytes say, one part behind the other. Of what can't be taken it answers an empty part, and stays: it reads the only record whose bytes these could be, and does not tell whether they are.
type reader struct {
	laid string
	at   int
}

// pass goes on to a place behind, if what stands ahead of it was taken without an error.
func (r *reader) pass(to int, e api.Errno) {
	if e == api.OK {
		r.at = to
	}
}

// number takes a number. One that an int has no room for wraps round: what comes of it may not be, or has other bytes.
func (r *reader) number() int {
	n, to, e := pack.TakeNumber(r.laid, r.at)
	r.pass(to, e)
	return int(n)
}

func (r *reader) amount() int64 {
	n, to, e := pack.TakeSigned(r.laid, r.at)
	r.pass(to, e)
	return n
}

func (r *reader) text() string {
	s, to, e := pack.TakeText(r.laid, r.at)
	r.pass(to, e)
	return s
}

func (r *reader) id() api.Id {
	id, _ := ident.Parse(r.text())
	return id
}

func (r *reader) def() api.Def {
	d, _ := def.Text(r.text())
	return d
}

// move takes the fields in the order in which they are laid.
func (r *reader) move() (m api.Move) {
	m.Kind = r.number()
	m.Id = r.id()
	m.Step = r.number()
	m.Why = r.number()
	m.Def = r.def()
	return m
}

func (r *reader) record() (x api.Record) {
	x.Kind = r.number()
	switch x.Kind {
	case api.RecMove:
		x.Move = r.move()
	case api.RecOpen:
		x.Name = r.text()
		x.Amount = r.amount()
	case api.RecDef:
		x.Def = r.def()
	case api.RecImage:
		x.Text = r.text()
	}
	return x
}
