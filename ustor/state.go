package ustor

import (
	"affidavit/api"
	"affidavit/hist"
	"affidavit/lay"
	"affidavit/ring"
)

// What stands behind the value in a state's bytes.
const (
	idle    = 0 // nothing is waited for
	waiting = 1 // the Submit stands behind it
)

// state is what a client's bytes say, right or not.
type state struct {
	view, value string
	waits       int
	asked       api.Submit
}

// field reads one field of a text, from a place on, and tells the place behind it.
type field func(s string, at int) (int, api.Errno)

// Bytes lays a client.
func (g *Reg) Bytes() string {
	if !g.made() {
		return ""
	}
	laid := layText(g.view) + layText(g.value)
	if !g.Busy() {
		return laid + lay.Number(idle)
	}
	// Without its tags: they can be made anew.
	x := g.asked
	return laid + lay.Number(waiting) + lay.Number(x.Number) + lay.Number(x.Kind) + lay.Number(x.Target) + layText(x.Value)
}

// Read reads a client.
func Read(r *ring.Ring, me int, s string) (*Reg, api.Errno) {
	g, e := New(r, me)
	if e != api.OK {
		return nil, e
	}
	l, e := readState(s)
	if e != api.OK {
		return nil, e
	}
	g.view, g.value = l.view, l.value
	if !g.right() {
		return nil, api.ErrForm
	}
	if l.waits == waiting {
		if !g.mayWait(l.asked) {
			return nil, api.ErrForm
		}
		// Nothing is tagged ahead of this: bytes that are refused would leave it in the ring's book.
		g.asked = g.next(l.asked.Kind, l.asked.Target)
	}
	return g, api.OK
}

// readState reads what bytes say.
func readState(s string) (state, api.Errno) {
	var l state
	read := readerOf(s)
	left, e := read(text(&l.view), text(&l.value), number(&l.waits))
	if e == api.OK && l.waits == waiting {
		x := &l.asked
		left, e = read(number(&x.Number), number(&x.Kind), number(&x.Target), text(&x.Value))
	}
	if e != api.OK {
		return state{}, e
	}
	if l.waits != idle && l.waits != waiting || left > 0 {
		return state{}, api.ErrForm
	}
	return l, api.OK
}

// readerOf makes the function that reads fields of a text, from where it stopped the last time on, up to the first one's error; and that tells how many bytes are left.
func readerOf(s string) func(l ...field) (int, api.Errno) {
	at := 0
	return func(l ...field) (int, api.Errno) {
		for _, f := range l {
			next, e := f(s, at)
			if e != api.OK {
				return 0, e
			}
			at = next
		}
		return len(s) - at, api.OK
	}
}

// text is a field that is a text, and is put down where it is wanted.
func text(x *string) field {
	return func(s string, at int) (int, api.Errno) {
		read, next, e := lay.ReadText(s, at)
		*x = read
		return next, e
	}
}

// number is a field that is a number.
func number(x *int) field {
	return func(s string, at int) (int, api.Errno) {
		read, next, e := lay.ReadNumber(s, at)
		*x = read
		return next, e
	}
}

// right tells whether a client may have this view, and hold this value.
func (g *Reg) right() bool {
	if !hist.Right(g.view, g.ring.Clients()) || len(g.value) > api.MaxValue {
		return false
	}
	return g.view == "" || int(g.view[len(g.view)-1]) == g.me
}

// mayWait tells whether a client may wait for this, its tags aside.
func (g *Reg) mayWait(x api.Submit) bool {
	return x.Number == g.Number()+1 && g.refuses(x.Kind, x.Target, x.Value) == api.OK && x.Value == g.value
}

// layText lays a view or a value, which is never too long for lay.
func layText(s string) string {
	laid, _ := lay.Text(s)
	return laid
}
