package faust

import (
	"affidavit/api"
	"affidavit/lay"
	"affidavit/mac"
	"affidavit/ring"
	"affidavit/ustor"
)

// What the first two numbers of a watcher's bytes say.
const (
	no  = 0
	yes = 1
)

// state is what a watcher's bytes say, right or not: reg is ustor's bytes.
type state struct {
	halted, dummy int
	view          string
	by            int
	tag, reg      string
}

// judge tells whether a tag is a client's, in a domain, of a text.
type judge func(client, domain int, text string, tag api.Digest) bool

// Bytes lays a watcher.
func (w *Watcher) Bytes() string {
	if !w.made() {
		return ""
	}
	view, by, digest := w.known.Longest()
	tag := mac.Bytes(digest)
	if w.halted || by == nobody {
		view, by, tag = "", nobody, ""
	}
	return lay.Number(flag(w.halted)) + lay.Number(flag(w.Dummy())) + layText(view) + lay.Number(by) + layText(tag) + w.reg.Bytes()
}

// Read reads a watcher.
func Read(r *ring.Ring, me int, s string) (*Watcher, api.Errno) {
	if _, e := New(r, me); e != api.OK {
		return nil, e
	}
	l, e := readState(s)
	if e != api.OK {
		return nil, e
	}
	// It is tried with other keys at first: bytes that are refused would leave tags in the ring's book.
	other, e := ring.New("", r.Clients())
	if e != api.OK {
		return nil, e
	}
	if _, e := l.watcher(other, me, r.Check); e != api.OK {
		return nil, e
	}
	return l.watcher(r, me, r.Check)
}

// watcher makes the watcher of which the bytes are, with a ring; the tag in them is judged.
func (l state) watcher(r *ring.Ring, me int, right judge) (*Watcher, api.Errno) {
	w, e := New(r, me)
	if e != api.OK {
		return nil, e
	}
	if w.reg, e = ustor.Read(r, me, l.reg); e != api.OK {
		return nil, e
	}
	w.halted = l.halted == yes
	if l.dummy == yes {
		w.dummy = w.reg.Number() + 1
	}
	longest, is := l.longest(right)
	if !is || l.dummy == yes && !w.readsAnother() || !w.recalls(longest) {
		return nil, api.ErrForm
	}
	return w, api.OK
}

// longest is the longest view that the bytes say, an empty one, if there is none; false: they say what it can't be.
func (l state) longest(right judge) (version, bool) {
	if l.view == "" {
		return version{}, l.by == nobody && l.tag == ""
	}
	tag, e := mac.Digest(l.tag)
	return version{l.by, l.view, tag}, e == api.OK && right(l.by, api.DCommit, l.view, tag)
}

// readsAnother tells whether it waits for a read of another one's register.
func (w *Watcher) readsAnother() bool {
	m, waits := w.reg.Again()
	return waits && m.Submit.Kind == api.Read && m.Submit.Target != w.me
}

// recalls learns the own view, and what the bytes say is the longest one, and tells whether it is. Whoever has given the alarm has laid none.
func (w *Watcher) recalls(v version) bool {
	if w.learn(w.own(), v) != api.OK {
		return false
	}
	if w.halted {
		return v.view == ""
	}
	longest, _, _ := w.known.Longest()
	return longest == v.view
}

// readState reads what bytes say, up to ustor's.
func readState(s string) (state, api.Errno) {
	var l state
	at, e := 0, api.OK
	number := func(x *int) {
		if e == api.OK {
			*x, at, e = lay.ReadNumber(s, at)
		}
	}
	text := func(x *string) {
		if e == api.OK {
			*x, at, e = lay.ReadText(s, at)
		}
	}
	number(&l.halted)
	number(&l.dummy)
	text(&l.view)
	number(&l.by)
	text(&l.tag)
	if e != api.OK {
		return state{}, e
	}
	if !isFlag(l.halted) || !isFlag(l.dummy) {
		return state{}, api.ErrForm
	}
	l.reg = s[at:]
	return l, api.OK
}

// flag is a number that says yes or no.
func flag(is bool) int {
	if is {
		return yes
	}
	return no
}

func isFlag(n int) bool { return n == no || n == yes }

// layText lays a view or a tag, which is never too long for lay.
func layText(s string) string {
	laid, _ := lay.Text(s)
	return laid
}
