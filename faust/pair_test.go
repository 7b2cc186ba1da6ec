package faust_test

import (
	"fmt"
	"slices"
	"testing"

	"affidavit/api"
	"affidavit/faust"
)

// lookOf looks at a watcher.
func lookOf(w *faust.Watcher, clients int) look {
	g, k := w.Reg(), w.Known()
	l := look{halted: w.Halted(), dummy: w.Dummy(), busy: g.Busy(), bytes: w.Bytes(), reg: g.Bytes(), view: g.View(), value: g.Value()}
	l.number, l.cut, l.seen = g.Number(), k.Cut(), k.Seen()
	for client := range clients {
		l.words[client], l.owns[client] = k.Word(client), k.Own(client)
	}
	copy(l.stable[:], k.Stable())
	l.longest, l.by, l.tag = k.Longest()
	return l
}

// pair is a watcher, and the model that it is held against.
type pair struct {
	model
	t testing.TB
	w *faust.Watcher
}

// begin is a watcher that has done nothing.
func begin(t testing.TB, g group, me int) *pair {
	t.Helper()
	w, e := faust.New(g.ring, me)
	if e != api.OK || w == nil {
		t.Fatalf("New of %d: %d", me, int(e))
	}
	p := &pair{begins(g, me), t, w}
	p.same()
	return p
}

// behind is a watcher with a view, and what its register holds, which does not wait.
func behind(t testing.TB, g group, me int, view, value string) *pair {
	t.Helper()
	p := &pair{begins(g, me), t, nil}
	p.view, p.value, p.told = view, value, []told{{me, view}}
	w, e := faust.Read(g.ring, me, p.bytes())
	if e != api.OK || w == nil {
		t.Fatalf("Read of %.200q: %d", p.bytes(), int(e))
	}
	p.w = w
	p.same()
	return p
}

// same asks that the watcher is as the model.
func (p *pair) same() {
	p.t.Helper()
	if got, want := lookOf(p.w, p.clients), p.look(); got != want {
		p.t.Fatalf("%d of %d:\n%+v\nand not\n%+v", p.me, p.clients, got, want)
	}
}

// agrees asks that what was answered is what the model says, and that an error, other than the alarm's, left nothing in the ring's book.
func (p *pair) agrees(what string, tagged int, l, want []api.Send, e, wrong api.Errno) {
	p.t.Helper()
	got, right := textsOf(p.t, l), textsOf(p.t, want)
	if e != wrong || got != right {
		p.t.Fatalf("%d of %d with %.40q: %s: %d,\n%sand not %d,\n%s", p.me, p.clients, p.view, what, int(e), got, int(wrong), right)
	}
	if e != api.OK && len(want) == 0 && p.ring.Len() != tagged {
		p.t.Fatalf("%d of %d: %s: something was tagged beside the error %d", p.me, p.clients, what, int(e))
	}
	p.same()
}

// asks has it ask, and tells what it answered, which has to be what the model says.
func (p *pair) asks(kind, target int, value string) ([]api.Send, api.Errno) {
	p.t.Helper()
	tagged := p.ring.Len()
	l, e := p.w.Ask(kind, target, value)
	want, wrong := p.ask(kind, target, value)
	p.agrees(fmt.Sprintf("Ask of %d, %d, %d bytes", kind, target, len(value)), tagged, l, want, e, wrong)
	return l, e
}

// refused asks for an error of Ask.
func (p *pair) refused(kind, target int, value string, e api.Errno) {
	p.t.Helper()
	if _, is := p.asks(kind, target, value); is != e {
		p.t.Fatalf("%d of %d with %.40q: Ask of %d, %d, %d bytes: %d, and not %d", p.me, p.clients, p.view, kind, target, len(value), int(is), int(e))
	}
}

// spare is what stands in the room behind a list that is handed in.
var spare = api.Pending{Client: -77, Number: -78, Kind: -79}

// takes has it take what the server answers; what is handed in is not changed.
func (p *pair) takes(y api.Msg) (api.Got, []api.Send, api.Errno) {
	p.t.Helper()
	was := append(slices.Clone(y.Reply.Pending), spare, spare)
	pending, numbers := slices.Clone(was), slices.Clone(y.Numbers)
	y.Reply.Pending = pending[:len(pending)-2]
	tagged := p.ring.Len()
	got, l, e := p.w.Server(y)
	wantGot, want, wrong := p.server(y)
	what := fmt.Sprintf("Server of %+v", y)
	if got != wantGot {
		p.t.Fatalf("%d of %d with %.40q: %s:\n%+v, and not\n%+v", p.me, p.clients, p.view, what, got, wantGot)
	}
	if !slices.Equal(pending, was) || !slices.Equal(numbers, y.Numbers) {
		p.t.Fatalf("%s: what was handed in is changed: %+v", what, pending)
	}
	p.agrees(what, tagged, l, want, e, wrong)
	return got, l, e
}

// doubts asks for an error of Server, and whether the alarm is given.
func (p *pair) doubts(y api.Msg, e api.Errno, alarm bool) {
	p.t.Helper()
	was := p.w.Halted()
	if _, _, is := p.takes(y); is != e || p.w.Halted() != (was || alarm) {
		p.t.Fatalf("%d of %d with %.40q: Server of %+v: %d, %v, and not %d, %v", p.me, p.clients, p.view, y, int(is), p.w.Halted(), int(e), alarm)
	}
}

// opens has it take what another client tells.
func (p *pair) opens(y api.Msg) ([]api.Send, api.Errno) {
	p.t.Helper()
	numbers := slices.Clone(y.Numbers)
	tagged := p.ring.Len()
	l, e := p.w.Offline(y)
	want, wrong := p.offline(y)
	if !slices.Equal(numbers, y.Numbers) {
		p.t.Fatalf("Offline of %+v: what was handed in is changed", y)
	}
	p.agrees(fmt.Sprintf("Offline of %+v", y), tagged, l, want, e, wrong)
	return l, e
}

// rejects asks for an error of Offline, and whether the alarm is given.
func (p *pair) rejects(y api.Msg, e api.Errno, alarm bool) {
	p.t.Helper()
	was := p.w.Halted()
	if _, is := p.opens(y); is != e || p.w.Halted() != (was || alarm) {
		p.t.Fatalf("%d of %d with %.40q: Offline of %+v: %d, %v, and not %d, %v", p.me, p.clients, p.view, y, int(is), p.w.Halted(), int(e), alarm)
	}
}

// ticks lets a tick go by.
func (p *pair) ticks(busy bool) []api.Send {
	p.t.Helper()
	l := p.w.Tick(busy)
	p.agrees(fmt.Sprintf("Tick(%v), the tick %d", busy, p.now+1), 0, l, p.tick(busy), api.OK, api.OK)
	return l
}

// passes lets so many go by.
func (p *pair) passes(n int, busy bool) {
	p.t.Helper()
	for range n {
		p.ticks(busy)
	}
}

// alarms has it give the alarm.
func (p *pair) alarms() []api.Send {
	p.t.Helper()
	l := p.w.Alarm()
	p.agrees("Alarm", 0, l, p.gives(), api.OK, api.OK)
	return l
}

// repeats asks for what Again tells.
func (p *pair) repeats() []api.Send {
	p.t.Helper()
	l := p.w.Again()
	p.agrees("Again", 0, l, p.again(), api.OK, api.OK)
	return l
}

// truth is a reply to what is waited for that is to be believed.
func (p *pair) truth(long string, pending ...int) api.Reply {
	y := p.reply(p.me, p.x, long, pending...)
	if p.x.Kind == read && p.x.Target == p.me && y.ValueNumber > 0 {
		y.Value, y.Data = p.value, p.data(p.me, y.ValueNumber, p.value)
	}
	return y
}

// believes has it take a reply that is to be believed.
func (p *pair) believes(y api.Reply) api.Got {
	p.t.Helper()
	got, l, e := p.takes(ofReply(y))
	if e != api.OK || len(l) != 1 {
		p.t.Fatalf("%d with %.40q: %+v: %d", p.me, p.view, y, int(e))
	}
	return got
}

// does has it ask for something, and be answered the truth.
func (p *pair) does(kind, target int, value, long string, pending ...int) api.Got {
	p.t.Helper()
	p.refused(kind, target, value, api.OK)
	return p.believes(p.truth(long, pending...))
}

// crashes has it laid and read, and go on as what was read.
func (p *pair) crashes() {
	p.t.Helper()
	s := p.w.Bytes()
	w, e := faust.Read(p.ring, p.me, s)
	if e != api.OK || w == nil || w == p.w {
		p.t.Fatalf("%d: Read of %.200q: %d", p.me, s, int(e))
	}
	if w.Bytes() != s {
		p.t.Fatalf("%d: Read of %.200q: %.200q", p.me, s, w.Bytes())
	}
	p.same()
	p.w = w
	p.forgets()
	p.same()
}
