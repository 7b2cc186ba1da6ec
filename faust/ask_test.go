package faust_test

import (
	"math"
	"strings"
	"testing"
	"unsafe"

	"affidavit/api"
	"affidavit/faust"
	"affidavit/msg"
	"affidavit/ring"
)

// The chapter's example, of each client of each group.
func TestExample(t *testing.T) {
	for clients := 2; clients <= 8; clients++ {
		for me := range clients {
			for _, asker := range others(clients, me) {
				g := groupOf(t, clients)
				p := begin(t, g, me)
				if l, e := p.opens(ofProbe(asker)); len(l) != 0 || e != api.OK {
					t.Fatalf("%+v, %d", l, int(e))
				}
				p.does(write, me, "v", "")
				l, e := p.opens(ofProbe(asker))
				if len(l) != 1 || e != api.OK || l[0].To != asker || !msg.Same(l[0].M, g.ofVersion(me, by(me))) {
					t.Fatalf("%+v, %d", l, int(e))
				}
			}
		}
	}
}

// P18.1: a nil ring, clients that there are, and such as there are not.
func TestNew(t *testing.T) {
	for clients := 2; clients <= 8; clients++ {
		g := groupOf(t, clients)
		for me := range clients {
			p := begin(t, g, me)
			if p.w.Halted() || p.w.Dummy() || p.w.Bytes() != "0;0;0:-1;0:0:0:0;" {
				t.Fatalf("a new one: %v, %v, %q", p.w.Halted(), p.w.Dummy(), p.w.Bytes())
			}
		}
		for _, me := range nobodies(clients) {
			if w, e := faust.New(g.ring, me); w != nil || e != api.ErrArg {
				t.Errorf("of %d clients %d: %v, %d", clients, me, w, int(e))
			}
		}
		if g.ring.Len() != 0 {
			t.Errorf("%d were tagged", g.ring.Len())
		}
	}
	// A ring of one client, or of nine, is nil.
	for _, clients := range []int{1, 9} {
		r, _ := ring.New("the seed", clients)
		for _, me := range append(nobodies(2), 0, 1) {
			if w, e := faust.New(r, me); w != nil || e != api.ErrNil {
				t.Errorf("%d of a nil ring: %v, %d", me, w, int(e))
			}
		}
	}
	for _, me := range append(nobodies(2), 0, 1) {
		// Such a ring has no clients.
		if w, e := faust.New(&ring.Ring{}, me); w != nil || e != api.ErrArg {
			t.Errorf("%d of a ring that no call made: %v, %d", me, w, int(e))
		}
	}
}

// P18.2: a Write and a Read, to the server, field by field.
func TestAsk(t *testing.T) {
	g := groupOf(t, 3)
	w, _ := faust.New(g.ring, 2)
	l, e := w.Ask(write, 2, "one")
	want := api.Msg{Kind: isSubmit, Client: 2, Submit: g.submit(2, 1, write, 2, "one")}
	if e != api.OK || len(l) != 1 || l[0].To != -1 || !msg.Same(l[0].M, want) {
		t.Fatalf("%+v, %d", l, int(e))
	}
	if !w.Reg().Busy() || w.Reg().Value() != "one" || w.Dummy() || w.Halted() {
		t.Fatal(w.Bytes())
	}
	if _, _, e := w.Server(ofReply(api.Reply{Number: 1, Last: -1})); e != api.OK {
		t.Fatal(int(e))
	}
	l, e = w.Ask(read, 0, "two")
	want = api.Msg{Kind: isSubmit, Client: 2, Submit: g.submit(2, 2, read, 0, "one")}
	if e != api.OK || len(l) != 1 || l[0].To != -1 || !msg.Same(l[0].M, want) || w.Dummy() {
		t.Fatalf("%+v, %d", l, int(e))
	}
}

// P18.2: what ustor refuses, in its order; one that waits refuses all, one that has given the alarm refuses them ahead of that.
func TestAskErrors(t *testing.T) {
	long := strings.Repeat("v", maxValue+1)
	for _, clients := range []int{2, 3, 8} {
		g := groupOf(t, clients)
		for me := range clients {
			other := (me + 1) % clients
			wrong := func(p *pair, e, full api.Errno) {
				t.Helper()
				for _, kind := range []int{0, 3, -1, 1<<32 + write, math.MinInt, math.MaxInt} {
					p.refused(kind, me, "v", e)
				}
				for _, target := range nobodies(clients) {
					p.refused(write, target, "v", e)
					p.refused(read, target, "v", e)
				}
				p.refused(write, other, "v", e)
				p.refused(write, me, long, e)
				p.refused(read, other, long, e)
				if full != api.OK {
					p.refused(write, me, "v", full)
					p.refused(read, other, "", full)
				}
			}
			p := begin(t, g, me)
			wrong(p, api.ErrArg, api.OK)
			p.refused(write, me, strings.Repeat("v", maxValue), api.OK)
			wrong(p, api.ErrBusy, api.ErrBusy)
			p.alarms()
			wrong(p, api.ErrHalt, api.ErrHalt)
			p = behind(t, g, me, historyOf(clients, me, most), "held")
			wrong(p, api.ErrArg, api.ErrFull)
			p.alarms()
			wrong(p, api.ErrHalt, api.ErrHalt)
			p = behind(t, g, me, historyOf(clients, me, most-1), "held")
			p.refused(read, other, "", api.OK)
		}
	}
}

// P18.2: the prober is told of what was asked for, and of nothing else.
func TestAskTellsProber(t *testing.T) {
	for at := range 20 {
		for _, asks := range []bool{false, true} {
			p := begin(t, groupOf(t, 3), 0)
			p.passes(at, false)
			if p.w.Reg().Busy() {
				p.believes(p.truth(""))
			}
			if asks {
				p.does(write, 0, "v", p.view)
			} else {
				p.refused(write, 1, "v", api.ErrArg)
			}
			// A read that is due goes out at the tick at which it is.
			p.passes(2*idle, false)
		}
	}
	p := begin(t, groupOf(t, 2), 0)
	p.passes(3, false)
	p.does(write, 0, "v", "")
	p.passes(6, false)
	if p.w.Dummy() {
		t.Fatal("a dummy, six ticks behind an operation")
	}
	p.passes(1, false)
	if !p.w.Dummy() {
		t.Fatal("no dummy, seven ticks behind an operation")
	}
}

// P18.2: Again ahead of any operation, with one that waits alone, with a commit alone, with both, behind the alarm.
func TestAgain(t *testing.T) {
	for clients := 2; clients <= 8; clients++ {
		for me := range clients {
			g := groupOf(t, clients)
			p := begin(t, g, me)
			repeats := func(want ...api.Msg) {
				t.Helper()
				for range 2 {
					l := p.repeats()
					if len(l) != len(want) {
						t.Fatalf("%d: %+v", len(want), l)
					}
					for i, m := range want {
						if l[i].To != -1 || !msg.Same(l[i].M, m) {
							t.Fatalf("%+v, and not %+v", l[i], m)
						}
					}
				}
			}
			repeats()
			p.refused(write, me, "v", api.OK)
			first := api.Msg{Kind: isSubmit, Client: me, Submit: p.x}
			repeats(first)
			p.crashes()
			repeats(first)
			p.believes(p.truth(""))
			repeats(g.ofCommit(me, by(me)))
			p.crashes()
			repeats(g.ofCommit(me, by(me)))
			p.passes(idle, false)
			if !p.w.Dummy() {
				t.Fatal("no dummy")
			}
			second := api.Msg{Kind: isSubmit, Client: me, Submit: p.x}
			repeats(g.ofCommit(me, by(me)), second)
			p.crashes()
			repeats(g.ofCommit(me, by(me)), second)
			p.alarms()
			repeats()
			p.crashes()
			repeats()
		}
	}
}

// P18.2, P18.6: behind the alarm Again tells nothing, whatever there would be to tell.
func TestAgainHalted(t *testing.T) {
	g := groupOf(t, 2)
	for _, p := range []*pair{begin(t, g, 0), behind(t, g, 0, "\x01\x00", "v")} {
		p.alarms()
		if l := p.repeats(); len(l) != 0 {
			t.Errorf("%+v", l)
		}
	}
}

// R1: every call of nil, and of one that no call made, which is taken for it.
func TestNil(t *testing.T) {
	g := groupOf(t, 2)
	for what, w := range map[string]*faust.Watcher{"nil": nil, "one that no call made": {}} {
		for _, kind := range []int{write, read, 0} {
			for _, target := range []int{0, 1, -1, math.MaxInt} {
				for _, value := range []string{"", "v", strings.Repeat("v", maxValue+1)} {
					if l, e := w.Ask(kind, target, value); e != api.ErrNil || len(l) != 0 {
						t.Errorf("Ask of %s: %+v, %d", what, l, int(e))
					}
				}
			}
		}
		messages := append(wrongMessages(), g.otherKinds(1)...)
		messages = append(messages, ofReply(api.Reply{Number: 1, Last: -1}), ofProbe(1), g.ofAlarm(1), g.ofVersion(1, "\x01"))
		for _, m := range messages {
			if got, l, e := w.Server(m); e != api.ErrNil || len(l) != 0 || got != (api.Got{}) {
				t.Errorf("Server of %s: %+v, %+v, %d", what, got, l, int(e))
			}
			if l, e := w.Offline(m); e != api.ErrNil || len(l) != 0 {
				t.Errorf("Offline of %s: %+v, %d", what, l, int(e))
			}
		}
		for range 10 {
			if l := append(w.Tick(false), w.Tick(true)...); len(l) != 0 {
				t.Errorf("Tick of %s: %+v", what, l)
			}
		}
		if l := append(w.Alarm(), w.Again()...); len(l) != 0 {
			t.Errorf("%s: %+v", what, l)
		}
		if w.Reg() != nil || w.Known() != nil || w.Halted() || w.Dummy() || w.Bytes() != "" {
			t.Errorf("%s: %v, %v, %v, %v, %q", what, w.Reg(), w.Known(), w.Halted(), w.Dummy(), w.Bytes())
		}
	}
}

// P18.6: Reg and Known are its own, the same ones at each time.
func TestLooks(t *testing.T) {
	g := groupOf(t, 2)
	p := begin(t, g, 1)
	reg, known := p.w.Reg(), p.w.Known()
	p.does(write, 1, "v", "")
	p.opens(g.ofVersion(0, "\x01\x00"))
	if p.w.Reg() != reg || p.w.Known() != known || reg.View() != "\x01" || reg.Value() != "v" || known.Word(0) != "\x01\x00" {
		t.Errorf("%q, %q, %q", reg.View(), reg.Value(), known.Word(0))
	}
	p.alarms()
	if p.w.Reg() != reg || p.w.Known() != known {
		t.Error("others, behind the alarm")
	}
}

// R3: what is handed in is not kept, and a list that was answered is nobody else's.
func TestNotKept(t *testing.T) {
	g := groupOf(t, 2)
	p := begin(t, g, 0)
	b := []byte("a value")
	l, e := p.w.Ask(write, 0, unsafe.String(&b[0], len(b)))
	p.ask(write, 0, "a value")
	copy(b, "another")
	if e != api.OK || l[0].M.Submit.Value != "a value" {
		t.Errorf("%+v, %d", l, int(e))
	}
	p.same()
	p.believes(p.truth(""))

	m := g.ofVersion(1, "\x00\x01\x01")
	b = []byte(m.View)
	m.View = unsafe.String(&b[0], len(b))
	_, e = p.w.Offline(m)
	p.offline(g.ofVersion(1, "\x00\x01\x01"))
	copy(b, "\x07\x07\x07")
	if e != api.OK {
		t.Error(int(e))
	}
	p.same()

	s := p.w.Bytes()
	b = []byte(s)
	w, e := faust.Read(g.ring, 0, unsafe.String(&b[0], len(b)))
	for i := range b {
		b[i] = 'x'
	}
	if e != api.OK || w.Bytes() != s {
		t.Errorf("%q, and not %q", w.Bytes(), s)
	}

	for range 2 {
		for _, l := range [][]api.Send{p.repeats(), p.alarms(), p.ticks(false)} {
			for i := range l {
				l[i] = api.Send{To: 77}
			}
		}
	}
	l, _ = p.opens(ofProbe(1))
	l[0].To = 77
	p.opens(ofProbe(1))
	p.same()
}

// P18.2: whoever asks has what is asked tagged, by itself and by nobody else.
func TestBook(t *testing.T) {
	g := groupOf(t, 3)
	w, _ := faust.New(g.ring, 1)
	w.Ask(write, 1, "v")
	if g.ring.Len() != 2 || !g.ring.Made(1, domAsked, "1;1;1;1;") || !g.ring.Made(1, domData, "1;1:v") {
		t.Errorf("%d in the book", g.ring.Len())
	}
	w.Server(ofReply(api.Reply{Number: 1, Last: -1}))
	if g.ring.Len() != 3 || !g.ring.Made(1, domView, "\x01") {
		t.Errorf("%d in the book", g.ring.Len())
	}
	w.Offline(ofProbe(0))
	if g.ring.Len() != 4 || !g.ring.Made(1, domVersion, "1;1:\x01") {
		t.Errorf("%d in the book", g.ring.Len())
	}
	w.Offline(g.ofVersion(0, "\x01\x00"))
	if g.ring.Len() != 4 {
		t.Errorf("%d in the book", g.ring.Len())
	}
	w.Alarm()
	if g.ring.Len() != 5 || !g.ring.Made(1, domAlarm, "") {
		t.Errorf("%d in the book", g.ring.Len())
	}
}
