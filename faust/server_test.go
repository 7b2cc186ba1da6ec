package faust_test

import (
	"math"
	"strings"
	"testing"

	"affidavit/api"
	"affidavit/msg"
)

// stand is a watcher, 2 of 6, that has done two operations and waits for its third: others have gone on, and three operations are pending. The reply is the truth.
func stand(t testing.TB, kind, target int) (*pair, api.Reply) {
	t.Helper()
	g := groupOf(t, 6)
	view := "\x00\x02\x01\x02"
	p := behind(t, g, 2, view, "held")
	p.refused(kind, target, "new", api.OK)
	return p, p.truth(view+"\x01\x03\x01", 0, 3, 4)
}

// P18.3: a reply that is well: what was learned, and the commit, to the server. Its own view, the Long and Seen are known, each from whoever committed it.
func TestServer(t *testing.T) {
	for _, kind := range []int{write, read} {
		for target := range 6 {
			if kind == write && target != 2 {
				continue
			}
			p, y := stand(t, kind, target)
			got, l, e := p.takes(ofReply(y))
			long := "\x00\x02\x01\x02\x01\x03\x01"
			own := long + "\x00\x03\x04\x02"
			if e != api.OK || len(l) != 1 || l[0].To != -1 || !msg.Same(l[0].M, p.group.ofCommit(2, own)) {
				t.Fatalf("%+v, %d", l, int(e))
			}
			if got.View != own || got.By != 1 || got.Long != long || got.LongTag != p.done(1, long) {
				t.Fatalf("%+v", got)
			}
			k := p.w.Known()
			if k.Word(2) != own || k.Own(2) != own || k.Word(1) != long || k.Own(1) != long {
				t.Fatalf("%q, %q, %q, %q", k.Word(2), k.Own(2), k.Word(1), k.Own(1))
			}
			if view, who, tag := k.Longest(); view != own || who != 2 || tag != p.done(2, own) {
				t.Fatalf("%q, %d", view, who)
			}
			if kind == write {
				continue
			}
			seen := upto(long, target)
			if got.Seen != seen || target != 2 && k.Word(target) != seen || target != 2 && k.Own(target) != seen {
				t.Fatalf("of %d: %q, %q, %q", target, got.Seen, k.Word(target), k.Own(target))
			}
			for _, other := range []int{0, 3, 4, 5} {
				if other != target && k.Word(other) != "" {
					t.Fatalf("of %d: %d: %q", target, other, k.Word(other))
				}
			}
		}
	}
}

// P18.3: with no Long and no Seen, with one of them, with both.
func TestServerParts(t *testing.T) {
	for me := range 3 {
		a, b := (me+1)%3, (me+2)%3
		for _, c := range []struct {
			what         string
			kind, target int
			long         string
			pending      []int
		}{
			{"nothing at all", write, me, "", nil},
			{"a read of one that has done nothing", read, a, "", nil},
			{"a read of one whose first is pending", read, a, "", []int{b, a}},
			{"a Long alone, of a Write", write, me, by(a) + by(b), nil},
			{"a Long alone, of a read of one that has done nothing", read, b, by(a), nil},
			{"a Long alone, and the target's first is pending", read, b, by(a), []int{b}},
			{"both, the same", read, a, by(b) + by(a), nil},
			{"both, Seen the shorter one", read, a, by(a) + by(b), []int{a}},
		} {
			g := groupOf(t, 3)
			p := begin(t, g, me)
			got := p.does(c.kind, c.target, "", c.long, c.pending...)
			k := p.w.Known()
			word := func(client int) string {
				w := ""
				if c.long != "" && last(c.long) == client {
					w = c.long
				}
				if c.kind == read && c.target == client && len(upto(c.long, client)) > len(w) {
					w = upto(c.long, client)
				}
				return w
			}
			if k.Word(me) != got.View || k.Word(a) != word(a) || k.Word(b) != word(b) {
				t.Errorf("%s: %q, %q, %q", c.what, k.Word(me), k.Word(a), k.Word(b))
			}
		}
	}
}

// P18.3: whoever has given the alarm says so ahead of all else; a message that may not be, or is none of the server's, is an argument's error ahead of nobody's waiting; that ahead of the lie.
func TestServerOrder(t *testing.T) {
	g := groupOf(t, 2)
	truth := ofReply(api.Reply{Number: 1, Last: -1})
	lie := ofReply(api.Reply{Number: 1, Last: 1, View: "\x01", Commit: api.Digest{1}})
	another := ofReply(api.Reply{Number: 2, Last: 1, View: "\x01", Commit: api.Digest{1}})
	wrong := append(wrongMessages(), g.otherKinds(1)...)
	wrong = append(wrong, ofProbe(1), g.ofVersion(1, "\x01"), g.ofAlarm(1), ofProbe(0), g.ofAlarm(0))

	p := begin(t, g, 0)
	for _, m := range wrong {
		p.doubts(m, api.ErrArg, false)
	}
	for _, m := range []api.Msg{truth, lie, another} {
		p.doubts(m, api.ErrNone, false)
	}
	p.refused(write, 0, "v", api.OK)
	for _, m := range wrong {
		p.doubts(m, api.ErrArg, false)
	}
	p.doubts(another, api.ErrNone, false)
	p.crashes()
	p.doubts(another, api.ErrNone, false)
	p.believes(truth.Reply)
	for _, m := range []api.Msg{truth, lie, another} {
		p.doubts(m, api.ErrNone, false)
	}
	p.refused(read, 1, "", api.OK)
	p.doubts(lie, api.ErrNone, false)
	p.doubts(ofReply(api.Reply{Number: 2, Last: 1, View: "\x01", Commit: api.Digest{1}}), api.ErrTag, true)
	for _, m := range append(wrong, truth, lie, another) {
		p.doubts(m, api.ErrHalt, false)
	}
	p.crashes()
	for _, m := range append(wrong, truth, lie, another) {
		p.doubts(m, api.ErrHalt, false)
	}
}

// P18.3: Kinds and Clients that a reply has not.
func TestServerClients(t *testing.T) {
	for _, client := range append(nobodies(2), 1, 2, 7) {
		p := begin(t, groupOf(t, 2), 1)
		p.refused(write, 1, "v", api.OK)
		p.doubts(api.Msg{Kind: isReply, Client: client, Reply: api.Reply{Number: 1, Last: -1}}, api.ErrArg, false)
	}
	for _, n := range []int{0, -1, 2, 3, most, most + 1, math.MinInt, math.MaxInt, 1<<32 + 1} {
		p := begin(t, groupOf(t, 2), 1)
		p.refused(write, 1, "v", api.OK)
		e := api.ErrNone
		if n < 1 || n > most {
			e = api.ErrArg
		}
		p.doubts(ofReply(api.Reply{Number: n, Last: -1}), e, false)
		p.believes(api.Reply{Number: 1, Last: -1})
	}
}

// P18.3, P18.5: whatever layer 14 does not believe, but for another number, gives the alarm: the error stands beside the messages to all others. It still waits.
func TestServerLies(t *testing.T) {
	long := "\x00\x02\x01\x02\x01\x03\x01"
	for _, c := range []struct {
		what string
		e    api.Errno
		lie  func(p *pair, y *api.Reply)
	}{
		{"Last is no client of the ring", api.ErrArg, func(p *pair, y *api.Reply) { y.Last = 6 }},
		{"the View is none of the ring's clients", api.ErrArg, func(p *pair, y *api.Reply) { y.View = "\x00\x02\x01\x02\x06\x03\x01" }},
		{"a pending one is no client of the ring", api.ErrArg, func(p *pair, y *api.Reply) { y.Pending[1].Client = 7 }},
		{"a pending one's target is no client of the ring", api.ErrArg, func(p *pair, y *api.Reply) { y.Pending[1].Target = 6 }},
		{"the View does not end with Last", api.ErrFork, func(p *pair, y *api.Reply) { y.Last = 0 }},
		{"the tag of the View is another one", api.ErrTag, func(p *pair, y *api.Reply) { y.Commit[31] ^= 1 }},
		{"the View is not behind mine", api.ErrFork, func(p *pair, y *api.Reply) {
			y.View, y.Last, y.Pending = "\x00\x01\x02\x02\x01", 1, nil
			y.Commit = p.done(1, y.View)
		}},
		{"the View is of nobody", api.ErrFork, func(p *pair, y *api.Reply) { *y = api.Reply{Number: 3, Last: -1} }},
		{"the View is an old one", api.ErrFork, func(p *pair, y *api.Reply) {
			y.View, y.Last, y.Pending = "\x00\x02\x01", 1, nil
			y.Commit = p.done(1, y.View)
		}},
		{"the View has an operation of mine more", api.ErrFork, func(p *pair, y *api.Reply) {
			y.View, y.Last, y.Pending = "\x00\x02\x01\x02\x02\x01", 1, nil
			y.Commit = p.done(1, y.View)
		}},
		{"mine is pending", api.ErrFork, func(p *pair, y *api.Reply) { y.Pending[2].Client = 2 }},
		{"a pending one has another number", api.ErrFork, func(p *pair, y *api.Reply) { y.Pending[1].Number++ }},
		{"a pending one's tag is another one", api.ErrTag, func(p *pair, y *api.Reply) { y.Pending[0].Asked[0] ^= 128 }},
		{"a pending one's proof is another one", api.ErrTag, func(p *pair, y *api.Reply) { y.Pending[1].Proof = api.Digest{} }},
		{"another value's number", api.ErrFork, func(p *pair, y *api.Reply) { y.ValueNumber-- }},
		{"another value", api.ErrTag, func(p *pair, y *api.Reply) { y.Value += "!" }},
		{"the value's tag is another one", api.ErrTag, func(p *pair, y *api.Reply) { y.Data = api.Digest{} }},
		{"Seen is another one's", api.ErrFork, func(p *pair, y *api.Reply) { y.Seen = "\x00\x02" }},
		{"Seen is not of one line", api.ErrFork, func(p *pair, y *api.Reply) { y.Seen = "\x01\x03" }},
		{"Seen's tag is another one", api.ErrTag, func(p *pair, y *api.Reply) { y.SeenTag = y.Commit }},
		{"no Seen, of one that has done more than one", api.ErrFork, func(p *pair, y *api.Reply) { y.Seen, y.SeenTag = "", api.Digest{} }},
	} {
		p, y := stand(t, read, 3)
		y.Pending = append([]api.Pending(nil), y.Pending...)
		c.lie(p, &y)
		p.doubts(ofReply(y), c.e, true)
		if !p.w.Reg().Busy() || p.w.Reg().View() != "\x00\x02\x01\x02" || p.w.Known().Word(1) != "" {
			t.Errorf("%s: %q, %q", c.what, p.w.Reg().View(), p.w.Known().Word(1))
		}
		p, y = stand(t, read, 3)
		p.believes(y)
		if p.w.Known().Own(1) != long {
			t.Errorf("the truth: %q", p.w.Known().Own(1))
		}
	}
}

// P18.3: 512 operations and no room for mine: no honest server answers so, and the alarm is given. One fewer is the last one.
func TestServerFull(t *testing.T) {
	for _, size := range []int{most - 1, most} {
		g := groupOf(t, 3)
		p := behind(t, g, 0, "\x01\x00", "v")
		p.refused(write, 0, "w", api.OK)
		long := "\x01\x00" + strings.Repeat("\x01\x02", most)[:size-2]
		y := p.truth(long)
		if size < most {
			p.believes(y)
			continue
		}
		p.doubts(ofReply(y), api.ErrFull, true)
	}
}

// P18.3, P18.5: to whom the alarm goes, and in which order, of each group and each me; the reply is a lie, or does not fit what is known.
func TestServerAlarm(t *testing.T) {
	for clients := 2; clients <= 8; clients++ {
		for me := range clients {
			g := groupOf(t, clients)
			other := (me + 1) % clients
			for _, fork := range []bool{false, true} {
				p := begin(t, g, me)
				y, want := api.Reply{Number: 1, Last: -1}, api.ErrFork
				if fork {
					p.opens(g.ofVersion(other, by(other)))
				} else {
					y, want = api.Reply{Number: 1, Last: other, View: by(other)}, api.ErrTag
				}
				p.refused(write, me, "v", api.OK)
				_, l, e := p.takes(ofReply(y))
				if e != want || len(l) != clients-1 || !p.w.Halted() {
					t.Fatalf("%+v, %d", l, int(e))
				}
				for i, client := range others(clients, me) {
					if l[i].To != client || !msg.Same(l[i].M, g.ofAlarm(me)) {
						t.Fatalf("%d of %d: %+v", me, clients, l)
					}
				}
			}
		}
	}
}

// P18.3: a reply that is believed, but what it tells does not fit what others told: the alarm. It was answered: it waits no more, and no dummy is going on.
func TestServerFork(t *testing.T) {
	for _, c := range []struct {
		what         string
		heard        string
		kind, target int
		long         string
		pending      []int
	}{
		{"the own commit alone, of a Write", "\x01", write, 0, "", nil},
		{"the own commit alone, of a read", "\x01", read, 2, "", nil},
		{"the own commit alone, behind a Long that fits", "\x01\x02\x01", write, 0, "\x01", nil},
		{"the own commit, behind what is pending", "\x01\x02\x01", write, 0, "\x01", []int{1}},
		{"the Long", "\x01\x02\x01", write, 0, "\x01\x01", nil},
		{"the Long, of a read of another one", "\x01\x02\x01", read, 3, "\x01\x01", nil},
		{"the Long and Seen, the same", "\x01\x02\x01", read, 1, "\x01\x01", nil},
		{"the Long and Seen, unlike ones", "\x01\x02\x01", read, 1, "\x01\x01\x02", nil},
		{"a Long that is as long", "\x01\x02\x01", write, 0, "\x01\x02\x02", nil},
		{"a Long that is a longer one", "\x01\x02\x01", read, 2, "\x02\x01\x02\x01\x02", []int{3}},
	} {
		g := groupOf(t, 4)
		for _, teller := range []int{1, 2, 3} {
			p := begin(t, g, 0)
			p.opens(g.ofVersion(teller, c.heard))
			p.refused(c.kind, c.target, "v", api.OK)
			p.doubts(ofReply(p.truth(c.long, c.pending...)), api.ErrFork, true)
			own := c.long + historyBytes(c.pending) + "\x00"
			if p.w.Reg().Busy() || p.w.Reg().View() != own || p.w.Known().Word(0) != "" || p.w.Known().Word(teller) != c.heard {
				t.Fatalf("%s: %q, %q", c.what, p.w.Reg().View(), p.w.Known().Word(0))
			}
			p.crashes()
		}
	}
}

// historyBytes is a history of these clients.
func historyBytes(l []int) string {
	d := ""
	for _, client := range l {
		d += by(client)
	}
	return d
}

// P18.3: what is shorter than what is known, and what is longer, fits, if it is of one line.
func TestServerFits(t *testing.T) {
	g := groupOf(t, 3)
	line := "\x01\x02\x00\x01\x02"
	for size := 1; size <= len(line); size++ {
		p := begin(t, g, 0)
		p.opens(g.ofVersion(1, line[:size]))
		p.does(write, 0, "v", "\x01\x02")
		if long, _, _ := p.w.Known().Longest(); long != line[:max(size, 3)] {
			t.Fatalf("%d: %q", size, long)
		}
	}
}

// P18.3, P18.6: a dummy goes on till a reply is believed, whatever else is answered; one that is not believed leaves it.
func TestServerDummy(t *testing.T) {
	for _, c := range []struct {
		what string
		end  func(p *pair)
		goes bool
	}{
		{"the truth", func(p *pair) { p.believes(p.truth("\x01")) }, false},
		{"another number's", func(p *pair) { p.doubts(ofReply(api.Reply{Number: 2, Last: -1}), api.ErrNone, false) }, true},
		{"what may not be", func(p *pair) { p.doubts(ofReply(api.Reply{Last: -1}), api.ErrArg, false) }, true},
		{"a lie", func(p *pair) { p.doubts(ofReply(api.Reply{Number: 1, Last: 1, View: "\x01"}), api.ErrTag, true) }, true},
		{"what does not fit", func(p *pair) {
			p.opens(p.group.ofVersion(1, "\x01\x01"))
			p.doubts(ofReply(p.truth("\x01")), api.ErrFork, true)
		}, false},
		{"an alarm", func(p *pair) { p.alarms() }, true},
		{"another one's alarm", func(p *pair) { p.rejects(p.group.ofAlarm(1), api.ErrHalt, true) }, true},
		{"ticks", func(p *pair) { p.passes(20, false) }, true},
		{"refused ones", func(p *pair) { p.refused(write, 0, "v", api.ErrBusy) }, true},
	} {
		p := begin(t, groupOf(t, 2), 0)
		p.passes(idle, false)
		if !p.w.Dummy() || !p.w.Reg().Busy() {
			t.Fatal("no dummy")
		}
		c.end(p)
		if p.w.Dummy() != c.goes || p.w.Reg().Busy() != c.goes {
			t.Errorf("%s: %v", c.what, p.w.Dummy())
		}
		p.crashes()
		if p.w.Dummy() != c.goes {
			t.Errorf("%s, laid and read: %v", c.what, p.w.Dummy())
		}
		if c.goes || p.w.Halted() {
			continue
		}
		p.refused(read, 1, "", api.OK)
		if p.w.Dummy() {
			t.Errorf("%s: a read that is asked for is taken for a dummy", c.what)
		}
	}
}
