package faust_test

import (
	"math"
	"strings"
	"testing"

	"affidavit/api"
	"affidavit/msg"
)

// line is a history that goes along the clients 1, 2, 0, again and again.
const line = "\x01\x02\x00\x01\x02\x00\x01\x02\x00"

// P18.4: what may not be, is of another Kind, is me's or nobody's: an argument's error, of one that is well and of one that has given the alarm.
func TestOfflineArg(t *testing.T) {
	for clients := 2; clients <= 8; clients++ {
		for me := range clients {
			g := groupOf(t, clients)
			other := (me + 1) % clients
			wrong := append(wrongMessages(), g.otherKinds(other)...)
			wrong = append(wrong, g.otherKinds(me)...)
			wrong = append(wrong, ofReply(api.Reply{Number: 1, Last: -1}))
			for _, client := range append(nobodies(clients), me) {
				// The tags are a right one's, or none.
				for _, m := range []api.Msg{ofProbe(client), g.ofAlarm(other), g.ofVersion(other, by(other)), {Kind: isAlarm}, {Kind: isVersion, By: me, View: by(me)}} {
					m.Client = client
					wrong = append(wrong, m)
				}
			}
			wrong = append(wrong, g.ofAlarm(me), g.ofVersion(me, by(me)), g.ofVersion(me, by(other)))
			p := begin(t, g, me)
			for range 2 {
				for _, m := range wrong {
					p.rejects(m, api.ErrArg, false)
				}
				p.alarms()
			}
		}
	}
}

// P18.3, P18.4: messages of every Kind, of every Client, to one that has done nothing, that waits, that has done something, and that has given the alarm, by the server, and by another client.
func TestKindsAndClients(t *testing.T) {
	for _, clients := range []int{2, 3, 8} {
		g := groupOf(t, clients)
		for _, me := range []int{0, clients - 1} {
			for _, client := range append(nobodies(clients), me, 0, 1, clients-1) {
				who := min(max(client, 0), clients-1)
				l := append(g.otherKinds(who), ofReply(api.Reply{Number: 1, Last: -1}), ofProbe(who), g.ofVersion(who, by(who)), g.ofAlarm(who))
				for _, kind := range []int{0, 12, -1, math.MinInt, math.MaxInt} {
					l = append(l, api.Msg{Kind: kind})
				}
				for i := range l {
					l[i].Client = client
				}
				for _, m := range l {
					waits, halted := begin(t, g, me), begin(t, g, me)
					waits.asks(write, me, "v")
					halted.alarms()
					for _, p := range []*pair{begin(t, g, me), waits, behind(t, g, me, by(0)+by(me), "v"), halted} {
						p.opens(m)
						p.takes(m)
					}
				}
			}
		}
	}
}

// P18.4: each client that there is is heard, and no other one.
func TestOfflineClients(t *testing.T) {
	for clients := 2; clients <= 8; clients++ {
		g := groupOf(t, clients)
		for me := range clients {
			for client := range 8 {
				m := api.Msg{Kind: isVersion, Client: client, By: 0, View: "\x00", Tag: g.done(0, "\x00")}
				if client < clients {
					m.Own = g.version(client, 0, "\x00")
				}
				p := begin(t, g, me)
				want := api.ErrArg
				if client < clients && client != me {
					want = api.OK
				}
				p.rejects(m, want, false)
				if want == api.OK && p.w.Known().Word(client) != "\x00" {
					t.Errorf("of %d: %q", client, p.w.Known().Word(client))
				}
			}
		}
	}
}

// P18.4: what me tells: nothing; a longer view that is known; its own; both, its own first, and the other one with its own tag and that of whoever committed it.
func TestTells(t *testing.T) {
	for clients := 3; clients <= 8; clients++ {
		for me := range clients {
			g := groupOf(t, clients)
			a, b := (me+1)%clients, (me+2)%clients
			p := begin(t, g, me)
			tells := func(views ...string) {
				t.Helper()
				for _, asker := range []int{a, b, a} {
					l, e := p.opens(ofProbe(asker))
					if e != api.OK || len(l) != len(views) {
						t.Fatalf("%+v, %d", l, int(e))
					}
					for i, view := range views {
						if l[i].To != asker || !msg.Same(l[i].M, g.ofVersion(me, view)) {
							t.Fatalf("%+v, and not %q", l[i], view)
						}
					}
				}
			}
			tells()
			p.opens(g.ofVersion(a, by(b)))
			tells(by(b))
			p.opens(g.ofVersion(b, by(b)+by(a)))
			tells(by(b) + by(a))
			p.crashes()
			tells(by(b) + by(a))
			p.refused(read, a, "", api.OK)
			tells(by(b) + by(a))
			own := by(b) + by(a) + by(me)
			p.believes(p.truth(by(b) + by(a)))
			tells(own)
			p.refused(read, a, "", api.OK)
			tells(own)
			p.opens(g.ofVersion(a, own+by(a)))
			tells(own, own+by(a))
			p.opens(g.ofVersion(b, own))
			tells(own, own+by(a))
			p.crashes()
			tells(own, own+by(a))
			p.opens(g.ofVersion(a, own+by(a)+by(a)+by(b)))
			tells(own, own+by(a)+by(a)+by(b))
			p.believes(p.truth(own+by(a)+by(a), b))
			tells(own + by(a) + by(a) + by(b) + by(me))
		}
	}
}

// P18.4: what another one tells is learned, from whoever tells it: known already, shorter, longer, as long.
func TestHears(t *testing.T) {
	for first := 1; first <= len(line); first++ {
		for second := 1; second <= len(line); second++ {
			for teller := 1; teller < 3; teller++ {
				g := groupOf(t, 3)
				p := begin(t, g, 0)
				p.rejects(g.ofVersion(1, line[:first]), api.OK, false)
				p.rejects(g.ofVersion(teller, line[:second]), api.OK, false)
				long, who, tag := p.w.Known().Longest()
				want := line[:max(first, second)]
				if long != want || who != last(want) || tag != g.done(last(want), want) {
					t.Fatalf("%d, %d: %q, %d", first, second, long, who)
				}
				if teller == 2 && (p.w.Known().Word(1) != line[:first] || p.w.Known().Word(2) != line[:second]) {
					t.Fatalf("%d, %d: %q, %q", first, second, p.w.Known().Word(1), p.w.Known().Word(2))
				}
			}
		}
	}
}

// P18.4, P18.5: a view that does not fit what is known gives the alarm, to all others, rising; nothing of it is learned.
func TestHearsFork(t *testing.T) {
	for _, c := range [][2]string{
		{"\x01", "\x02"}, {"\x01\x02", "\x02"}, {"\x01", "\x02\x01"}, {"\x01\x02", "\x01\x01"}, {"\x01\x02\x01", "\x01\x01"},
		{"\x01\x02", "\x01\x01\x02"}, {line, "\x02"}, {line, line[:8] + "\x01"}, {line, line[:8] + "\x01\x00"}, {line[:8] + "\x01\x00", line},
	} {
		for clients := 3; clients <= 8; clients++ {
			for teller := 1; teller < clients; teller++ {
				g := groupOf(t, clients)
				p := begin(t, g, 0)
				p.opens(g.ofVersion(1, c[0]))
				l, e := p.opens(g.ofVersion(teller, c[1]))
				if e != api.ErrFork || len(l) != clients-1 || !p.w.Halted() {
					t.Fatalf("%q: %+v, %d", c, l, int(e))
				}
				for i, client := range others(clients, 0) {
					if l[i].To != client || !msg.Same(l[i].M, g.ofAlarm(0)) {
						t.Fatalf("%q: %+v", c, l)
					}
				}
				if long, _, _ := p.w.Known().Longest(); long != c[0] {
					t.Fatalf("%q: %q", c, long)
				}
			}
		}
	}
	// It does not fit what me itself has done.
	p := behind(t, groupOf(t, 3), 0, "\x01\x00", "v")
	p.rejects(p.ofVersion(2, "\x01\x02"), api.ErrFork, true)
}

// P18.4: the tags: Own is of another client, another text, another domain, or none; Tag likewise; By is no client.
func TestHearsTags(t *testing.T) {
	g := groupOf(t, 3)
	m := g.ofVersion(2, "\x00\x01")
	flip := func(d api.Digest, bit int) api.Digest {
		d[bit/8] ^= 1 << (bit % 8)
		return d
	}
	p := begin(t, g, 0)
	owns := []api.Digest{
		{}, m.Tag, g.version(1, 1, m.View), g.version(0, 1, m.View), g.version(2, 0, m.View), g.version(2, 2, m.View), g.version(2, 1, "\x00"),
		g.version(2, 1, "\x01"), g.version(2, 1, "\x00\x01\x01"), g.done(2, m.View), g.tag(2, domView, "1;2:\x00\x01"), g.tag(2, domAlarm, "1;2:\x00\x01"),
		g.tag(2, domVersion, m.View), g.tag(2, domVersion, "2;2:\x00\x01"), g.alarm(2),
	}
	tags := []api.Digest{
		{}, m.Own, g.done(0, m.View), g.done(2, m.View), g.done(1, "\x00"), g.done(1, "\x01"), g.done(1, "\x00\x01\x01"), g.tag(1, domVersion, m.View),
		g.tag(1, domData, m.View), g.tag(1, domAsked, m.View), g.version(1, 1, m.View),
	}
	for i := range 256 {
		owns, tags = append(owns, flip(m.Own, i)), append(tags, flip(m.Tag, i))
	}
	for _, own := range owns {
		x := m
		x.Own = own
		p.rejects(x, api.ErrTag, false)
	}
	for _, tag := range tags {
		x := m
		x.Tag = tag
		p.rejects(x, api.ErrTag, false)
	}
	for by := range 8 {
		if by == 1 {
			continue
		}
		// With an Own of that By, and with the old one.
		x := m
		x.By = by
		p.rejects(x, api.ErrTag, false)
		x.Own = g.version(2, by, m.View)
		p.rejects(x, api.ErrTag, false)
	}
	for _, view := range []string{"\x00", "\x01", "\x00\x01\x01", "\x02\x01"} {
		x := m
		x.View = view
		p.rejects(x, api.ErrTag, false)
		x.Own = g.version(2, 1, view)
		p.rejects(x, api.ErrTag, false)
	}
	p.rejects(m, api.OK, false)
}

// P18.4: views with right tags that may not be for the ring's clients, or do not end with By: an argument's error, behind the tags', and ahead of the fork's.
func TestHearsViews(t *testing.T) {
	tell := func(g group, client, by int, view string) api.Msg {
		return api.Msg{Kind: isVersion, Client: client, By: by, View: view, Tag: g.done(by, view), Own: g.version(client, by, view)}
	}
	for clients := 2; clients <= 8; clients++ {
		g := groupOf(t, clients)
		for _, heard := range []string{"", "\x01\x01\x01"} {
			p := begin(t, g, 0)
			if heard != "" {
				p.opens(g.ofVersion(1, heard))
			}
			for _, view := range []string{by(0), by(0) + by(0), by(1) + by(0), strings.Repeat("\x01", most-1) + "\x00"} {
				p.rejects(tell(g, 1, 1, view), api.ErrArg, false)
				x := tell(g, 1, 1, view)
				x.Tag[5]++
				p.rejects(x, api.ErrTag, false)
				x = tell(g, 1, 1, view)
				x.Own[5]++
				p.rejects(x, api.ErrTag, false)
			}
			for foreign := clients; foreign < 8; foreign++ {
				p.rejects(tell(g, 1, 1, by(foreign)+by(1)), api.ErrArg, false)
				p.rejects(tell(g, 1, 1, by(foreign)), api.ErrArg, false)
				p.rejects(tell(g, 1, 0, by(foreign)+by(0)), api.ErrArg, false)
			}
		}
		p := begin(t, g, 0)
		p.rejects(tell(g, 1, 1, strings.Repeat("\x01", most)), api.OK, false)
	}
}

// P18.4, P18.5: the prober has heard whoever told something that was learned, and nobody else.
func TestHeard(t *testing.T) {
	g := groupOf(t, 4)
	for at := range 9 {
		for _, c := range []struct {
			what string
			m    api.Msg
		}{
			{"a view", g.ofVersion(2, "\x01")},
			{"a known one", g.ofVersion(2, "\x03")},
			{"a probe", ofProbe(2)},
			{"a wrong Own", api.Msg{Kind: isVersion, Client: 2, By: 1, View: "\x01", Tag: g.done(1, "\x01")}},
			{"a wrong Tag", api.Msg{Kind: isVersion, Client: 2, By: 1, View: "\x01", Own: g.version(2, 1, "\x01")}},
			{"a wrong view", api.Msg{Kind: isVersion, Client: 2, By: 0, View: "\x01", Tag: g.done(0, "\x01"), Own: g.version(2, 0, "\x01")}},
			{"a wrong alarm", api.Msg{Kind: isAlarm, Client: 2}},
			{"a view of me", g.ofVersion(2, "\x00")},
			{"an alarm", g.ofAlarm(2)},
		} {
			p := begin(t, g, 0)
			if c.what == "a known one" {
				p.opens(g.ofVersion(1, "\x03"))
			}
			p.passes(at, true)
			p.opens(c.m)
			p.passes(2*every+1, true)
		}
	}
	p := begin(t, g, 0)
	p.passes(3, true)
	p.opens(g.ofVersion(2, "\x01"))
	if l := p.ticks(true); len(l) != 2 || l[0].To != 1 || l[1].To != 3 {
		t.Errorf("%+v", l)
	}
	p.passes(2, true)
	if l := p.ticks(true); len(l) != 1 || l[0].To != 2 {
		t.Errorf("%+v", l)
	}
}

// P18.4, P18.5: the alarm of each other client, to one that is well: it joins in.
func TestHearsAlarm(t *testing.T) {
	for clients := 2; clients <= 8; clients++ {
		for me := range clients {
			for _, teller := range others(clients, me) {
				g := groupOf(t, clients)
				p := begin(t, g, me)
				for _, own := range []api.Digest{{}, g.alarm(me), g.alarm((teller + 1) % clients), g.tag(teller, domAlarm, "\x00"), g.tag(teller, domVersion, ""), g.done(teller, "")} {
					p.rejects(api.Msg{Kind: isAlarm, Client: teller, Own: own}, api.ErrTag, false)
				}
				l, e := p.opens(g.ofAlarm(teller))
				if e != api.ErrHalt || len(l) != clients-1 || !p.w.Halted() {
					t.Fatalf("%+v, %d", l, int(e))
				}
				for i, client := range others(clients, me) {
					if l[i].To != client || !msg.Same(l[i].M, g.ofAlarm(me)) {
						t.Fatalf("%+v", l)
					}
				}
			}
		}
	}
}

// P18.4: one that has given the alarm tells whoever asks so, and nobody anything else; it says so, whatever comes, right or wrong.
func TestOfflineHalted(t *testing.T) {
	for clients := 2; clients <= 8; clients++ {
		for me := range clients {
			g := groupOf(t, clients)
			for _, p := range []*pair{begin(t, g, me), behind(t, g, me, by((me+1)%clients)+by(me), "v")} {
				p.alarms()
				for _, client := range others(clients, me) {
					l, e := p.opens(ofProbe(client))
					if e != api.OK || len(l) != 1 || l[0].To != client || !msg.Same(l[0].M, g.ofAlarm(me)) {
						t.Fatalf("%+v, %d", l, int(e))
					}
					for _, m := range []api.Msg{
						g.ofAlarm(client), {Kind: isAlarm, Client: client}, g.ofVersion(client, by(client)), g.ofVersion(client, by(me)),
						{Kind: isVersion, Client: client, By: 7, View: by(me)}, {Kind: isVersion, Client: client, By: me, View: "\x07"},
					} {
						if l, e := p.opens(m); e != api.ErrHalt || len(l) != 0 {
							t.Fatalf("%+v, %d", l, int(e))
						}
					}
				}
			}
		}
	}
}
