package faust_test

import (
	"slices"
	"testing"

	"affidavit/api"
	"affidavit/msg"
)

// P18.5: Alarm gives it, once: to all others, rising; of each group, and each me, ahead of any operation and behind.
func TestAlarm(t *testing.T) {
	for clients := 2; clients <= 8; clients++ {
		for me := range clients {
			g := groupOf(t, clients)
			waiting := begin(t, g, me)
			waiting.refused(write, me, "v", api.OK)
			for _, p := range []*pair{begin(t, g, me), behind(t, g, me, by(me), "v"), waiting} {
				l := p.alarms()
				if !p.w.Halted() || len(l) != clients-1 {
					t.Fatalf("%+v", l)
				}
				for i, client := range others(clients, me) {
					if l[i].To != client || !msg.Same(l[i].M, g.ofAlarm(me)) {
						t.Fatalf("%d of %d: %+v", me, clients, l)
					}
				}
				if l := append(p.alarms(), p.alarms()...); len(l) != 0 || !p.w.Halted() {
					t.Fatalf("once more: %+v", l)
				}
				p.crashes()
				if l := p.alarms(); len(l) != 0 || !p.w.Halted() {
					t.Fatalf("behind a crash: %+v", l)
				}
			}
		}
	}
}

// goesTo are to whom messages go.
func goesTo(l []api.Send) []int {
	var to []int
	for _, x := range l {
		to = append(to, x.To)
	}
	return to
}

// P18.5: ticks without a word: each Every-th all others are asked, rising; the Idle-th brings a dummy, of the register behind me's, behind whom is asked.
func TestTick(t *testing.T) {
	for clients := 2; clients <= 8; clients++ {
		for me := range clients {
			g := groupOf(t, clients)
			p := begin(t, g, me)
			for tick := 1; tick <= 3*every*idle; tick++ {
				l := p.ticks(false)
				var want []int
				if tick%every == 0 {
					want = others(clients, me)
				}
				if tick == idle {
					want = append(want, -1)
				}
				if !slices.Equal(goesTo(l), want) {
					t.Fatalf("%d of %d, tick %d: %+v", me, clients, tick, l)
				}
				for _, x := range l {
					if x.To != -1 && !msg.Same(x.M, ofProbe(me)) {
						t.Fatalf("%+v", x)
					}
				}
				if p.w.Dummy() != (tick >= idle) || p.w.Reg().Busy() != p.w.Dummy() {
					t.Fatalf("tick %d: %v", tick, p.w.Dummy())
				}
			}
		}
	}
}

// P18.5: dummies that are answered at once: reads of all others in turn, Idle ticks from each to the next; what goes to the server stands behind what goes to clients.
func TestDummies(t *testing.T) {
	for clients := 2; clients <= 8; clients++ {
		for me := range clients {
			p := begin(t, groupOf(t, clients), me)
			for tick := 1; tick <= idle*clients*3; tick++ {
				l := p.ticks(false)
				to := goesTo(l)
				if slices.Contains(to, -1) != (tick%idle == 0) || slices.Contains(to, (me+1)%clients) != (tick%every == 0) {
					t.Fatalf("tick %d: %+v", tick, l)
				}
				if tick%idle != 0 {
					continue
				}
				x := l[len(l)-1]
				target := (me + 1 + (tick/idle-1)%(clients-1)) % clients
				if x.To != -1 || x.M.Kind != isSubmit || x.M.Submit.Kind != read || x.M.Submit.Target != target || x.M.Submit.Number != tick/idle || !p.w.Dummy() {
					t.Fatalf("tick %d: %+v", tick, x)
				}
				p.believes(p.truth(p.view))
				if p.w.Dummy() {
					t.Fatal("it still goes on")
				}
			}
		}
	}
}

// P18.5: no dummy as long as it is said to be busy, as it waits, or has given the alarm; it comes as soon as none of that is so.
func TestNoDummy(t *testing.T) {
	p := begin(t, groupOf(t, 3), 1)
	p.passes(3*idle, true)
	if p.w.Reg().Busy() {
		t.Fatal("a dummy, though it is said to be busy")
	}
	p.ticks(false)
	if !p.w.Dummy() {
		t.Fatal("no dummy, as soon as it is not")
	}

	p = begin(t, groupOf(t, 3), 1)
	p.refused(write, 1, "v", api.OK)
	p.passes(3*idle, false)
	if p.w.Dummy() {
		t.Fatal("a dummy, though it waits")
	}
	p.believes(p.truth(""))
	p.ticks(false)
	if !p.w.Dummy() || p.x.Target != 2 {
		t.Fatalf("no dummy, as soon as it waits no more: %+v", p.x)
	}

	p = begin(t, groupOf(t, 3), 1)
	p.alarms()
	p.passes(3*idle, false)
	if p.w.Reg().Busy() {
		t.Fatal("a dummy behind the alarm")
	}
}

// P18.5: a view that has no room brings no dummy, but others are still asked; the next one's turn goes by.
func TestFullDummy(t *testing.T) {
	for clients := 2; clients <= 8; clients++ {
		p := behind(t, groupOf(t, clients), 0, historyOf(clients, 0, most), "v")
		for tick := 1; tick <= 4*idle; tick++ {
			l := p.ticks(false)
			if p.w.Dummy() || p.w.Reg().Busy() || slices.Contains(goesTo(l), -1) || (len(l) > 0) != (tick%every == 0) {
				t.Fatalf("tick %d: %+v", tick, l)
			}
		}
		p = behind(t, groupOf(t, clients), 0, historyOf(clients, 0, most-1), "v")
		p.passes(idle, false)
		if !p.w.Dummy() {
			t.Fatal("there is room for one")
		}
		p.believes(p.truth(p.view))
		p.passes(idle, false)
		if p.w.Dummy() || len(p.w.Reg().View()) != most {
			t.Fatal("there is room for no other one")
		}
	}
}

// P18.5: one that was heard is not asked for Every ticks; behind the alarm whoever is due is told of it.
func TestTickHalted(t *testing.T) {
	for clients := 2; clients <= 8; clients++ {
		for me := range clients {
			g := groupOf(t, clients)
			p := begin(t, g, me)
			first := others(clients, me)[0]
			p.passes(2, false)
			p.opens(g.ofVersion(first, by(first)))
			p.alarms()
			for tick := 3; tick < 40; tick++ {
				l := p.ticks(tick%3 == 0)
				var want []int
				if tick%every == 2 && tick > 2 {
					want = append(want, first)
				}
				if tick%every == 0 {
					want = others(clients, me)[1:]
				}
				if !slices.Equal(goesTo(l), want) {
					t.Fatalf("%d of %d, tick %d: %+v", me, clients, tick, l)
				}
				for _, x := range l {
					if !msg.Same(x.M, g.ofAlarm(me)) {
						t.Fatalf("%+v", x)
					}
				}
			}
		}
	}
}

// P18.5: clients that are due at a tick are asked by the ticks at which they were due, of one tick rising.
func TestTickOrder(t *testing.T) {
	g := groupOf(t, 5)
	for n := range 256 {
		p := begin(t, g, 2)
		l := []int{0, 1, 3, 4}
		for i := range 4 {
			p.opens(g.ofVersion(l[(n>>(2*i))%4], "\x01"))
			p.ticks(i%2 == 0)
		}
		p.passes(10, false)
	}
}
