package probe_test

import (
	"math"
	"slices"
	"testing"

	"affidavit/api"
	"affidavit/probe"
)

// The chapter's numbers.
func TestConstants(t *testing.T) {
	if probe.Every != every || probe.Idle != idle {
		t.Error(probe.Every, probe.Idle)
	}
}

// The chapter's example.
func TestExample(t *testing.T) {
	p := fresh(t, 3, 0)
	for range 3 {
		ticks(t, p, false, -1)
	}
	ticks(t, p, false, -1, 1, 2)
	ticks(t, p, false, -1)
	ticks(t, p, false, -1)
	ticks(t, p, false, 1)
}

// P17.1: from 2 to 8 clients, of whom me is one. Else there is none.
func TestNew(t *testing.T) {
	made := 0
	for _, clients := range numbers() {
		for _, me := range slices.Concat(numbers(), []int{clients - 1, clients, clients + 1}) {
			p, e := probe.New(clients, me)
			if clients < fewest || clients > most || me < 0 || me >= clients {
				if p != nil || e != api.ErrArg {
					t.Errorf("New(%d, %d): %v, %d", clients, me, p != nil, int(e))
				}
				continue
			}
			made++
			if p == nil || e != api.OK {
				t.Fatalf("New(%d, %d): %v, %d", clients, me, p != nil, int(e))
			}
		}
	}
	if made < 2+3+4+5+6+7+8 {
		t.Error(made)
	}
}

// P17.1, P17.4: ahead of any call all others are due at the tick 4, and the one behind me comes next.
func TestFresh(t *testing.T) {
	sees(t, fresh(t, 2, 0), 1, 0, every)
	sees(t, fresh(t, 2, 1), 0, every, 0)
	sees(t, fresh(t, 3, 0), 1, 0, every, every)
	sees(t, fresh(t, 3, 1), 2, every, 0, every)
	sees(t, fresh(t, 3, 2), 0, every, every, 0)
	sees(t, fresh(t, 8, 3), 4, every, every, every, 0, every, every, every, every)
	sees(t, fresh(t, 8, 7), 0, every, every, every, every, every, every, every, 0)
	for clients := fewest; clients <= most; clients++ {
		for me := range clients {
			pair(t, clients, me).same(t, "New")
		}
	}
}

// P17.2: each other client is heard, and nobody beside them: of these nothing changes.
func TestHeardWho(t *testing.T) {
	for clients := fewest; clients <= most; clients++ {
		for me := range clients {
			for _, client := range slices.Concat(numbers(), []int{me, clients - 1, clients}) {
				p := fresh(t, clients, me)
				passes(p, 2, false)
				before := looked(t, p)
				other := client >= 0 && client < clients && client != me
				if got := p.Heard(client); got != other {
					t.Fatalf("%d clients, me %d: Heard(%d): %v", clients, me, client, got)
				}
				if other {
					before.dues[client] = 2 + every
				}
				if after := looked(t, p); after != before {
					t.Fatalf("behind Heard(%d): %v, and not %v", client, after, before)
				}
				if got := p.Due(client); got != 2+every && other || got != 0 && !other {
					t.Fatalf("Due(%d): %d", client, got)
				}
			}
		}
	}
}

// P17.2: whoever was heard between two ticks is due Every ticks behind the first of them, be it once or several times.
func TestHeardWhen(t *testing.T) {
	for behind := range 20 {
		p := fresh(t, 3, 1)
		passes(p, behind, false)
		for range 3 {
			hears(t, p, 2)
			if got := p.Due(2); got != behind+every {
				t.Fatalf("behind %d ticks: %d", behind, got)
			}
		}
		for range every - 1 {
			if l, _ := p.Tick(false); slices.Contains(l, 2) {
				t.Fatalf("behind %d ticks: too soon", behind)
			}
		}
		if l, _ := p.Tick(false); !slices.Contains(l, 2) {
			t.Fatalf("behind %d ticks: not asked", behind)
		}
	}
}

// P17.2: Asked is true, whenever; it plays no part for who is due, and whose register comes next.
func TestAsked(t *testing.T) {
	for clients := fewest; clients <= most; clients++ {
		p := fresh(t, clients, clients-1)
		for range 30 {
			before := looked(t, p)
			asks(t, p)
			asks(t, p)
			if after := looked(t, p); after != before {
				t.Fatalf("%v, and not %v", after, before)
			}
			if _, r := p.Tick(false); r != -1 {
				t.Fatal("a read, though me asks at each tick:", r)
			}
		}
	}
}

// P17.3: without a word all others are asked at every 4th tick, rising; at each 7th one there is a read.
func TestSilence(t *testing.T) {
	for clients := fewest; clients <= most; clients++ {
		for me := range clients {
			p := fresh(t, clients, me)
			var all []int
			for client := range clients {
				if client != me {
					all = append(all, client)
				}
			}
			for tick := 1; tick <= 100; tick++ {
				next := p.Next()
				l, r := p.Tick(false)
				if tick%every == 0 && !slices.Equal(l, all) || tick%every != 0 && len(l) != 0 {
					t.Fatalf("%d clients, me %d, tick %d: %v", clients, me, tick, l)
				}
				if tick%idle == 0 && r != next || tick%idle != 0 && r != -1 {
					t.Fatalf("%d clients, me %d, tick %d: %d", clients, me, tick, r)
				}
			}
		}
	}
}

// P17.3: who is asked at a tick is due Every ticks later; the others' ticks stay.
func TestAskedLater(t *testing.T) {
	p := fresh(t, 3, 0)
	passes(p, 1, false)
	hears(t, p, 1)
	sees(t, p, 1, 0, 5, 4)
	ticks(t, p, false, -1)
	ticks(t, p, false, -1)
	sees(t, p, 1, 0, 5, 4)
	ticks(t, p, false, -1, 2)
	sees(t, p, 1, 0, 5, 8)
	ticks(t, p, false, -1, 1)
	sees(t, p, 1, 0, 9, 8)
	ticks(t, p, false, -1)
	ticks(t, p, false, 1)
	sees(t, p, 2, 0, 9, 8)
	ticks(t, p, false, -1, 2)
	ticks(t, p, false, -1, 1)
	sees(t, p, 2, 0, 13, 12)
}

// P17.3: one is heard and the others are not: they are asked, it is not, as long as it is heard often enough.
func TestOneHeard(t *testing.T) {
	for clients := 3; clients <= most; clients++ {
		for one := 1; one < clients; one++ {
			p := fresh(t, clients, 0)
			var rest []int
			for client := 1; client < clients; client++ {
				if client != one {
					rest = append(rest, client)
				}
			}
			for tick := 1; tick <= 60; tick++ {
				if tick%3 == 0 {
					hears(t, p, one)
				}
				l, _ := p.Tick(true)
				if tick%every == 0 && !slices.Equal(l, rest) || tick%every != 0 && len(l) != 0 {
					t.Fatalf("tick %d: %v", tick, l)
				}
			}
		}
	}
}

// P17.3: those that are due at one tick are told rising, in whichever order they were heard; those of different ones each at its own.
func TestOrder(t *testing.T) {
	for _, heard := range [][]int{{0, 1, 3, 4}, {4, 3, 1, 0}, {3, 0, 4, 1}, {1, 4, 0, 3}} {
		p := fresh(t, 5, 2)
		for tick, client := range heard {
			hears(t, p, client)
			if tick < 3 {
				p.Tick(false)
			}
		}
		p.Tick(false) // the 4th tick: the first one, which was heard ahead of any tick, is due
		for i := 1; i < len(heard); i++ {
			if got := p.Due(heard[i]); got != every+i {
				t.Fatalf("Due(%d): %d", heard[i], got)
			}
			l, _ := p.Tick(false)
			if !slices.Equal(l, heard[i:i+1]) {
				t.Fatalf("%v: %v", heard, l)
			}
		}
		// Behind that all of them are heard at one tick.
		slices.Reverse(heard)
		for _, client := range heard {
			hears(t, p, client)
		}
		for range every - 1 {
			if l, _ := p.Tick(false); len(l) != 0 {
				t.Fatal(l)
			}
		}
		if l, _ := p.Tick(false); !slices.Equal(l, []int{0, 1, 3, 4}) {
			t.Fatalf("%v: %v", heard, l)
		}
	}
	// Some of them at one tick, the others at another one.
	p := fresh(t, 8, 3)
	passes(p, 2, false)
	for _, client := range []int{7, 1, 5} {
		hears(t, p, client)
	}
	ticks(t, p, false, -1)
	ticks(t, p, false, -1, 0, 2, 4, 6)
	ticks(t, p, false, -1)
	ticks(t, p, false, -1, 1, 5, 7)
	ticks(t, p, false, 4)
	ticks(t, p, false, -1, 0, 2, 4, 6)
}

// P17.3: that me is busy plays no part for who is asked.
func TestBusyAsks(t *testing.T) {
	p, q := fresh(t, 4, 1), fresh(t, 4, 1)
	for tick := range 50 {
		busy, _ := p.Tick(true)
		idling, _ := q.Tick(false)
		if !slices.Equal(busy, idling) {
			t.Fatalf("tick %d: %v, and %v", tick, busy, idling)
		}
		if tick%5 == 0 {
			client := []int{0, 2, 3}[tick/5%3]
			hears(t, p, client)
			hears(t, q, client)
		}
	}
}

// P17.3: a read that is due while me is busy comes at the first tick at which it is not, and the next one Idle ticks behind it.
func TestBusyRead(t *testing.T) {
	for late := range 30 {
		p := fresh(t, 3, 0)
		for range idle - 1 + late {
			if _, r := p.Tick(true); r != -1 {
				t.Fatal("a read, though me is busy:", r)
			}
			if p.Next() != 1 {
				t.Fatal(p.Next())
			}
		}
		for _, want := range []int{1, 2, 1} {
			if p.Next() != want {
				t.Fatal(p.Next())
			}
			if _, r := p.Tick(false); r != want {
				t.Fatalf("%d ticks late: %d, and not %d", late, r, want)
			}
			for range idle - 1 {
				if _, r := p.Tick(false); r != -1 {
					t.Fatalf("%d ticks late: too soon: %d", late, r)
				}
			}
		}
	}
}

// P17.3: it is the tick itself at which me must not be busy, whatever it was ahead of it.
func TestBusyBefore(t *testing.T) {
	p := fresh(t, 2, 1)
	passes(p, idle-1, true)
	ticks(t, p, false, 0)
	passes(p, idle-1, true)
	if _, r := p.Tick(true); r != -1 {
		t.Fatal(r)
	}
	if _, r := p.Tick(false); r != 0 {
		t.Fatal(r)
	}
}

// readsAt asks for no read up to a tick, and for one at it; so many have gone by.
func readsAt(t *testing.T, p *probe.Prober, gone, tick int) {
	t.Helper()
	for now := gone + 1; now <= tick; now++ {
		_, r := p.Tick(false)
		if (r != -1) != (now == tick) {
			t.Fatalf("tick %d: %d; a read was to come at %d", now, r, tick)
		}
	}
}

// P17.2, P17.3: me asks behind so many ticks: the read is due Idle ticks behind that, and not at its own tick.
func TestAskedMovesRead(t *testing.T) {
	for behind := range idle {
		p := fresh(t, 3, 2)
		passes(p, behind, false)
		asks(t, p)
		readsAt(t, p, behind, behind+idle)
	}
	// Just ahead of a read's tick, at it, and behind it.
	for _, behind := range []int{idle - 1, idle, idle + 1} {
		p := fresh(t, 3, 2)
		passes(p, behind, false)
		asks(t, p)
		readsAt(t, p, behind, behind+idle)
		asks(t, p)
		asks(t, p)
		readsAt(t, p, behind+idle, behind+2*idle)
	}
	// A read that waits, since me is busy, waits no more when me has asked for something else.
	for late := range 12 {
		p := fresh(t, 3, 2)
		passes(p, idle+late, true)
		asks(t, p)
		readsAt(t, p, idle+late, idle+late+idle)
	}
}

// P17.3: a read counts as an operation, just as if me had asked for it at its tick.
func TestReadCounts(t *testing.T) {
	p, q := fresh(t, 4, 0), fresh(t, 4, 0)
	for tick := range 100 {
		l, r := p.Tick(tick%5 < 2)
		m, s := q.Tick(tick%5 < 2)
		if r != -1 {
			asks(t, q)
		}
		if !slices.Equal(l, m) || r != s || looked(t, p) != looked(t, q) {
			t.Fatalf("tick %d: %v, %d, and %v, %d", tick, l, r, m, s)
		}
	}
}

// P17.3: that a client was heard plays no part for reads.
func TestHeardReads(t *testing.T) {
	p := fresh(t, 3, 1)
	for tick := 1; tick <= 70; tick++ {
		hears(t, p, 0)
		hears(t, p, 2)
		l, r := p.Tick(false)
		if len(l) != 0 || (r != -1) != (tick%idle == 0) {
			t.Fatalf("tick %d: %v, %d", tick, l, r)
		}
	}
}

// P17.6: reads go to all others in turn, from the one behind me on, and behind the last one comes the first one.
func TestInTurn(t *testing.T) {
	for clients := fewest; clients <= most; clients++ {
		for me := range clients {
			p := fresh(t, clients, me)
			want := me
			for tick := 1; tick <= idle*3*clients; tick++ {
				_, r := p.Tick(false)
				if tick%idle != 0 {
					continue
				}
				want = (want + 1) % clients
				if want == me {
					want = (want + 1) % clients
				}
				if r != want {
					t.Fatalf("%d clients, me %d, tick %d: %d, and not %d", clients, me, tick, r, want)
				}
			}
		}
	}
	p := fresh(t, 4, 2)
	var reads []int
	for range 8 * idle {
		if _, r := p.Tick(false); r != -1 {
			reads = append(reads, r)
		}
	}
	if !slices.Equal(reads, []int{3, 0, 1, 3, 0, 1, 3, 0}) {
		t.Error(reads)
	}
}

// P17.4: Due of nobody, and of me, is 0, at first and later; so is what was refused.
func TestDueOfNobody(t *testing.T) {
	for clients := fewest; clients <= most; clients++ {
		for me := range clients {
			p := fresh(t, clients, me)
			for range 20 {
				for _, n := range []int{-1, me, clients, clients + 1, most, most + 1, math.MinInt, math.MaxInt} {
					p.Heard(n)
					if due := p.Due(n); due != 0 {
						t.Fatalf("%d clients, me %d: Due(%d): %d", clients, me, n, due)
					}
				}
				if p.Due((me+1)%clients) == 0 {
					t.Fatal("an other one is due at no tick")
				}
				p.Tick(false)
			}
		}
	}
}

// P17.4, R4: looking changes nothing.
func TestLooks(t *testing.T) {
	p, q := fresh(t, 5, 3), fresh(t, 5, 3)
	for tick := range 60 {
		for range tick % 4 {
			looked(t, p)
		}
		l, r := p.Tick(tick%3 == 0)
		m, s := q.Tick(tick%3 == 0)
		if !slices.Equal(l, m) || r != s {
			t.Fatalf("tick %d: %v, %d, and %v, %d", tick, l, r, m, s)
		}
	}
}

// R3: what Tick answers is new memory at each call.
func TestTickNew(t *testing.T) {
	x := pair(t, 8, 2)
	var kept, were [][]int
	for range 100 {
		l, _ := x.tick(t, false)
		kept, were = append(kept, l), append(were, slices.Clone(l))
	}
	for i := range kept {
		if !slices.Equal(kept[i], were[i]) {
			t.Fatalf("tick %d: %v was told, and is %v now", i+1, were[i], kept[i])
		}
	}
	for range 100 {
		l, _ := x.tick(t, false)
		spare := l[:cap(l)]
		for i := range spare {
			spare[i] = 99
		}
	}
	for i := range kept {
		if !slices.Equal(kept[i], were[i]) {
			t.Fatalf("tick %d: %v was told, and is %v now", i+1, were[i], kept[i])
		}
	}
}

// P17.2 to P17.4: of nil; one that no call made is taken for that.
func TestNil(t *testing.T) {
	for _, p := range []*probe.Prober{nil, {}, new(probe.Prober)} {
		for range 10 {
			for _, busy := range []bool{false, true} {
				ticks(t, p, busy, -1)
			}
			for _, n := range numbers() {
				if p.Heard(n) {
					t.Errorf("Heard(%d)", n)
				}
				if due := p.Due(n); due != 0 {
					t.Errorf("Due(%d): %d", n, due)
				}
			}
			if p.Asked() {
				t.Error("Asked")
			}
			sees(t, p, 0)
		}
	}
}
