package faust_test

import (
	"fmt"
	"math/rand"
	"testing"

	"affidavit/api"
)

// does has a client do a Write, and all that comes of it at the server.
func (st *story) does(c int) {
	st.t.Helper()
	if !st.asks(c, write, c, fmt.Sprintf("%d's", c)) {
		st.t.Fatalf("%d does not ask", c)
	}
	for st.rises(c) || st.falls(c) {
	}
}

// P18.9: two whom a server has shown two histories: as soon as one tells the other, that one gives the alarm, and all do.
func TestFound(t *testing.T) {
	for clients := 2; clients <= 8; clients++ {
		for a := range clients {
			for _, b := range others(clients, a) {
				st := tell(t, clients)
				st.does(a)
				st.does(b)
				st.forks(1 << b)
				st.does(a)
				st.does(b)
				for _, p := range st.people {
					if p.w.Halted() {
						t.Fatal("nobody has been told anything")
					}
				}
				l, e := st.people[a].pair.opens(ofProbe(b))
				if e != api.OK || len(l) != 1 || l[0].To != b {
					t.Fatalf("%+v, %d", l, int(e))
				}
				l, e = st.people[b].pair.opens(l[0].M)
				if e != api.ErrFork || !st.people[b].w.Halted() {
					t.Fatalf("%d has not found out: %d", b, int(e))
				}
				st.sends(b, l)
				st.delivers()
				st.allHalted()
			}
		}
	}
}

// P18.9: two who never speak to each other are found out by a third one, who has done nothing: it tells what it knows.
func TestFoundByAnother(t *testing.T) {
	st := tell(t, 3)
	st.forks(1 << 1)
	st.does(0)
	st.does(1)
	teller, hearer := st.people[2], st.people[1]
	for _, x := range st.tells(0, 2) {
		if _, e := teller.pair.opens(x.M); e != api.OK {
			t.Fatal(int(e))
		}
	}
	for _, x := range st.tells(2, 1) {
		if _, e := hearer.pair.opens(x.M); e != api.ErrFork {
			t.Fatal(int(e))
		}
	}
	if !hearer.w.Halted() || teller.w.Halted() {
		t.Errorf("%v, %v", hearer.w.Halted(), teller.w.Halted())
	}
}

// tells is what a client tells another one that asks.
func (st *story) tells(c, asker int) []api.Send {
	st.t.Helper()
	l, e := st.people[c].pair.opens(ofProbe(asker))
	if e != api.OK || len(l) == 0 {
		st.t.Fatalf("%d tells %d: %+v, %d", c, asker, l, int(e))
	}
	return l
}

// P18.9: one that was told of the other history ahead of its own first operation on its side finds out at the reply.
func TestFoundAtReply(t *testing.T) {
	for clients := 2; clients <= 8; clients++ {
		for _, crash := range []bool{false, true} {
			st := tell(t, clients)
			st.does(0)
			st.forks(1 << 1)
			st.does(0)
			for _, x := range st.tells(0, 1) {
				st.people[1].pair.opens(x.M)
			}
			if crash {
				st.crashes(1, true)
			}
			if st.people[1].w.Halted() {
				t.Fatal("nothing that does not fit")
			}
			st.asks(1, read, 0, "")
			st.rises(1)
			st.falls(1)
			if !st.people[1].w.Halted() {
				t.Fatal("it has not found out")
			}
			st.delivers()
			st.allHalted()
		}
	}
}

// P18.9: with crashes and without, letters lost and late: as soon as any two views do not fit, one fair round, in which all tell each other, has all give the alarm; and nobody gives it ahead of that.
func TestForks(t *testing.T) {
	early, late := 0, 0
	for seed := range 120 {
		rnd := rand.New(rand.NewSource(int64(seed)))
		clients := 2 + seed%7
		st := tell(t, clients)
		for range rnd.Intn(150) {
			st.moves(rnd, seed%2 == 1)
		}
		st.forks(1 + rnd.Intn(1<<clients-2))
		for n := 0; n < 20000 && !st.forked(); n++ {
			st.moves(rnd, seed%2 == 1)
		}
		if !st.forked() {
			t.Fatalf("story %d does not fork", seed)
		}
		for range rnd.Intn(60) {
			st.moves(rnd, seed%2 == 1)
		}
		before := 0
		for _, p := range st.people {
			before += bit(p.w.Halted())
		}
		early, late = early+bit(before > 0), late+bit(before == 0)
		st.round()
		st.allHalted()
		// Whoever crashes then knows it still; and nobody does anything any more.
		for c, p := range st.people {
			st.crashes(c, false)
			p.refused(read, 0, "", api.ErrHalt)
			if l := append(p.repeats(), p.alarms()...); len(l) != 0 {
				t.Fatalf("%+v", l)
			}
		}
	}
	if early < 10 || late < 10 {
		t.Errorf("%d were found out ahead of the round, %d in it", early, late)
	}
}

// P18.8: a server that forks, and of whom one side alone does something, is not found out: all that is told fits.
func TestForkUnseen(t *testing.T) {
	for clients := 2; clients <= 8; clients++ {
		st := tell(t, clients)
		for c := range clients {
			st.does(c)
		}
		st.forks(1)
		for range 5 {
			for c := 1; c < clients; c++ {
				st.does(c)
			}
			st.round()
		}
		for c, p := range st.people {
			if p.w.Halted() {
				t.Fatalf("%d gives the alarm", c)
			}
		}
		// As soon as the other side does something, it has.
		st.asks(0, write, 0, "v")
		st.rises(0)
		st.falls(0)
		st.round()
		st.allHalted()
	}
}
