package ustor_test

import (
	"fmt"
	"math/rand"
	"strings"
	"testing"

	"affidavit/api"
	"affidavit/msg"
	"affidavit/server"
	"affidavit/ustor"
)

// person is an honest client, its links to the server and back, and what its reply should tell.
type person struct {
	c        *ustor.Reg
	up, down []string
	asked    api.Submit // its last one that the server has taken
	truth    api.Got    // what the server should have answered to it
	done     int        // how many replies it has believed
	sent     map[int]string
}

// story is honest clients of an honest server, the links between them first in, first out.
type story struct {
	t      testing.TB
	g      group
	s      *server.Server
	people []person
	long   string // the longest view that has come to the server
	full   bool
}

func tell(t testing.TB, clients int) *story {
	t.Helper()
	s, e := server.New(clients)
	if e != api.OK {
		t.Fatalf("a server of %d: %d", clients, int(e))
	}
	st := &story{t: t, g: groupOf(t, clients), s: s, people: make([]person, clients)}
	for i := range st.people {
		c, e := ustor.New(st.g.ring, i)
		if e != api.OK {
			t.Fatal(int(e))
		}
		st.people[i] = person{c: c, sent: map[int]string{}}
	}
	return st
}

// sends puts a message on its way to the server: of one number there are the very bytes only.
func (st *story) sends(c int, m api.Msg) {
	st.t.Helper()
	p := &st.people[c]
	b := put(st.t, m)
	if m.Kind == isSubmit {
		if was, is := p.sent[m.Submit.Number]; is && was != b {
			st.t.Fatalf("%d's %d has two contents", c, m.Submit.Number)
		}
		p.sent[m.Submit.Number] = b
	}
	p.up = append(p.up, b)
}

// asks has a client ask, if it may.
func (st *story) asks(c, kind, target int, value string) bool {
	st.t.Helper()
	p := &st.people[c]
	m, e := p.c.Ask(kind, target, value)
	if len(p.c.View()) == most && e == api.ErrFull {
		st.full = true
		return false
	}
	if e == api.ErrBusy && p.c.Busy() {
		return false
	}
	if e != api.OK || m.Submit.Number != p.done+1 {
		st.t.Fatalf("%d behind %d: %+v, %d", c, p.done, m, int(e))
	}
	st.sends(c, m)
	return true
}

// rises has the first text of a client's link come to the server.
func (st *story) rises(c int) bool {
	st.t.Helper()
	p := &st.people[c]
	if len(p.up) == 0 {
		return false
	}
	b := p.up[0]
	p.up = p.up[1:]
	m, e := msg.Get(b)
	if e != api.OK {
		st.t.Fatal(int(e))
	}
	truth, order := st.truth(c, m), st.s.Regs().Order()
	answers := st.s.On(c, b)
	p.down = append(p.down, answers...)
	switch {
	case m.Kind == isCommit && len(m.View) > len(st.long):
		st.long = m.View
	case m.Kind == isSubmit && m.Submit.Number > p.asked.Number:
		if len(order) == most && len(answers) == 0 {
			st.full = true
			break
		}
		p.asked, p.truth = m.Submit, truth
	}
	return true
}

// truth is what is to be learned from the reply to a message that comes to the server now.
func (st *story) truth(c int, m api.Msg) api.Got {
	got := api.Got{View: st.s.Regs().Order() + by(c), By: -1, Long: st.long}
	if st.long != "" {
		got.By = int(st.long[len(st.long)-1])
		got.LongTag = st.g.done(got.By, st.long)
	}
	if m.Kind != isSubmit || m.Submit.Kind != read {
		return got
	}
	target := m.Submit.Target
	held := st.people[target].asked
	got.Number, got.Value = held.Number, held.Value
	if seen := st.s.Regs().View(target); seen != "" {
		got.Seen, got.SeenTag = seen, st.g.done(target, seen)
	}
	return got
}

// falls has the first text of a client's link come to it: it is believed, or it is one that was answered already.
func (st *story) falls(c int) bool {
	st.t.Helper()
	p := &st.people[c]
	if len(p.down) == 0 {
		return false
	}
	m, e := msg.Get(p.down[0])
	if e != api.OK {
		st.t.Fatal(int(e))
	}
	p.down = p.down[1:]
	was, held := p.c.View(), p.c.Value()
	got, e := p.c.Reply(m)
	if m.Reply.Number <= p.done {
		if e != api.ErrNone || got != (api.Got{}) || p.c.View() != was {
			st.t.Fatalf("%d: the reply to %d once more: %+v, %d", c, m.Reply.Number, got, int(e))
		}
		return true
	}
	if e != api.OK || got != p.truth {
		st.t.Fatalf("%d with %q, %d:\n%+v, %d, and not\n%+v", c, was, m.Reply.Number, got, int(e), p.truth)
	}
	p.done++
	view := p.c.View()
	if view != got.View || p.c.Number() != p.done || p.c.Busy() || p.c.Value() != held {
		st.t.Fatalf("%d: %q, %d, %v", c, view, p.c.Number(), p.c.Busy())
	}
	if !strings.HasPrefix(view, was) || !strings.HasSuffix(view, by(c)) || count(view, c) != p.done {
		st.t.Fatalf("%d: %q does not go on %q", c, view, was)
	}
	commit, is := p.c.Commit()
	if !is || commit.View != view || commit.Tag != st.g.done(c, view) {
		st.t.Fatalf("%d: %+v, %v", c, commit, is)
	}
	st.sends(c, commit)
	return true
}

// crashes has a client laid and read; what was on its links is lost, or is not. It says again what it said last.
func (st *story) crashes(c int, lost bool) {
	st.t.Helper()
	p := &st.people[c]
	was := lookOf(st.t, p.c)
	again, e := ustor.Read(st.g.ring, c, was.bytes)
	if e != api.OK || lookOf(st.t, again) != was {
		st.t.Fatalf("%d: Read of %q: %d", c, was.bytes, int(e))
	}
	p.c = again
	if lost {
		p.up, p.down = nil, nil
	}
	if m, is := p.c.Commit(); is {
		st.sends(c, m)
	}
	if m, is := p.c.Again(); is {
		st.sends(c, m)
	}
}

// ends lets all texts come, and asks that each operation is answered, and that all was one line.
func (st *story) ends() {
	st.t.Helper()
	for moved := true; moved; {
		moved = false
		for c := range st.people {
			moved = st.rises(c) || moved
			moved = st.falls(c) || moved
		}
	}
	order := st.s.Regs().Order()
	for c, p := range st.people {
		if !strings.HasPrefix(order, p.c.View()) {
			st.t.Fatalf("%d: %q, and all is %q", c, p.c.View(), order)
		}
		if p.asked.Number != p.done || p.c.Busy() && !st.full {
			st.t.Fatalf("%d: %d asked, %d answered, waits: %v", c, p.asked.Number, p.done, p.c.Busy())
		}
		if count(order, c) != p.done {
			st.t.Fatalf("%d: %d in %q, %d answered", c, count(order, c), order, p.done)
		}
	}
}

// P15.9: all orders of the first moves of two and three clients, each asking, or whatever comes next on its links.
func TestAllOrders(t *testing.T) {
	for _, c := range []struct{ clients, moves int }{{2, 9}, {3, 6}} {
		total := 1
		for range c.moves {
			total *= c.clients
		}
		for kinds := range 4 {
			for n := range total {
				st := tell(t, c.clients)
				for rest, i := n, 0; i < c.moves; rest, i = rest/c.clients, i+1 {
					st.next(rest%c.clients, kinds)
				}
				st.ends()
			}
		}
	}
}

// next has a client do what comes next of all that it may: a text comes up, one comes down, or it asks.
func (st *story) next(c, kinds int) {
	st.t.Helper()
	if st.rises(c) || st.falls(c) {
		return
	}
	n := st.people[c].done + 1
	// Who reads, and whom, is different in each of the four.
	if (n+c+kinds)%2 == 0 {
		st.asks(c, read, (c+kinds/2+n)%len(st.people), "")
		return
	}
	st.asks(c, write, c, valueOf(c, n))
}

// P15.7, P15.8, P15.9: stories at random, of all sizes of groups, with crashes and without.
func TestStories(t *testing.T) {
	for seed := range 120 {
		rnd := rand.New(rand.NewSource(int64(seed)))
		st := tell(t, 2+seed%7)
		for range 50 + rnd.Intn(300) {
			c := rnd.Intn(len(st.people))
			switch k := rnd.Intn(12); {
			case k < 3:
				st.asks(c, write, c, fmt.Sprintf("%d%s", rnd.Intn(1000), strings.Repeat("\xfe", rnd.Intn(20))))
			case k < 6:
				st.asks(c, read, rnd.Intn(len(st.people)), "")
			case k < 9:
				st.rises(c)
			case k < 11:
				st.falls(c)
			case seed%2 == 1:
				st.crashes(c, rnd.Intn(2) == 0)
			}
		}
		st.ends()
	}
}

// P15.9: one that is slow, or down, holds up nobody: all others go on, and it is answered when its texts come.
func TestSlow(t *testing.T) {
	for clients := 2; clients <= 8; clients++ {
		st := tell(t, clients)
		st.asks(0, write, 0, "slow")
		st.rises(0)
		for n := 1; n <= 6; n++ {
			for c := 1; c < clients; c++ {
				if !st.asks(c, read, 0, "") || !st.rises(c) || !st.falls(c) || !st.rises(c) {
					t.Fatalf("%d is held up at %d", c, n)
				}
				if got := st.people[c].truth; got.Number != 1 || got.Value != "slow" {
					t.Fatalf("%+v", got)
				}
			}
		}
		st.crashes(0, true)
		st.ends()
		if st.people[0].c.View() != "\x00" {
			t.Errorf("%q", st.people[0].c.View())
		}
	}
}

// P15.2, P15.9: a story up to its very end, of 512 operations.
func TestLongStory(t *testing.T) {
	for seed, clients := range []int{2, 3, 8} {
		rnd := rand.New(rand.NewSource(int64(seed)))
		st := tell(t, clients)
		for !st.full {
			c := rnd.Intn(clients)
			if rnd.Intn(20) == 0 {
				st.crashes(c, rnd.Intn(2) == 0)
			}
			st.next(c, rnd.Intn(4))
		}
		st.ends()
		if order := st.s.Regs().Order(); len(order) != most {
			t.Errorf("%d clients: %d operations", clients, len(order))
		}
	}
}

// P15.7: a server that forks is believed by each side alone.
func TestForked(t *testing.T) {
	a, b := tell(t, 2), tell(t, 2)
	b.g = a.g
	for i := range b.people {
		c, e := ustor.New(a.g.ring, i)
		if e != api.OK {
			t.Fatal(int(e))
		}
		b.people[i].c = c
	}
	for _, st := range []*story{a, b} {
		st.asks(0, write, 0, "both")
		st.ends()
	}
	a.asks(0, write, 0, "one side")
	a.ends()
	b.asks(1, read, 0, "")
	b.ends()
	// 0 of the one side, answered by the other one.
	p := a.people[0].c
	m, e := p.Ask(write, 0, "next")
	if e != api.OK {
		t.Fatal(int(e))
	}
	was := lookOf(t, p)
	y := b.g.reply(0, m.Submit, b.people[1].c.View())
	if got, e := p.Reply(ofReply(y)); e != api.ErrFork || got != (api.Got{}) || lookOf(t, p) != was {
		t.Errorf("%+v, %d", got, int(e))
	}
}
