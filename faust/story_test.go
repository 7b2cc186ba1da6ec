package faust_test

import (
	"fmt"
	"math/rand"
	"slices"
	"strings"
	"testing"

	"affidavit/api"
	"affidavit/msg"
	"affidavit/server"
)

// person is a watcher, held against its model, its links to the server and back, and how many replies it has believed.
type person struct {
	*pair
	up, down []string
	done     int
	sent     map[int]string
}

// letter is what one client tells another one.
type letter struct {
	to int
	b  string
}

// post is a text that came to a server.
type post struct {
	from int
	b    string
}

// story is honest clients, the links between them and their servers first in, first out, and letters between them. There is one server, or, behind a fork, two.
type story struct {
	t       testing.TB
	g       group
	servers []*server.Server
	log     []post // of the first one
	side    []int  // by which one each client is served
	people  []*person
	letters []letter
	full    bool
}

func tell(t testing.TB, clients int) *story {
	t.Helper()
	st := &story{t: t, g: groupOf(t, clients), side: make([]int, clients)}
	st.servers = []*server.Server{st.server()}
	for i := range clients {
		st.people = append(st.people, &person{pair: begin(t, st.g, i), sent: map[int]string{}})
	}
	return st
}

func (st *story) server() *server.Server {
	s, e := server.New(st.g.clients)
	if e != api.OK {
		st.t.Fatal(int(e))
	}
	return s
}

// forks has another server, which knows what the first one knows, serve the clients whose bits are set.
func (st *story) forks(bits int) {
	s := st.server()
	for _, x := range st.log {
		s.On(x.from, x.b)
	}
	st.servers = append(st.servers, s)
	for c := range st.side {
		st.side[c] = bits >> c & 1
	}
}

// sends puts on its way what a client sends: of one number there are the very bytes only. Nobody may have given the alarm, unless there is a reason.
func (st *story) sends(c int, l []api.Send) {
	st.t.Helper()
	p := st.people[c]
	for _, x := range l {
		b := textOf(st.t, x.M)
		if x.M.Kind == isSubmit {
			if was, is := p.sent[x.M.Submit.Number]; is && was != b {
				st.t.Fatalf("%d's %d has two contents", c, x.M.Submit.Number)
			}
			p.sent[x.M.Submit.Number] = b
		}
		if x.To == -1 {
			p.up = append(p.up, b)
		} else {
			st.letters = append(st.letters, letter{x.To, b})
		}
	}
	if p.w.Halted() && !st.forked() {
		st.t.Fatalf("%d gives the alarm, though all fit: %q", c, p.view)
	}
}

// forked tells whether any two views that clients have had do not fit.
func (st *story) forked() bool {
	for i, p := range st.people {
		for _, q := range st.people[:i] {
			if !fit(p.view, q.view) {
				return true
			}
		}
	}
	return false
}

// asks has a client ask, if it may.
func (st *story) asks(c, kind, target int, value string) bool {
	st.t.Helper()
	p := st.people[c]
	if p.w.Reg().Busy() || p.w.Halted() {
		return false
	}
	l, e := p.asks(kind, target, value)
	switch {
	case e == api.ErrFull && len(p.view) == most:
		st.full = true
		return false
	case e != api.OK:
		st.t.Fatalf("%d: %d", c, int(e))
	}
	st.sends(c, l)
	return true
}

// rises has the first text of a client's link come to its server.
func (st *story) rises(c int) bool {
	p := st.people[c]
	if len(p.up) == 0 {
		return false
	}
	b := p.up[0]
	p.up = p.up[1:]
	p.down = append(p.down, st.servers[st.side[c]].On(c, b)...)
	if st.side[c] == 0 {
		st.log = append(st.log, post{c, b})
	}
	return true
}

// falls has the first text of a client's link come to it: it is believed, or it is one that was answered already.
func (st *story) falls(c int) bool {
	st.t.Helper()
	p := st.people[c]
	if len(p.down) == 0 {
		return false
	}
	m, e := msg.Get(p.down[0])
	if e != api.OK {
		st.t.Fatal(int(e))
	}
	p.down = p.down[1:]
	halted, waits := p.w.Halted(), p.waits && m.Reply.Number == p.x.Number
	_, l, e := p.takes(m)
	st.sends(c, l)
	switch {
	case halted && e == api.ErrHalt, !halted && !waits && e == api.ErrNone, e == api.ErrFork && p.w.Halted():
		return true
	case e != api.OK:
		st.t.Fatalf("%d does not believe %+v: %d", c, m, int(e))
	}
	if p.done++; p.w.Reg().Number() != p.done || p.w.Dummy() {
		st.t.Fatalf("%d: %d operations, and not %d", c, p.w.Reg().Number(), p.done)
	}
	return true
}

// opens has the letter at a place come to whom it goes to.
func (st *story) opens(i int) {
	st.t.Helper()
	x := st.letters[i]
	st.letters = slices.Delete(st.letters, i, i+1)
	m, e := msg.Get(x.b)
	if e != api.OK {
		st.t.Fatal(int(e))
	}
	p := st.people[x.to]
	halted := p.w.Halted()
	l, e := p.pair.opens(m)
	if e != api.OK && !halted && !p.w.Halted() {
		st.t.Fatalf("%d does not take %+v: %d", x.to, m, int(e))
	}
	st.sends(x.to, l)
}

// ticks lets one go by for a client.
func (st *story) ticks(c int, busy bool) {
	st.t.Helper()
	st.sends(c, st.people[c].ticks(busy))
}

// crashes has a client laid and read; what was on its links is lost, or is not. It says again what it said last.
func (st *story) crashes(c int, lost bool) {
	st.t.Helper()
	p := st.people[c]
	p.pair.crashes()
	if lost {
		p.up, p.down = nil, nil
	}
	st.sends(c, p.repeats())
}

// flows lets all texts of all links come.
func (st *story) flows() {
	st.t.Helper()
	for moved := true; moved; {
		moved = false
		for c := range st.people {
			moved = st.rises(c) || moved
			moved = st.falls(c) || moved
		}
	}
}

// delivers lets all letters come, in order, as long as there are some.
func (st *story) delivers() {
	st.t.Helper()
	for n := 0; len(st.letters) > 0; n++ {
		if n > 100000 {
			st.t.Fatal("letters without end")
		}
		st.opens(0)
	}
}

// round is a fair one: all letters come, all ask all others, and all letters come.
func (st *story) round() {
	st.t.Helper()
	st.delivers()
	for range every {
		for c := range st.people {
			st.ticks(c, true)
		}
	}
	st.delivers()
}

// allHalted asks that each client has given the alarm.
func (st *story) allHalted() {
	st.t.Helper()
	for c, p := range st.people {
		if !p.w.Halted() {
			st.t.Fatalf("%d of %d has not given the alarm: %q", c, len(st.people), p.view)
		}
	}
}

// ends lets all come, and asks that each operation is answered, that all was one line, that nobody gave the alarm, and that all is known to all then.
func (st *story) ends() {
	st.t.Helper()
	st.flows()
	order := st.servers[0].Regs().Order()
	for c, p := range st.people {
		if p.w.Halted() || !strings.HasPrefix(order, p.w.Reg().View()) {
			st.t.Fatalf("%d: %v, %q, and all is %q", c, p.w.Halted(), p.w.Reg().View(), order)
		}
		if p.w.Reg().Busy() && !st.full || count(order, c) != p.done {
			st.t.Fatalf("%d: waits: %v, %d in %q, %d answered", c, p.w.Reg().Busy(), count(order, c), order, p.done)
		}
	}
	for range 4 {
		st.round()
	}
	for c, p := range st.people {
		if p.w.Known().Cut() != p.done || p.w.Halted() {
			st.t.Fatalf("%d: %d of %d operations are known to all", c, p.w.Known().Cut(), p.done)
		}
	}
}

// moves does one thing at random: a client asks, a text or a letter comes, early or late, or is lost, or copied, a tick goes by, or a client crashes.
func (st *story) moves(rnd *rand.Rand, crashes bool) {
	st.t.Helper()
	c := rnd.Intn(len(st.people))
	switch k := rnd.Intn(24); {
	case k < 3:
		st.asks(c, write, c, fmt.Sprintf("%d%s", rnd.Intn(1000), strings.Repeat("\xfe", rnd.Intn(20))))
	case k < 5:
		st.asks(c, read, rnd.Intn(len(st.people)), "")
	case k < 9:
		st.rises(c)
	case k < 13:
		st.falls(c)
	case k < 16:
		st.ticks(c, rnd.Intn(4) == 0)
	case k < 20 && len(st.letters) > 0:
		st.opens(rnd.Intn(len(st.letters)))
	case k < 21 && len(st.letters) > 0:
		i := rnd.Intn(len(st.letters))
		st.letters = slices.Delete(st.letters, i, i+1)
	case k < 22 && len(st.letters) > 0 && len(st.letters) < 128:
		st.letters = append(st.letters, st.letters[rnd.Intn(len(st.letters))])
	case crashes:
		st.crashes(c, rnd.Intn(2) == 0)
	}
}

// P18.8: an honest server, and letters that are late, lost, doubled and turned about; with crashes, and without.
func TestHonest(t *testing.T) {
	for seed := range 60 {
		rnd := rand.New(rand.NewSource(int64(seed)))
		st := tell(t, 2+seed%7)
		for range 100 + rnd.Intn(500) {
			st.moves(rnd, seed%2 == 1)
		}
		st.ends()
	}
}

// P18.8: a story of ticks alone, up to its very end: dummies make all known to all, till there is no room for another one.
func TestHonestDummies(t *testing.T) {
	const clients = 8
	st := tell(t, clients)
	for tick := range most*idle/clients + 3*idle {
		for c := range clients {
			st.ticks(c, false)
		}
		st.flows()
		if tick%5 == 0 {
			st.delivers()
		}
	}
	if order := st.servers[0].Regs().Order(); len(order) != most {
		t.Errorf("%d operations", len(order))
	}
	st.full = true
	st.ends()
}

// P18.8: what two others tell of one line, in all orders in which it may come, and each of it once more: nobody gives the alarm, and the same is known.
func TestHonestOrders(t *testing.T) {
	g := groupOf(t, 3)
	var told []api.Msg
	for n := 1; n <= 3; n++ {
		told = append(told, g.ofVersion(1, "\x01\x02\x00"[:n]), g.ofVersion(2, "\x01\x02\x00"[:n]))
	}
	var from func(n int)
	from = func(n int) {
		if n == len(told) {
			p := begin(t, g, 0)
			for _, m := range slices.Concat(told, told) {
				p.rejects(m, api.OK, false)
			}
			if p.w.Known().Word(1) != "\x01\x02\x00" || p.w.Known().Word(2) != "\x01\x02\x00" || p.w.Known().Own(1) != "\x01" {
				t.Fatalf("%q, %q", p.w.Known().Word(1), p.w.Known().Own(1))
			}
			return
		}
		for i := n; i < len(told); i++ {
			told[n], told[i] = told[i], told[n]
			from(n + 1)
			told[n], told[i] = told[i], told[n]
		}
	}
	from(0)
}
