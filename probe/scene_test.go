package probe_test

import (
	"cmp"
	"math"
	"slices"
	"testing"

	"affidavit/api"
	"affidavit/probe"
)

// The document's numbers, written out: one that were another one in the program would be found.
const (
	fewest = 2
	most   = 8
	every  = 4
	idle   = 7
)

// numbers are those that clients have, and those around them and far away, some of which have a client's last bits.
func numbers() []int {
	return []int{
		math.MinInt, math.MinInt + 1, -1 << 32, -257, -256, -255, -8, -2, -1, 0, 1, 2, 3, 4, 5, 6, 7, 8, 9, 10,
		254, 255, 256, 257, 258, 1 << 16, 1 << 32, 1<<32 + 1, 1<<32 + 2, math.MaxInt - 1, math.MaxInt,
	}
}

// fresh makes a prober.
func fresh(t *testing.T, clients, me int) *probe.Prober {
	t.Helper()
	p, e := probe.New(clients, me)
	if e != api.OK || p == nil {
		t.Fatalf("New(%d, %d): %d", clients, me, int(e))
	}
	return p
}

// ticks asks for what Tick answers: whose register is read (-1: nobody's), and who is asked.
func ticks(t *testing.T, p *probe.Prober, busy bool, read int, asked ...int) {
	t.Helper()
	l, r := p.Tick(busy)
	if !slices.Equal(l, asked) || r != read {
		t.Fatalf("Tick(%v): %v, %d, and not %v, %d", busy, l, r, asked, read)
	}
}

// passes lets ticks go by of which it tells nothing.
func passes(p *probe.Prober, n int, busy bool) {
	for range n {
		p.Tick(busy)
	}
}

// hears asks for true.
func hears(t *testing.T, p *probe.Prober, client int) {
	t.Helper()
	if !p.Heard(client) {
		t.Fatalf("Heard(%d): false", client)
	}
}

// asks asks for true.
func asks(t *testing.T, p *probe.Prober) {
	t.Helper()
	if !p.Asked() {
		t.Fatal("Asked: false")
	}
}

// look is all that there is to see.
type look struct {
	next int
	dues [most]int
}

// looked is all that can be seen; nobody is due that there is not.
func looked(t *testing.T, p *probe.Prober) look {
	l := look{next: p.Next()}
	for client := range most {
		l.dues[client] = p.Due(client)
	}
	for _, n := range [...]int{math.MinInt, -1, most, most + 1, 256, 1 << 32, math.MaxInt} {
		if due := p.Due(n); due != 0 {
			t.Fatalf("Due(%d): %d", n, due)
		}
	}
	return l
}

// sees asks for whose register comes next, and when each client is due.
func sees(t *testing.T, p *probe.Prober, next int, dues ...int) {
	t.Helper()
	want := look{next: next}
	copy(want.dues[:], dues)
	if got := looked(t, p); got != want {
		t.Fatalf("seen: %v, and not %v", got, want)
	}
}

// event is what happened behind so many ticks: a client was heard, or asked; me's is that it asked for an operation.
type event struct {
	tick, client int
}

// book is the second set of rules: it has all that happened, in order, and tells everything from that anew.
type book struct {
	clients, me, now int
	events           []event
	reads            []int // at which ticks
}

// others are the other clients, from the one behind me on, behind the last one the first one.
func (b *book) others() []int {
	var above, below []int
	for client := range b.clients {
		if client > b.me {
			above = append(above, client)
		}
		if client < b.me {
			below = append(below, client)
		}
	}
	return append(above, below...)
}

// due is so many ticks behind the last event of a client's, or behind the beginning.
func (b *book) due(client, later int) int {
	for i := len(b.events) - 1; i >= 0; i-- {
		if b.events[i].client == client {
			return b.events[i].tick + later
		}
	}
	return later
}

// next is as far on among the others as there were reads.
func (b *book) next() int {
	others := b.others()
	return others[len(b.reads)%len(others)]
}

// is tells whether there is that other client.
func (b *book) is(client int) bool { return client != b.me && client >= 0 && client < b.clients }

// happened writes down what happened now.
func (b *book) happened(client int) {
	b.events = append(b.events, event{b.now, client})
}

// tick does what P17.3 says.
func (b *book) tick(busy bool) ([]int, int) {
	b.now++
	asked := slices.DeleteFunc(b.others(), func(client int) bool { return b.due(client, every) > b.now })
	slices.SortFunc(asked, func(a, c int) int {
		return cmp.Or(b.due(a, every)-b.due(c, every), a-c)
	})
	for _, client := range asked {
		b.happened(client)
	}
	if busy || b.due(b.me, idle) > b.now {
		return asked, -1
	}
	read := b.next()
	b.happened(b.me)
	b.reads = append(b.reads, b.now)
	return asked, read
}

// look does what P17.4 says.
func (b *book) look() look {
	l := look{next: b.next()}
	for _, client := range b.others() {
		l.dues[client] = b.due(client, every)
	}
	return l
}

// both is a prober that is to be held against a book.
type both struct {
	p *probe.Prober
	b *book
}

// pair makes a prober, and its book.
func pair(t *testing.T, clients, me int) both {
	t.Helper()
	return both{fresh(t, clients, me), &book{clients: clients, me: me}}
}

// same asks for the same looks.
func (x both) same(t *testing.T, what string) {
	if got, want := looked(t, x.p), x.b.look(); got != want {
		t.Fatalf("%d clients, me %d, behind %s and %d ticks: %v, and not %v", x.b.clients, x.b.me, what, x.b.now, got, want)
	}
}

// tick asks for the same answer, and the same looks behind it. It tells the answer.
func (x both) tick(t *testing.T, busy bool) ([]int, int) {
	asked, read := x.p.Tick(busy)
	wantAsked, wantRead := x.b.tick(busy)
	if !slices.Equal(asked, wantAsked) || read != wantRead {
		t.Fatalf("%d clients, me %d, tick %d: %v, %d, and not %v, %d", x.b.clients, x.b.me, x.b.now, asked, read, wantAsked, wantRead)
	}
	x.same(t, "Tick")
	return asked, read
}

// heard likewise.
func (x both) heard(t *testing.T, client int) {
	want := x.b.is(client)
	if got := x.p.Heard(client); got != want {
		t.Fatalf("%d clients, me %d: Heard(%d): %v", x.b.clients, x.b.me, client, got)
	}
	if want {
		x.b.happened(client)
	}
	x.same(t, "Heard")
}

// asked likewise.
func (x both) asked(t *testing.T) {
	if !x.p.Asked() {
		t.Fatal("Asked: false")
	}
	x.b.happened(x.b.me)
	x.same(t, "Asked")
}
