package probe_test

import (
	"math/rand"
	"slices"
	"testing"
)

// deed is something that may be done.
type deed func(t *testing.T, x both)

// tick lets one go by.
func tick(busy bool) deed {
	return func(t *testing.T, x both) { x.tick(t, busy) }
}

// heard says that a client was.
func heard(client int) deed {
	return func(t *testing.T, x both) { x.heard(t, client) }
}

// asked says that me asked for an operation.
func asked(t *testing.T, x both) { x.asked(t) }

// P17.2 to P17.4: all rows of a few deeds, from each of the first ticks on.
func TestAllRows(t *testing.T) {
	for _, c := range []struct{ clients, me, steps int }{{2, 0, 6}, {2, 1, 6}, {3, 0, 5}, {3, 1, 5}, {3, 2, 5}} {
		deeds := []deed{tick(false), tick(true), asked}
		for client := range c.clients {
			deeds = append(deeds, heard(client))
		}
		rows := 1
		for range c.steps {
			rows *= len(deeds)
		}
		for from := range 9 {
			for row := range rows {
				x := pair(t, c.clients, c.me)
				for range from {
					x.tick(t, false)
				}
				for range c.steps {
					deeds[row%len(deeds)](t, x)
					row /= len(deeds)
				}
				x.tick(t, false)
			}
		}
	}
}

// P17.2 to P17.4: in which order clients are heard between two ticks plays no part: those that are due at one tick are told rising.
func TestAllOrders(t *testing.T) {
	const clients, me = 6, 2
	var from func(l []int, n int)
	from = func(l []int, n int) {
		for gap := 0; n == len(l) && gap < 1<<len(l); gap++ {
			x := pair(t, clients, me)
			for i, client := range l {
				x.heard(t, client)
				if gap>>i&1 == 1 {
					x.tick(t, false)
				}
			}
			for range 10 {
				x.tick(t, false)
			}
		}
		for i := n; i < len(l); i++ {
			l[n], l[i] = l[i], l[n]
			from(l, n+1)
			l[n], l[i] = l[i], l[n]
		}
	}
	from([]int{0, 1, 3, 4, 5}, 0)
}

// watch asks for P17.5 and P17.6, of what Tick answers alone.
type watch struct {
	now, clients, me int
	asked, heard     map[int]int // at which tick each client was, the last time
	reads            []int
}

// ticked takes what a tick answered.
func (w *watch) ticked(t *testing.T, asked []int, read int) {
	t.Helper()
	w.now++
	for client := range w.clients {
		is := slices.Contains(asked, client)
		last, was := w.heard[client]
		if is && was && w.now-last < every {
			t.Fatalf("tick %d: client %d is asked, and was heard behind %d", w.now, client, last)
		}
		silent := w.now - max(w.asked[client], w.heard[client])
		if client != w.me && !is && silent >= every {
			t.Fatalf("tick %d: client %d is not asked for %d ticks", w.now, client, silent)
		}
		if is {
			w.asked[client] = w.now
		}
	}
	if slices.Contains(asked, w.me) || read == w.me {
		t.Fatalf("tick %d: me itself", w.now)
	}
	if read != -1 {
		w.reads = append(w.reads, read)
	}
}

// turns asks for each row of as many reads as there are others being one of all of them, the first one of the one behind me.
func (w *watch) turns(t *testing.T) {
	t.Helper()
	n := w.clients - 1
	if len(w.reads) < 3*n {
		t.Fatalf("%d reads", len(w.reads))
	}
	if first := (w.me + 1) % w.clients; w.reads[0] != first {
		t.Fatalf("the first read is of %d, and not of %d", w.reads[0], first)
	}
	for i := range len(w.reads) - n {
		row := slices.Clone(w.reads[i : i+n])
		slices.Sort(row)
		if len(slices.Compact(row)) != n || w.reads[i+n] != w.reads[i] {
			t.Fatalf("reads %d on: %v", i, w.reads[i:i+n+1])
		}
	}
}

// P17.2 to P17.6: some thousands of ticks, beside the book, with words of all who may be, and others.
func TestStories(t *testing.T) {
	for clients := fewest; clients <= most; clients++ {
		for me := range clients {
			r := rand.New(rand.NewSource(int64(clients*10 + me)))
			w := &watch{clients: clients, me: me, asked: map[int]int{}, heard: map[int]int{}}
			story(t, r, w, 4000)
			w.turns(t)
		}
	}
}

// story is so many ticks; how often what is done differs from one part of it to the next one.
func story(t *testing.T, r *rand.Rand, w *watch, ticks int) {
	t.Helper()
	x := pair(t, w.clients, w.me)
	var busy, words, asking int
	for n := range ticks {
		if n%50 == 0 {
			busy, words, asking = r.Intn(100), r.Intn(3*w.clients), r.Intn(30)
		}
		for range words {
			if r.Intn(4) > 0 {
				continue
			}
			client := r.Intn(w.clients+2) - 1
			x.heard(t, client)
			if x.b.is(client) {
				w.heard[client] = w.now
			}
		}
		if r.Intn(100) < asking {
			x.asked(t)
		}
		l, read := x.tick(t, r.Intn(100) < busy)
		w.ticked(t, l, read)
	}
}

// P17.5: whoever is not heard is asked at each Every-th tick, for thousands of ticks, whatever the others say.
func TestSoonForLong(t *testing.T) {
	for clients := fewest; clients <= most; clients++ {
		p := fresh(t, clients, 0)
		for tick := 1; tick <= 5000; tick++ {
			for client := 2; client < clients; client++ {
				if tick%client == 0 {
					hears(t, p, client)
				}
			}
			l, _ := p.Tick(tick%2 == 0)
			if slices.Contains(l, 1) != (tick%every == 0) {
				t.Fatalf("%d clients, tick %d: %v", clients, tick, l)
			}
		}
	}
}

// Two beside each other know nothing of one another, be me the same or not.
func TestApart(t *testing.T) {
	for _, other := range []int{0, 1} {
		r := rand.New(rand.NewSource(int64(other)))
		x, y := pair(t, 4, 0), pair(t, 4, other)
		for range 500 {
			for _, z := range []both{x, y} {
				deeds := []deed{tick(false), tick(true), asked, heard(r.Intn(4)), heard(r.Intn(4))}
				deeds[r.Intn(len(deeds))](t, z)
				x.same(t, "another one's deed")
				y.same(t, "another one's deed")
			}
		}
		if looked(t, x.p) == looked(t, y.p) {
			t.Error("they should have come apart")
		}
	}
}
