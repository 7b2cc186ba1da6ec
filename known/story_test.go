package known_test

import (
	"math/rand"
	"slices"
	"testing"

	"affidavit/api"
)

// everything that may be learned of some views, from each client.
func everything(clients int, views []string) []told {
	var l []told
	for _, view := range views {
		for from := range clients {
			l = append(l, told{from, ender(view), view, tagOf(view)})
		}
	}
	return l
}

// P16.2 to P16.5: all rows of three of all small views of two clients, and of two of those of three.
func TestAllSmall(t *testing.T) {
	for _, c := range []struct{ clients, operations, steps int }{{2, 3, 3}, {3, 3, 2}, {2, 2, 4}} {
		all := everything(c.clients, small(c.clients, c.operations))
		rows := 1
		for range c.steps {
			rows *= len(all)
		}
		for me := range c.clients {
			for row := range rows {
				p := pair(t, c.clients, me)
				for range c.steps {
					p.learn(t, all[row%len(all)])
					row /= len(all)
				}
			}
		}
	}
}

// orders does something with each order of a list.
func orders(l []told, do func(l []told)) {
	var from func(n int)
	from = func(n int) {
		if n == len(l) {
			do(l)
			return
		}
		for i := n; i < len(l); i++ {
			l[n], l[i] = l[i], l[n]
			from(n + 1)
			l[n], l[i] = l[i], l[n]
		}
	}
	from(0)
}

// inOrder is what is seen behind views that all fit, in an order.
func inOrder(t *testing.T, clients, me int, l []told) look {
	t.Helper()
	k := fresh(t, clients, me)
	for _, x := range l {
		learns(t, k, x.from, x.by, x.view, x.tag, api.OK)
	}
	return looked(t, k)
}

// P16.6: views that all fit, in all orders, tell the same.
func TestAllOrders(t *testing.T) {
	const view = "\x00\x01\x02\x00\x02\x01\x01\x00"
	for _, l := range [][]told{
		everything(3, []string{view[:1], view[:4]}),
		everything(3, []string{view[:3], view[:7]}),
		everything(2, []string{"\x00\x01", "\x00\x01\x01", "\x00\x01\x01\x00"}),
		{{0, 0, view, tagOf(view)}, {1, 1, view[:2], tagOf(view[:2])}, {1, 1, view[:6], tagOf(view[:6])}, {2, 2, view[:5], tagOf(view[:5])}, {2, 0, view, tagOf(view)}, {0, 2, view[:3], tagOf(view[:3])}},
	} {
		clients := 3
		for me := range clients {
			want := inOrder(t, clients, me, l)
			orders(slices.Clone(l), func(l []told) {
				if got := inOrder(t, clients, me, l); got != want {
					t.Fatalf("in the order %v:\n%v\nand not:\n%v", l, got, want)
				}
			})
		}
	}
}

// P16.6: of views that are the same but for their tags the first one's is kept; in all else the order plays no part.
func TestOrdersOfTags(t *testing.T) {
	l := []told{{0, 1, "\x00\x01", api.Digest{1}}, {1, 1, "\x00\x01", api.Digest{2}}, {2, 1, "\x00\x01", api.Digest{3}}, {2, 0, "\x00", api.Digest{4}}, {0, 0, "\x00", api.Digest{5}}}
	want := inOrder(t, 3, 0, l)
	orders(l, func(l []told) {
		got := inOrder(t, 3, 0, l)
		first := slices.IndexFunc(l, func(x told) bool { return len(x.view) == 2 })
		if got.tag != l[first].tag {
			t.Fatalf("in the order %v: %v", l, got.tag)
		}
		got.tag = want.tag
		if got != want {
			t.Fatalf("in the order %v:\n%v\nand not:\n%v", l, got, want)
		}
	})
}

// P16.6: many views of one long line, in many orders, some of them several times.
func TestManyOrders(t *testing.T) {
	for clients := fewest; clients <= most; clients++ {
		r := rand.New(rand.NewSource(int64(clients)))
		long, me := line(longest, clients), clients/2
		var l []told
		for n := 1; n <= longest; n += 1 + r.Intn(20) {
			view := long[:n]
			for range 1 + r.Intn(3) {
				l = append(l, told{r.Intn(clients), ender(view), view, tagOf(view)})
			}
			l = append(l, told{ender(view), ender(view), view, tagOf(view)})
		}
		want := inOrder(t, clients, me, l)
		slices.Reverse(l)
		if got := inOrder(t, clients, me, l); got != want {
			t.Fatal("from the longest one on:", got)
		}
		for range 30 {
			r.Shuffle(len(l), func(i, j int) { l[i], l[j] = l[j], l[i] })
			if got := inOrder(t, clients, me, append(l, l[:len(l)/2]...)); got != want {
				t.Fatalf("%d clients:\n%v\nand not:\n%v", clients, got, want)
			}
		}
	}
}

// anything is something that may come: mostly a view of a line, now and then one that parts from it, or is wrong.
func anything(r *rand.Rand, clients int, long string) told {
	view := long[:1+r.Intn(len(long))]
	x := told{r.Intn(clients), ender(view), view, api.Digest{byte(r.Intn(256)), byte(r.Intn(256))}}
	switch r.Intn(12) {
	case 0:
		x.by = r.Intn(clients)
		x.view = ends(view[:r.Intn(len(view))], x.by)
	case 1:
		x.view = ends(view, r.Intn(clients+1))
	case 2:
		b := []byte(view)
		b[r.Intn(len(b))] = byte(r.Intn(clients + 1))
		x.view = string(b)
	case 3:
		l := numbers()
		x.from = l[r.Intn(len(l))]
	case 4:
		l := numbers()
		x.by = l[r.Intn(len(l))]
	case 5:
		x.from = x.by
	case 6:
		x.view = ""
	}
	return x
}

// P16.2 to P16.5: long stories, beside a book that has all that came.
func TestStories(t *testing.T) {
	for seed := range int64(60) {
		r := rand.New(rand.NewSource(seed))
		clients := fewest + r.Intn(most-fewest+1)
		p, seen := pair(t, clients, r.Intn(clients)), map[api.Errno]int{}
		long := line(longest+10, clients)
		for step := range 250 {
			// The line grows as the story does, so that most views are somewhere about its end.
			reach := min(1+step*3, len(long))
			seen[p.learn(t, anything(r, clients, long[:reach]))]++
		}
		for _, e := range []api.Errno{api.OK, api.ErrArg, api.ErrFork} {
			if seen[e] == 0 {
				t.Errorf("story %d never has %d", seed, int(e))
			}
		}
	}
}

// P16.5: a line that grows by one operation at a time, up to 512, told by everybody in turn: all grows with it.
func TestLongLine(t *testing.T) {
	for clients := fewest; clients <= most; clients += 3 {
		p, long := pair(t, clients, 1), line(longest, clients)
		for n := 1; n <= longest; n++ {
			view := long[:n]
			for _, from := range []int{ender(view), n % clients} {
				if e := p.learn(t, told{from, ender(view), view, tagOf(view)}); e != api.OK {
					t.Fatal(int(e))
				}
			}
		}
		if v, _, _ := p.k.Longest(); v != long {
			t.Errorf("%d operations", len(v))
		}
	}
}

// Two beside each other know nothing of one another, be me the same or not.
func TestApart(t *testing.T) {
	for _, other := range []int{0, 1} {
		r := rand.New(rand.NewSource(int64(other)))
		p, q := pair(t, 3, 0), pair(t, 3+other, other)
		for range 300 {
			p.learn(t, anything(r, 3, "\x00\x01\x02\x00\x01\x02"))
			q.learn(t, anything(r, 3, "\x01\x01\x00\x02\x02"))
			sees(t, p.k, p.b.look())
		}
		if hasNothing := nothing(3); looked(t, p.k) == hasNothing || p.b.look().longest == q.b.look().longest {
			t.Error("they should know something, and not the same")
		}
	}
}
