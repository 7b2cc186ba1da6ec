package verify_test

import (
	"fmt"
	"slices"
	"strings"
	"testing"

	"affidavit/api"
)

// long is a history of so many operations by clients 0 to 3, in turn.
func long(size int) string { return strings.Repeat("\x00\x01\x02\x03", size/4+1)[:size] }

// fault is one thing that is wrong, which field it touches, and what is answered.
type fault struct {
	what, touches string
	tell          func(s *scene)
	e             api.Errno
}

// faults are all of P14.2's errors, in its order, of brimful's scene.
func faults() []fault {
	list := []fault{
		{"Last is no client", "Last", func(s *scene) { s.y.Last = 6 }, api.ErrArg},
		{"Last is no client, the last of 8", "Last", func(s *scene) { s.y.Last = 7 }, api.ErrArg},
		{"View may not be", "View", func(s *scene) { s.y.View = put(s.y.View, 501, "\x06") }, api.ErrArg},
		{"View does not end with Last", "Last", func(s *scene) { s.y.Last = 0 }, api.ErrFork},
		{"Commit", "Commit", func(s *scene) { s.y.Commit[5] ^= 8 }, api.ErrTag},
		{"View does not go on mine", "view", func(s *scene) { s.view = put(s.view, 1, "\x00") }, api.ErrFork},
		{"View has more of mine", "view", func(s *scene) {
			s.view = s.view[:strings.LastIndex(s.view, "\x02")]
			s.x.Number--
			s.y.Number--
		}, api.ErrFork},
	}
	for i := range 2 {
		field := func(name string) string { return fmt.Sprintf("%s of %d", name, i) }
		list = append(list, []fault{
			{"mine is pending", field("Client"), func(s *scene) { s.y.Pending[i].Client = 2 }, api.ErrFork},
			{"no Client is pending", field("Client"), func(s *scene) { s.y.Pending[i].Client = 6 }, api.ErrArg},
			{"no Target is pending", field("Target"), func(s *scene) { s.y.Pending[i].Target = 7 }, api.ErrArg},
			{"another Number is pending", field("Number"), func(s *scene) { s.y.Pending[i].Number++ }, api.ErrFork},
			{"Asked", field("Asked"), func(s *scene) { s.y.Pending[i].Asked[31] ^= 1 }, api.ErrTag},
			{"Proof", field("Proof"), func(s *scene) { s.y.Pending[i].Proof[0] ^= 1 }, api.ErrTag},
		}...)
	}
	return append(list, []fault{
		{"full", "Pending", func(s *scene) {
			d := long(508) + "\x00\x03\x04"
			s.y.Pending = append(s.y.Pending, s.waits(d, 5, write, 5))
		}, api.ErrFull},
		{"ValueNumber", "ValueNumber", func(s *scene) { s.y.ValueNumber++ }, api.ErrFork},
		{"ValueNumber 0", "ValueNumber", func(s *scene) { s.y.ValueNumber = 0 }, api.ErrFork},
		{"Data", "Data", func(s *scene) { s.y.Data[7] ^= 2 }, api.ErrTag},
		{"Value", "Value", func(s *scene) { s.y.Value += "!" }, api.ErrTag},
		{"no Seen", "Seen", func(s *scene) { s.see("") }, api.ErrFork},
		{"Seen does not end with the target", "Seen", func(s *scene) { s.see(s.y.View[:500]) }, api.ErrFork},
		{"Seen is of another story", "Seen", func(s *scene) { s.see(put(s.y.Seen, 0, "\x02")) }, api.ErrFork},
		{"Seen is older", "Seen", func(s *scene) { s.see(upto(s.y.View[:490], 1)) }, api.ErrFork},
		{"SeenTag", "SeenTag", func(s *scene) { s.y.SeenTag[31] ^= 0x40 }, api.ErrTag},
	}...)
}

// put is a history with another operation at a place.
func put(d string, place int, client string) string { return d[:place] + client + d[place+1:] }

// brimful is a scene in which just one more operation finds room.
func brimful(t testing.TB) scene {
	return sceneOf(groupOf(t, 6), 2, long(499), read, 1, mineNoMore(508), 0, 3, 4)
}

// mineNoMore is a history that goes on the first 499 operations, without one of client 2 behind them.
func mineNoMore(size int) string {
	return long(499) + strings.ReplaceAll(long(size)[499:], "\x02", "\x01")
}

// P14.2: each error by itself.
func TestFaults(t *testing.T) {
	s := brimful(t)
	believes(t, s)
	for _, f := range faults() {
		lie := s.with(f.tell)
		if got, e := asks(t, lie); e != f.e {
			t.Errorf("%s (%s): %+v, %d, and not %d", f.what, f.touches, got, int(e), int(f.e))
		}
	}
}

// P14.2: of two that apply at once the first one.
func TestFaultsInOrder(t *testing.T) {
	s := brimful(t)
	list := faults()
	for i, first := range list {
		for _, later := range list[i+1:] {
			if first.touches == later.touches {
				continue
			}
			for _, tell := range [][]func(s *scene){{first.tell, later.tell}, {later.tell, first.tell}} {
				if _, e := asks(t, s.with(tell...)); e != first.e {
					t.Errorf("%s (%s) and %s (%s): %d, and not %d", first.what, first.touches, later.what, later.touches, int(e), int(first.e))
				}
			}
		}
	}
}

// P14.2, P14.6: each byte of each tag turned.
func TestTurnedTags(t *testing.T) {
	for _, target := range []int{1, 3} {
		s := busy(t, target)
		believes(t, s)
		tags := map[string]func(s *scene) *api.Digest{
			"Commit":  func(s *scene) *api.Digest { return &s.y.Commit },
			"Data":    func(s *scene) *api.Digest { return &s.y.Data },
			"SeenTag": func(s *scene) *api.Digest { return &s.y.SeenTag },
			"Proof 0": func(s *scene) *api.Digest { return &s.y.Pending[0].Proof },
			"Proof 1": func(s *scene) *api.Digest { return &s.y.Pending[1].Proof },
		}
		for i := range s.y.Pending {
			tags[fmt.Sprintf("Asked %d", i)] = func(s *scene) *api.Digest { return &s.y.Pending[i].Asked }
		}
		for what, tag := range tags {
			for place := range 32 {
				for _, bits := range []byte{1, 0x10, 0x80, 0xff} {
					lie := s.with(func(s *scene) { *tag(s) = turned(*tag(s), place, bits) })
					if _, e := asks(t, lie); e != api.ErrTag {
						t.Fatalf("%s, byte %d: %d", what, place, int(e))
					}
				}
			}
			doubts(t, s.with(func(s *scene) { *tag(s) = zero }), api.ErrTag)
		}
		// The third one is a first operation: its Proof plays no part.
		for place := range 32 {
			believes(t, s.with(func(s *scene) { s.y.Pending[2].Proof = turned(zero, place, 1) }))
		}
	}
}

// P14.2 (1): Last and View for the ring's clients.
func TestLastAndView(t *testing.T) {
	for _, clients := range []int{2, 3, 7} {
		g := groupOf(t, clients)
		s := sceneOf(g, 0, "", write, 0, "\x01")
		believes(t, s)
		for last := clients; last < 8; last++ {
			// A View that ends with it, and one that does not.
			doubts(t, s.with(func(s *scene) { s.y.Last, s.y.View = last, by(last) }), api.ErrArg)
			doubts(t, s.with(func(s *scene) { s.y.Last = last }), api.ErrArg)
			// Somebody who is there tagged a View of somebody who is not.
			for _, view := range []string{by(last) + "\x01", "\x01" + by(last) + "\x01"} {
				doubts(t, s.with(func(s *scene) { s.y.View, s.y.Commit = view, s.done(1, view) }), api.ErrArg)
			}
			// And one that ends with nobody: ErrArg is ahead of ErrFork.
			doubts(t, s.with(func(s *scene) { s.y.View = "\x01" + by(last) }), api.ErrArg)
		}
		last := clients - 1
		believes(t, sceneOf(g, 0, "", write, 0, by(last)))
	}
	s := busy(t, 1)
	for last := range 6 {
		lie := s.with(func(s *scene) { s.y.Last, s.y.Commit = last, s.done(last, s.y.View) })
		if last == 1 {
			believes(t, lie)
		} else {
			doubts(t, lie, api.ErrFork)
		}
	}
}

// P14.2 (1): Commit is Last's tag of the View, as a view.
func TestCommit(t *testing.T) {
	s := busy(t, 1)
	v := s.y.View
	for what, tag := range map[string]api.Digest{
		"another's":        s.done(0, v),
		"of less":          s.done(1, v[:len(v)-2]),
		"of more":          s.done(1, v+"\x01"),
		"of nothing":       s.done(1, ""),
		"another domain's": s.tag(1, domData, v),
		"a version's":      s.tag(1, api.DVersion, v),
		"a submit's":       s.tag(1, domAsked, v),
		"none":             zero,
	} {
		lie := s.with(func(s *scene) { s.y.Commit = tag })
		if _, e := asks(t, lie); e != api.ErrTag {
			t.Errorf("%s: %d", what, int(e))
		}
	}
}

// P14.2 (2): the View goes on mine, and has as many of my operations.
func TestViewGoesOn(t *testing.T) {
	g := groupOf(t, 3)
	for _, c := range []struct {
		mine, view string
		e          api.Errno
	}{
		{"", "", api.OK},
		{"", "\x00", api.OK},
		{"", "\x00\x02", api.OK},
		{"", "\x01", api.ErrFork},
		{"", "\x01\x00", api.ErrFork},
		{"\x01", "", api.ErrFork},
		{"\x01", "\x01", api.OK},
		{"\x01", "\x01\x00", api.OK},
		{"\x01", "\x00", api.ErrFork},
		{"\x01", "\x00\x01", api.ErrFork},
		{"\x01", "\x01\x01", api.ErrFork},
		{"\x01", "\x01\x00\x01", api.ErrFork},
		{"\x01", "\x01\x01\x00", api.ErrFork},
		{"\x00\x01", "\x00\x01", api.OK},
		{"\x00\x01", "\x00\x01\x02\x02\x00", api.OK},
		{"\x00\x01", "\x00", api.ErrFork},
		{"\x00\x01", "\x01\x00", api.ErrFork},
		{"\x00\x01", "\x02\x01", api.ErrFork},
		{"\x00\x01", "\x00\x02\x01", api.ErrFork},
		{"\x00\x01\x02\x01", "\x00\x01\x02", api.ErrFork},
		{"\x00\x01\x02\x01", "\x00\x01\x02\x01\x02", api.OK},
		{"\x00\x01\x02\x01", "\x00\x01\x02\x01\x02\x01", api.ErrFork},
		// One that does not end with me is taken as it is.
		{"\x00", "\x00\x02", api.OK},
		{"\x01\x00", "\x01\x00", api.OK},
		{"\x01\x00", "\x01", api.ErrFork},
		{"\x02", "", api.ErrFork},
	} {
		for _, kind := range []int{write, read} {
			for _, pending := range [][]int{nil, {0}, {2, 0}} {
				s := sceneOf(g, 1, c.mine, kind, 0, c.view, pending...)
				if c.e == api.OK {
					believes(t, s)
				} else {
					doubts(t, s, c.e)
				}
			}
		}
	}
}

// P14.2 (3): nothing, one, several and eight pending, behind somebody's View and nobody's.
func TestPending(t *testing.T) {
	g := groupOf(t, 8)
	for _, mine := range []string{"", "\x03", "\x00\x03\x01\x03"} {
		for _, more := range []string{"", "\x01", "\x07\x00\x07"} {
			for _, order := range [][]int{nil, {0}, {7}, {6, 2}, {4, 0, 7}, {0, 1, 2, 4, 5, 6, 7}, {7, 6, 5, 4, 2, 1, 0}, {0, 1, 2, 4, 5, 6, 7, 0}, {1, 1, 1, 1, 1, 1, 1, 1}, {5, 5}, {2, 4, 2, 4, 2}} {
				for _, kind := range []int{write, read} {
					for target := range 8 {
						believes(t, sceneOf(g, 3, mine, kind, target, mine+more, order...))
					}
				}
			}
		}
	}
}

// P14.2 (3): one that is mine, at any place, is a lie, tagged or not.
func TestPendingIsMine(t *testing.T) {
	g := groupOf(t, 8)
	for _, mine := range []string{"", "\x03", "\x00\x03\x01\x03"} {
		for _, order := range [][]int{{3}, {3, 0}, {0, 3}, {0, 1, 3}, {0, 3, 1}, {0, 1, 2, 4, 5, 6, 7, 3}, {3, 0, 1, 2, 4, 5, 6, 7}} {
			s := sceneOf(g, 3, mine, write, 3, mine, order...)
			doubts(t, s, api.ErrFork)
			place := slices.Index(order, 3)
			doubts(t, s.with(func(s *scene) { s.y.Pending[place].Asked = zero }), api.ErrFork)
			doubts(t, s.with(func(s *scene) { s.y.Pending[place].Proof = zero }), api.ErrFork)
			doubts(t, s.with(func(s *scene) { s.y.Pending[place].Number = most }), api.ErrFork)
			if place > 0 {
				doubts(t, s.with(func(s *scene) { s.y.Pending[0].Asked = zero }), api.ErrTag)
			}
		}
	}
	// A Target that is no client of a smaller ring: that it is mine is told first.
	s := sceneOf(groupOf(t, 3), 1, "", write, 1, "", 1, 0)
	doubts(t, s.with(func(s *scene) { s.y.Pending[0].Target = 7 }), api.ErrFork)
	s = sceneOf(groupOf(t, 3), 1, "", write, 1, "", 0, 1)
	doubts(t, s.with(func(s *scene) { s.y.Pending[0].Target = 7 }), api.ErrArg)
}

// P14.2 (3): operations that are pending in another order, twice, or not all of them.
func TestPendingInOrder(t *testing.T) {
	view := "\x00\x02\x01\x02"
	s := sceneOf(groupOf(t, 4), 2, view, write, 2, view+"\x01", 0, 3, 1, 3)
	believes(t, s)
	swap := func(i, j int) scene {
		return s.with(func(s *scene) { l := s.y.Pending; l[i], l[j] = l[j], l[i] })
	}
	// A Proof is of what was there up to its client's last operation: if that stays, the order is free.
	believes(t, swap(2, 3))
	believes(t, swap(0, 1).with(func(s *scene) { s.y.Pending = s.y.Pending[:3] }))
	believes(t, swap(0, 2).with(func(s *scene) { s.y.Pending = s.y.Pending[:3] }))
	doubts(t, swap(0, 1), api.ErrTag)
	doubts(t, swap(0, 2), api.ErrTag)
	doubts(t, swap(1, 3), api.ErrFork)
	doubts(t, s.with(func(s *scene) { s.y.Pending = append(s.y.Pending, s.y.Pending[0]) }), api.ErrFork)
	doubts(t, s.with(func(s *scene) { s.y.Pending = s.y.Pending[2:] }), api.ErrFork)
	doubts(t, s.with(func(s *scene) { s.y.Pending = slices.Delete(s.y.Pending, 1, 2) }), api.ErrFork)
	for i := range 5 {
		believes(t, s.with(func(s *scene) { s.y.Pending = s.y.Pending[:i] }))
	}
	// What is done already is not pending, too.
	doubts(t, s.with(func(s *scene) { s.y.Pending[0] = s.waits("", 0, write, 0) }), api.ErrFork)
}

// P14.2 (3), P14.3: a Proof that is missing, old, another one's, and of a first operation.
func TestProofs(t *testing.T) {
	view := "\x00\x02\x01\x00\x02"
	s := sceneOf(groupOf(t, 4), 2, view, read, 1, view+"\x01", 0, 3)
	believes(t, s)
	for what, tag := range map[string]api.Digest{
		"missing":         zero,
		"old":             s.done(0, "\x00"),
		"another's":       s.done(2, "\x00\x02\x01\x00"),
		"of the View":     s.done(0, s.y.View),
		"Last's":          s.y.Commit,
		"of another past": s.done(0, "\x02\x00\x01\x00"),
	} {
		if _, e := asks(t, s.with(func(s *scene) { s.y.Pending[0].Proof = tag })); e != api.ErrTag {
			t.Errorf("%s: %d", what, int(e))
		}
		believes(t, s.with(func(s *scene) { s.y.Pending[1].Proof = tag }))
	}
}

// P14.2 (4): histories of 510, 511 and 512 operations ahead of mine, however they are parted.
func TestFull(t *testing.T) {
	g := groupOf(t, 8)
	for _, size := range []int{most - 2, most - 1, most, most + 1, most + 2} {
		for pending := range 9 {
			if size-pending > most {
				continue
			}
			order := []int{0, 1, 4, 5, 6, 7, 0, 1}[:pending]
			for _, kind := range []int{write, read} {
				for _, target := range []int{1, 2, 3, 7} {
					s := sceneOf(g, 2, long(400), kind, target, long(400)+strings.Repeat("\x03", size-pending-400), order...)
					if size < most {
						believes(t, s)
						continue
					}
					doubts(t, s, api.ErrFull)
					// It is ahead of what is wrong with the value, and behind what is wrong with what is pending.
					doubts(t, s.with(func(s *scene) { s.y.ValueNumber, s.y.Data = 0, zero }), api.ErrFull)
					if pending > 0 && size-pending < most {
						doubts(t, s.with(func(s *scene) { s.y.Pending[0].Asked = zero }), api.ErrTag)
					}
				}
			}
		}
	}
	// A view of 512 of several clients leaves numbers, but no room.
	doubts(t, sceneOf(g, 2, long(most), write, 2, long(most)), api.ErrFull)
	believes(t, sceneOf(g, 2, long(most-1), write, 2, long(most-1)))
}

// P14.2 (5): a target that has done nothing has no value.
func TestReadNothing(t *testing.T) {
	g := groupOf(t, 4)
	for _, s := range []scene{
		sceneOf(g, 0, "", read, 1, ""),
		sceneOf(g, 0, "", read, 0, ""),
		sceneOf(g, 0, "\x00", read, 1, "\x00\x02", 3),
		sceneOf(g, 0, "", read, 0, "\x02", 3, 1),
	} {
		believes(t, s)
		doubts(t, s.with(func(s *scene) { s.y.Value = "v" }), api.ErrFork)
		doubts(t, s.with(func(s *scene) { s.y.Value = "\x00" }), api.ErrFork)
		doubts(t, s.with(func(s *scene) { s.y.Value, s.y.Data = "v", s.data(s.x.Target, 0, "v") }), api.ErrFork)
		doubts(t, s.with(func(s *scene) { s.see(by(s.x.Target)) }), api.ErrFork)
		if s.y.View != "" {
			doubts(t, s.with(func(s *scene) { s.see(s.y.View) }), api.ErrFork)
		}
		for _, n := range []int{1, 2, most} {
			doubts(t, s.with(func(s *scene) {
				s.y.ValueNumber, s.y.Value, s.y.Data = n, "v", s.data(s.x.Target, n, "v")
			}), api.ErrFork)
		}
		// Data is not asked for then.
		believes(t, s.with(func(s *scene) { s.y.Data = api.Digest{9} }))
	}
}

// P14.2 (5): ValueNumber is how many operations the target has ahead of mine.
func TestValueNumber(t *testing.T) {
	for _, target := range []int{0, 1, 2, 3, 4, 5} {
		s := busy(t, target)
		n := count(s.ahead(), target)
		for number := range 6 {
			lie := s.with(func(s *scene) {
				s.y.ValueNumber = number
				s.y.Data = s.data(target, number, s.y.Value)
			})
			if number == n {
				believes(t, lie)
			} else {
				doubts(t, lie, api.ErrFork)
			}
		}
	}
}

// P14.2 (5), P14.6: a value is the target's, with its number.
func TestData(t *testing.T) {
	s := busy(t, 1)
	v := s.y.Value
	for what, tag := range map[string]api.Digest{
		"another number's":   s.data(1, 2, v),
		"number 0's":         s.data(1, 0, v),
		"another value's":    s.data(1, 3, v+" "),
		"no value's":         s.data(1, 3, ""),
		"another client's":   s.data(0, 3, v),
		"mine":               s.data(2, 3, v),
		"another domain's":   s.tag(1, domView, dataText(3, v)),
		"a blob's":           s.tag(1, api.DBlob, dataText(3, v)),
		"of the value alone": s.tag(1, domData, v),
		"Commit":             s.y.Commit,
		"none":               zero,
	} {
		if _, e := asks(t, s.with(func(s *scene) { s.y.Data = tag })); e != api.ErrTag {
			t.Errorf("%s: %d", what, int(e))
		}
	}
	for _, value := range []string{"", "x", v[1:], v + "\x00", strings.ToUpper(v), strings.Repeat("v", maxValue)} {
		doubts(t, s.with(func(s *scene) { s.y.Value = value }), api.ErrTag)
		believes(t, s.with(func(s *scene) { s.y.Value, s.y.Data = value, s.data(1, 3, value) }))
	}
}

// P14.2 (5): an empty Seen: the first operation's view is not known yet, any later one's is.
func TestSeenEmpty(t *testing.T) {
	g := groupOf(t, 3)
	for _, view := range []string{"", "\x01", "\x01\x01", "\x01\x00\x01\x02\x01"} {
		for _, pending := range [][]int{nil, {1}, {2}, {2, 1}, {1, 1}} {
			s := sceneOf(g, 0, "", read, 1, strings.ReplaceAll(view, "\x00", "\x02"), pending...)
			s.see("")
			if n := count(s.ahead(), 1); n <= 1 {
				believes(t, s)
				// What SeenTag is of nothing is told as it came.
				believes(t, s.with(func(s *scene) { s.y.SeenTag = api.Digest{3} }))
				continue
			}
			doubts(t, s, api.ErrFork)
			doubts(t, s.with(func(s *scene) { s.y.SeenTag = s.done(1, "") }), api.ErrFork)
			doubts(t, s.with(func(s *scene) { s.y.Data = zero }), api.ErrTag)
		}
	}
}

// P14.2 (5): Seen has as many of the target's operations as ValueNumber, or one fewer; not two fewer, nor one more.
func TestSeenCounts(t *testing.T) {
	g := groupOf(t, 4)
	d := "\x01\x00\x01\x02\x01\x03\x01\x01\x03"
	for size := 1; size <= len(d); size++ {
		for pending := range min(size, 3) {
			var order []int
			for _, c := range d[size-pending : size] {
				order = append(order, int(c))
			}
			if slices.Contains(order, 0) || size-pending < 2 && size > 1 {
				continue
			}
			mine := d[:min(2, size-pending)]
			s := sceneOf(g, 0, mine, read, 1, d[:size-pending], order...)
			believes(t, s)
			n := count(d[:size], 1)
			for seen := 1; seen <= len(d); seen++ {
				lie := s.with(func(s *scene) { s.see(d[:seen]) })
				ends, as := d[seen-1] == 1, count(d[:seen], 1)
				if ends && seen <= size && (as == n || as == n-1) {
					believes(t, lie)
					doubts(t, lie.with(func(s *scene) { s.y.SeenTag = zero }), api.ErrTag)
				} else {
					doubts(t, lie, api.ErrFork)
					doubts(t, lie.with(func(s *scene) { s.y.SeenTag = zero }), api.ErrFork)
				}
			}
		}
	}
}

// P14.2 (5): the four cases by name: as many, one fewer, two fewer, one more.
func TestSeenByName(t *testing.T) {
	view := "\x01\x01\x02\x01\x00"
	s := sceneOf(groupOf(t, 3), 0, view, read, 1, view, 2)
	for _, c := range []struct {
		what, seen string
		e          api.Errno
	}{
		{"as many", "\x01\x01\x02\x01", api.OK},
		{"one fewer", "\x01\x01", api.OK},
		{"two fewer", "\x01", api.ErrFork},
		{"one more", "\x01\x01\x02\x01\x00\x02\x01", api.ErrFork},
		{"one more, with mine", "\x01\x01\x02\x01\x00\x02\x00\x01", api.ErrFork},
		{"none", "\x02", api.ErrFork},
		{"as many, ending with another", "\x01\x01\x02\x01\x00", api.ErrFork},
		{"all, ending with another", "\x01\x01\x02\x01\x00\x02", api.ErrFork},
		{"one fewer, ending with another", "\x01\x01\x02", api.ErrFork},
		{"as many, of another story", "\x01\x01\x00\x01", api.ErrFork},
		{"one fewer, of another story", "\x02\x01\x01", api.ErrFork},
		{"of nobody of the ring", "\x07\x01\x01\x01", api.ErrFork},
	} {
		if _, e := asks(t, s.with(func(s *scene) { s.see(c.seen) })); e != c.e {
			t.Errorf("%s: %d, and not %d", c.what, int(e), int(c.e))
		}
	}
}

// P14.2 (5): Seen may be all that is ahead of mine, what is pending too.
func TestSeenIsPending(t *testing.T) {
	s := sceneOf(groupOf(t, 3), 0, "\x00", read, 1, "\x00\x01", 2, 1)
	for seen, e := range map[string]api.Errno{
		"\x00\x01":             api.OK,
		"\x00\x01\x02\x01":     api.OK,
		"\x00\x01\x02":         api.ErrFork,
		"\x00\x01\x01":         api.ErrFork,
		"\x00\x01\x02\x01\x00": api.ErrFork,
	} {
		if _, is := asks(t, s.with(func(s *scene) { s.see(seen) })); is != e {
			t.Errorf("%q: %d, and not %d", seen, int(is), int(e))
		}
	}
}

// P14.2 (5): SeenTag is the target's tag of Seen, as a view.
func TestSeenTag(t *testing.T) {
	s := busy(t, 3)
	seen := s.y.Seen
	for what, tag := range map[string]api.Digest{
		"another's":        s.done(1, seen),
		"mine":             s.done(2, seen),
		"of more":          s.done(3, s.y.View),
		"of less":          s.done(3, seen[:4]),
		"another domain's": s.tag(3, domAsked, seen),
		"a version's":      s.tag(3, api.DVersion, seen),
		"Commit":           s.y.Commit,
		"Data":             s.y.Data,
		"none":             zero,
	} {
		if _, e := asks(t, s.with(func(s *scene) { s.y.SeenTag = tag })); e != api.ErrTag {
			t.Errorf("%s: %d", what, int(e))
		}
	}
}

// P14.1, P14.2 (5): whoever reads its own register reads what it held last, and its own last view.
func TestReadOneself(t *testing.T) {
	g := groupOf(t, 3)
	for _, mine := range []string{"", "\x01", "\x00\x01\x01"} {
		for _, more := range []string{"", "\x00", "\x02\x00"} {
			s := sceneOf(g, 1, mine, read, 1, mine+more, 2)
			believes(t, s)
			if got, _ := asks(t, s); got.Number != count(mine, 1) || got.Seen != upto(mine, 1) {
				t.Fatalf("%s: %+v", s, got)
			}
		}
	}
}
