package verify_test

import (
	"math"
	"strings"
	"testing"
	"unsafe"

	"affidavit/api"
	"affidavit/ring"
	"affidavit/verify"
)

// P14.1, P14.4: the chapter's example, of each client, whatever it asks: a first reply, of nobody, without anything pending.
func TestExample(t *testing.T) {
	for clients := 2; clients <= 8; clients++ {
		g := groupOf(t, clients)
		for me := range clients {
			for target := range clients {
				for _, kind := range []int{write, read} {
					s := sceneOf(g, me, "", kind, target, "")
					got, e := asks(t, s)
					if e != api.OK || got != (api.Got{View: by(me), By: -1}) {
						t.Fatalf("%s: %+v, %d", s, got, int(e))
					}
				}
			}
		}
	}
}

// P14.1: what is told, field by field, of somebody's reply to a Read.
func TestTold(t *testing.T) {
	s := busy(t, 1)
	got, e := asks(t, s)
	if e != api.OK {
		t.Fatalf("%s: %d", s, int(e))
	}
	long := "\x00\x02\x01\x02\x01\x03\x01"
	for what, right := range map[string]bool{
		"View":    got.View == long+"\x00\x03\x04\x02",
		"Number":  got.Number == 3,
		"Value":   got.Value == "value of 1, its 3th",
		"By":      got.By == 1,
		"Long":    got.Long == long,
		"LongTag": got.LongTag == s.done(1, long),
		"Seen":    got.Seen == long,
		"SeenTag": got.SeenTag == s.done(1, long),
	} {
		if !right {
			t.Errorf("%s: %+v", what, got)
		}
	}
	s = busy(t, 3)
	got, e = asks(t, s)
	if e != api.OK || got.Number != 2 || got.Value != "value of 3, its 2th" || got.Seen != long[:6] || got.SeenTag != s.done(3, long[:6]) || got.Long != long || got.By != 1 {
		t.Errorf("of 3: %+v, %d", got, int(e))
	}
}

// P14.1: of nobody nothing is told, though the reply has a tag there.
func TestToldOfNobody(t *testing.T) {
	for _, pending := range [][]int{nil, {1}, {1, 0}} {
		for _, kind := range []int{write, read} {
			s := sceneOf(groupOf(t, 3), 2, "", kind, 1, "", pending...)
			for _, tag := range []api.Digest{zero, s.done(1, "\x01"), {31: 1}} {
				s.y.Commit = tag
				believes(t, s)
				if got, _ := asks(t, s); got.By != -1 || got.Long != "" || got.LongTag != zero {
					t.Fatalf("%s: %+v", s, got)
				}
			}
		}
	}
}

// P14.1, P14.2: of a Write neither the value nor Seen is told, nor judged.
func TestWrites(t *testing.T) {
	view := "\x00\x02\x01\x02"
	s := sceneOf(groupOf(t, 4), 2, view, write, 2, view+"\x01\x03\x01", 0, 3)
	believes(t, s)
	for number := range 5 {
		for _, value := range []string{"", "v", strings.Repeat("\xff", maxValue)} {
			for _, seen := range []string{"", "\x00", view, s.y.View, "\x03\x03", "\x07", strings.Repeat("\x01", most)} {
				lie := s.with(func(s *scene) {
					s.y.ValueNumber, s.y.Value, s.y.Data = number, value, api.Digest{1}
					s.y.Seen, s.y.SeenTag = seen, api.Digest{2}
				})
				believes(t, lie)
				if got, _ := asks(t, lie); got.Number != 0 || got.Value != "" || got.Seen != "" || got.SeenTag != zero || got.Long != s.y.View {
					t.Fatalf("%s: %+v", lie, got)
				}
				lie.x.Kind = read
				if _, e := asks(t, lie); e == api.OK {
					t.Fatalf("%s: believed of a Read", lie)
				}
			}
		}
	}
}

// P14.1: a nil ring, whatever else is handed in.
func TestNilRing(t *testing.T) {
	for _, s := range []scene{busy(t, 1), sceneOf(groupOf(t, 2), 0, "", write, 0, "")} {
		s.ring = nil
		doubts(t, s, api.ErrNil)
		doubts(t, s.with(func(s *scene) { s.me = -1 }), api.ErrNil)
		doubts(t, s.with(func(s *scene) { s.x = api.Submit{} }), api.ErrNil)
		doubts(t, s.with(func(s *scene) { s.y = api.Reply{} }), api.ErrNil)
		doubts(t, s.with(func(s *scene) { s.view = strings.Repeat("\xff", 1<<16) }), api.ErrNil)
	}
	for _, p := range []api.Pending{{}, busy(t, 1).y.Pending[0], {Client: -1}} {
		for _, d := range []string{"", "\x00", strings.Repeat("\x00", most+1)} {
			steps(t, group{}, d, p, "", api.ErrNil)
		}
	}
}

// R1: a ring that no call made does no harm.
func TestRingOfNobody(t *testing.T) {
	s := busy(t, 1)
	s.ring = &ring.Ring{}
	asks(t, s)
	verify.Step(s.ring, s.y.View, s.y.Pending[0])
}

// P14.1: each client that there is, and no other one.
func TestClients(t *testing.T) {
	for _, clients := range []int{2, 3, 7, 8} {
		g := groupOf(t, clients)
		for me := range clients {
			believes(t, sceneOf(g, me, "", write, me, ""))
			other := (me + 1) % clients
			believes(t, sceneOf(g, me, by(me), read, other, by(me)+by(other)))
		}
		for _, me := range nobodies(clients) {
			for _, kind := range []int{write, read} {
				s := sceneOf(g, 0, "", kind, 0, "")
				s.me = me
				doubts(t, s, api.ErrArg)
				// A view in which nobody's number would be right.
				s = sceneOf(g, 0, "\x01", kind, 1, "\x01\x01")
				s.me = me
				doubts(t, s, api.ErrArg)
			}
		}
	}
}

// P14.1: each target that there is, of a Write too, and no other one.
func TestTargets(t *testing.T) {
	for _, clients := range []int{2, 3, 7, 8} {
		g := groupOf(t, clients)
		for _, kind := range []int{write, read} {
			for target := range clients {
				believes(t, sceneOf(g, clients-1, "", kind, target, ""))
				believes(t, sceneOf(g, 0, "\x00", kind, target, "\x00\x01", 1))
			}
			for _, target := range nobodies(clients) {
				s := sceneOf(g, 0, "", kind, 0, "")
				s.x.Target = target
				doubts(t, s, api.ErrArg)
			}
		}
	}
}

// P14.1: submits that may not be, and such as just may.
func TestSubmits(t *testing.T) {
	s := sceneOf(groupOf(t, 3), 1, "\x01", read, 0, "\x01\x00", 2)
	for _, kind := range []int{0, 3, -1, math.MinInt, math.MaxInt, 1<<32 + 1} {
		doubts(t, s.with(func(s *scene) { s.x.Kind = kind }), api.ErrArg)
	}
	for _, size := range []int{0, 1, maxValue} {
		s.x.Value = strings.Repeat("\xff", size)
		believes(t, s)
	}
	for _, size := range []int{maxValue + 1, 1 << 16} {
		doubts(t, s.with(func(s *scene) { s.x.Value = strings.Repeat("v", size) }), api.ErrArg)
	}
	for _, number := range []int{0, -1, most + 1, math.MinInt, math.MaxInt, 1<<32 + 2} {
		doubts(t, s.with(func(s *scene) { s.x.Number, s.y.Number = number, number }), api.ErrArg)
		doubts(t, s.with(func(s *scene) { s.x.Number = number }), api.ErrArg)
	}
	// Its tags are mine: I do not judge them.
	believes(t, s.with(func(s *scene) { s.x.Asked, s.x.Data = zero, zero }))
	believes(t, s.with(func(s *scene) { s.x.Asked, s.x.Data = api.Digest{1}, api.Digest{2} }))
}

// P14.1: number 512 is the last one that may be.
func TestLastSubmit(t *testing.T) {
	g := groupOf(t, 2)
	mine := strings.Repeat("\x01", most)
	believes(t, sceneOf(g, 1, mine[1:], write, 1, mine[1:]))
	believes(t, sceneOf(g, 1, mine[1:], read, 1, mine[1:]))
	s := sceneOf(g, 1, mine, write, 1, mine)
	if s.x.Number != most+1 {
		t.Fatal(s.x.Number)
	}
	doubts(t, s, api.ErrArg)
	doubts(t, s.with(func(s *scene) { s.x.Number, s.y.Number = most, most }), api.ErrArg)
}

// P14.1: replies that may not be, one for each reason, and such as just may.
func TestReplies(t *testing.T) {
	for _, s := range []scene{busy(t, 1), busy(t, 1).with(func(s *scene) { s.x.Kind = write })} {
		believes(t, s)
		for what, change := range map[string]func(y *api.Reply){
			"Number 0":              func(y *api.Reply) { y.Number = 0 },
			"Number 513":            func(y *api.Reply) { y.Number = most + 1 },
			"Last -2":               func(y *api.Reply) { y.Last = -2 },
			"Last -1":               func(y *api.Reply) { y.Last = -1 },
			"Last 8":                func(y *api.Reply) { y.Last = 8 },
			"Last lowest":           func(y *api.Reply) { y.Last = math.MinInt },
			"Last greatest":         func(y *api.Reply) { y.Last = math.MaxInt },
			"no View":               func(y *api.Reply) { y.View = "" },
			"View of 8":             func(y *api.Reply) { y.View = y.View[:4] + "\x08\x01" },
			"View too long":         func(y *api.Reply) { y.View += strings.Repeat("\x01", most+1-len(y.View)) },
			"View far too long":     func(y *api.Reply) { y.View += strings.Repeat("\x01", 1<<16) },
			"9 pending":             func(y *api.Reply) { y.Pending = append(y.Pending, make([]api.Pending, 6)...) },
			"Client -1 pending":     func(y *api.Reply) { y.Pending[0].Client = -1 },
			"Client 8 pending":      func(y *api.Reply) { y.Pending[2].Client = 8 },
			"Number 0 pending":      func(y *api.Reply) { y.Pending[1].Number = 0 },
			"Number 513 pending":    func(y *api.Reply) { y.Pending[1].Number = most + 1 },
			"Kind 0 pending":        func(y *api.Reply) { y.Pending[0].Kind = 0 },
			"Kind 3 pending":        func(y *api.Reply) { y.Pending[2].Kind = 3 },
			"Target -1 pending":     func(y *api.Reply) { y.Pending[1].Target = -1 },
			"Target 8 pending":      func(y *api.Reply) { y.Pending[1].Target = 8 },
			"ValueNumber -1":        func(y *api.Reply) { y.ValueNumber = -1 },
			"ValueNumber 513":       func(y *api.Reply) { y.ValueNumber = most + 1 },
			"ValueNumber lowest":    func(y *api.Reply) { y.ValueNumber = math.MinInt },
			"Value too long":        func(y *api.Reply) { y.Value = strings.Repeat("v", maxValue+1) },
			"Seen of 8":             func(y *api.Reply) { y.Seen = "\x00\x08\x01" },
			"Seen too long":         func(y *api.Reply) { y.Seen += strings.Repeat("\x01", most+1-len(y.Seen)) },
			"nothing at all":        func(y *api.Reply) { *y = api.Reply{} },
			"nobody's, with a View": func(y *api.Reply) { y.Last, y.View = -1, "\x00" },
		} {
			lie := s.with(func(s *scene) { change(&s.y) })
			if got, e := asks(t, lie); e != api.ErrArg {
				t.Errorf("%s: %+v, %d", what, got, int(e))
			}
			// The tags play no part then.
			lie.y.Commit, lie.y.Data, lie.y.SeenTag = zero, zero, zero
			doubts(t, lie, api.ErrArg)
		}
	}
	s := sceneOf(groupOf(t, 8), 0, "", read, 1, "", 1)
	for _, size := range []int{0, 1, maxValue} {
		s.y.Value = strings.Repeat("\xff", size)
		s.y.Data = s.data(1, 1, s.y.Value)
		believes(t, s)
	}
}

// P14.1: somebody's Last without a View, and a View of nobody, are no replies; of a first reply too.
func TestLastWithoutView(t *testing.T) {
	s := sceneOf(groupOf(t, 3), 0, "", write, 0, "")
	for last := range 8 {
		doubts(t, s.with(func(s *scene) { s.y.Last = last }), api.ErrArg)
	}
	doubts(t, s.with(func(s *scene) { s.y.View = "\x01" }), api.ErrArg)
}

// P14.1: views that may not be for the ring's clients, though they may be for 8; and too long ones.
func TestViews(t *testing.T) {
	for _, clients := range []int{2, 3, 7} {
		g := groupOf(t, clients)
		for _, view := range []string{by(clients), "\x00" + by(clients), by(clients) + "\x00", "\x00\x07\x01", "\x07"} {
			s := sceneOf(g, 0, view, write, 0, "\x00\x01")
			doubts(t, s, api.ErrArg)
			s.y.View, s.y.Last = view+"\x00", 0
			s.y.Commit = s.done(0, s.y.View)
			doubts(t, s, api.ErrArg)
		}
		last := by(clients - 1)
		believes(t, sceneOf(g, 0, last, write, 0, last+last))
	}
	g := groupOf(t, 8)
	believes(t, sceneOf(g, 0, "\x07\x00\x07", write, 0, "\x07\x00\x07"))
	for _, view := range []string{"\x08", "\xff\x00", "é", "\x00\x80"} {
		s := sceneOf(g, 0, "\x00"[:count(view, 0)], write, 0, "\x00"[:count(view, 0)])
		s.view = view
		doubts(t, s, api.ErrArg)
	}
	for _, size := range []int{most + 1, most + 2, 1 << 16} {
		s := sceneOf(g, 0, "", write, 0, "")
		s.view = strings.Repeat("\x01", size)
		doubts(t, s, api.ErrArg)
	}
}

// P14.1: the submit's number is one more than I have in my view, and the reply's is the same.
func TestNumbers(t *testing.T) {
	for _, view := range []string{"", "\x01", "\x01\x00", "\x00\x01\x01\x00\x01"} {
		s := sceneOf(groupOf(t, 3), 1, view, write, 1, view, 2)
		n := count(view, 1) + 1
		believes(t, s)
		for number := range n + 4 {
			if number == n {
				continue
			}
			doubts(t, s.with(func(s *scene) { s.x.Number, s.y.Number = number, number }), api.ErrArg)
			doubts(t, s.with(func(s *scene) { s.x.Number = number }), api.ErrArg)
			doubts(t, s.with(func(s *scene) { s.y.Number = number }), api.ErrArg)
		}
		for _, number := range []int{most, most - 1, math.MaxInt, math.MinInt} {
			doubts(t, s.with(func(s *scene) { s.y.Number = number }), api.ErrArg)
		}
	}
}

// P14.1: all that may not be is ErrArg, though the reply is a lie, too.
func TestWrongAheadOfLies(t *testing.T) {
	for what, change := range map[string]func(s *scene){
		"no client":       func(s *scene) { s.me = 6 },
		"no kind":         func(s *scene) { s.x.Kind = 0 },
		"no target":       func(s *scene) { s.x.Target = 6 },
		"no view":         func(s *scene) { s.view = "\x00\x02\x06\x02" },
		"another number":  func(s *scene) { s.x.Number++; s.y.Number++ },
		"no reply":        func(s *scene) { s.y.ValueNumber = -1 },
		"another reply's": func(s *scene) { s.y.Number-- },
	} {
		for lie, tell := range map[string]func(s *scene){
			"Last":    func(s *scene) { s.y.Last = 0 },
			"Commit":  func(s *scene) { s.y.Commit[0] ^= 1 },
			"fork":    func(s *scene) { s.y.View = "\x01" + s.y.View[1:] },
			"mine":    func(s *scene) { s.y.Pending[0].Client = 2 },
			"Asked":   func(s *scene) { s.y.Pending[0].Asked[0] ^= 1 },
			"Data":    func(s *scene) { s.y.Data[0] ^= 1 },
			"SeenTag": func(s *scene) { s.y.SeenTag[0] ^= 1 },
		} {
			s := busy(t, 1).with(tell)
			if _, e := asks(t, s); e != api.ErrTag && e != api.ErrFork {
				t.Fatalf("%s: %d", lie, int(e))
			}
			if _, e := asks(t, s.with(change)); e != api.ErrArg {
				t.Errorf("%s, %s: %d", what, lie, int(e))
			}
		}
	}
}

// R3: what is told shares no memory with what was handed in.
func TestToldIsNew(t *testing.T) {
	s := busy(t, 3)
	got, e := asks(t, s)
	if e != api.OK {
		t.Fatal(int(e))
	}
	shared := func(a, b string) bool { return a != "" && b != "" && unsafe.StringData(a) == unsafe.StringData(b) }
	for _, in := range []string{s.view, s.x.Value, s.y.View, s.y.Value, s.y.Seen} {
		for what, out := range map[string]string{"View": got.View, "Value": got.Value, "Long": got.Long, "Seen": got.Seen} {
			if shared(in, out) {
				t.Errorf("%s is %q itself", what, in)
			}
		}
	}
	for _, pair := range [][2]string{{got.View, got.Long}, {got.View, got.Seen}, {got.Long, got.Seen}} {
		if shared(pair[0], pair[1]) {
			t.Errorf("%q and %q are one", pair[0], pair[1])
		}
	}
}
