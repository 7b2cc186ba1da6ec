package ustor_test

import (
	"math"
	"math/rand"
	"slices"
	"strings"
	"testing"
	"unsafe"

	"affidavit/api"
	"affidavit/msg"
	"affidavit/ustor"
)

// stand is a client, 2 of 6, that has done two operations and waits for its third: others have gone on, and three operations are pending. The reply is the truth.
func stand(t testing.TB, kind, target int) (*pair, api.Reply) {
	t.Helper()
	g := groupOf(t, 6)
	view := "\x00\x02\x01\x02"
	p := behind(t, g, 2, view, "held")
	x := p.waitsFor(kind, target, "new")
	return p, g.reply(2, x, view+"\x01\x03\x01", 0, 3, 4)
}

// P15.4: a reply that is believed: what is learned, the view, and that it waits no more; once more, nobody waits for it.
func TestBelieved(t *testing.T) {
	long := "\x00\x02\x01\x02\x01\x03\x01"
	for _, kind := range []int{write, read} {
		target := 2
		if kind == read {
			target = 1
		}
		p, y := stand(t, kind, target)
		held := p.c.Value()
		got, e := p.takes(ofReply(y))
		want := api.Got{View: long + "\x00\x03\x04\x02", By: 1, Long: long, LongTag: p.done(1, long)}
		if kind == read {
			want.Number, want.Value, want.Seen, want.SeenTag = 3, valueOf(1, 3), long, p.done(1, long)
		}
		if e != api.OK || got != want {
			t.Fatalf("%+v, %d, and not\n%+v", got, int(e), want)
		}
		if p.c.View() != want.View || p.c.Number() != 3 || p.c.Busy() || p.c.Value() != held {
			t.Fatalf("%q, %d, %v, %q", p.c.View(), p.c.Number(), p.c.Busy(), p.c.Value())
		}
		p.doubts(ofReply(y), api.ErrNone)
		p.waitsFor(write, 2, "next")
		p.doubts(ofReply(y), api.ErrNone)
	}
}

// P15.4: messages of all other kinds, such as may be and such as may not.
func TestNoReplies(t *testing.T) {
	p, y := stand(t, read, 1)
	d := api.Digest{1}
	for _, m := range []api.Msg{
		{Kind: api.MSubmit, Client: 2, Submit: p.x},
		{Kind: api.MCommit, Client: 2, View: p.view, Tag: p.done(2, p.view)},
		{Kind: api.MPut, Blob: api.Blob{Owner: 2, Number: 3, Tag: d}},
		{Kind: api.MGet, Client: 2, Numbers: []int{3}},
		{Kind: api.MBlob, Blob: api.Blob{Owner: 2, Number: 3, Tag: d}},
		{Kind: api.MNone, Client: 2, Numbers: []int{3}},
		{Kind: api.MPrune, Client: 2, Numbers: []int{3}},
		{Kind: api.MProbe, Client: 1},
		{Kind: api.MVersion, Client: 1, By: 1, View: "\x01", Tag: d, Own: d},
		{Kind: api.MAlarm, Client: 1, Own: d},
	} {
		put(t, m)
		p.doubts(m, api.ErrArg)
		m.Reply = y
		p.doubts(m, api.ErrArg)
	}
	for _, kind := range []int{0, -1, 12, 1<<32 + 2, math.MinInt, math.MaxInt} {
		p.doubts(api.Msg{Kind: kind}, api.ErrArg)
		p.doubts(api.Msg{Kind: kind, Reply: y}, api.ErrArg)
	}
	p.believes(y)
	for _, m := range []api.Msg{{}, {Kind: api.MProbe, Client: 1}, {Kind: api.MSubmit, Client: 2}} {
		p.doubts(m, api.ErrArg)
	}
}

// believes asks that a reply is believed.
func (p *pair) believes(y api.Reply) {
	p.t.Helper()
	if _, e := p.takes(ofReply(y)); e != api.OK {
		p.t.Fatalf("%d with %.40q: Reply of %+v: %d", p.me, p.view, y, int(e))
	}
}

// wrongReplies are changes by which a reply's message may not be.
func wrongReplies() map[string]func(m *api.Msg) {
	return map[string]func(m *api.Msg){
		"Client":              func(m *api.Msg) { m.Client = 2 },
		"Client -1":           func(m *api.Msg) { m.Client = -1 },
		"Submit":              func(m *api.Msg) { m.Submit.Number = 1 },
		"View":                func(m *api.Msg) { m.View = "\x00" },
		"By":                  func(m *api.Msg) { m.By = 1 },
		"Tag":                 func(m *api.Msg) { m.Tag = api.Digest{1} },
		"Own":                 func(m *api.Msg) { m.Own = api.Digest{1} },
		"Blob":                func(m *api.Msg) { m.Blob.Number = 1 },
		"Numbers":             func(m *api.Msg) { m.Numbers = []int{1} },
		"Reply.Number 0":      func(m *api.Msg) { m.Reply.Number = 0 },
		"Reply.Number 513":    func(m *api.Msg) { m.Reply.Number = most + 1 },
		"Reply.Number lowest": func(m *api.Msg) { m.Reply.Number = math.MinInt },
		"Last -1":             func(m *api.Msg) { m.Reply.Last = -1 },
		"Last -2":             func(m *api.Msg) { m.Reply.Last = -2 },
		"Last 8":              func(m *api.Msg) { m.Reply.Last = 8 },
		"no View":             func(m *api.Msg) { m.Reply.View = "" },
		"View of 8":           func(m *api.Msg) { m.Reply.View += "\x08" },
		"View too long":       func(m *api.Msg) { m.Reply.View += strings.Repeat("\x01", most) },
		"9 pending":           func(m *api.Msg) { m.Reply.Pending = append(m.Reply.Pending, make([]api.Pending, 6)...) },
		"Pending Client 8":    func(m *api.Msg) { m.Reply.Pending[1].Client = 8 },
		"Pending Number 0":    func(m *api.Msg) { m.Reply.Pending[1].Number = 0 },
		"Pending Kind 3":      func(m *api.Msg) { m.Reply.Pending[2].Kind = 3 },
		"Pending Target -1":   func(m *api.Msg) { m.Reply.Pending[0].Target = -1 },
		"ValueNumber -1":      func(m *api.Msg) { m.Reply.ValueNumber = -1 },
		"ValueNumber 513":     func(m *api.Msg) { m.Reply.ValueNumber = most + 1 },
		"Value too long":      func(m *api.Msg) { m.Reply.Value = strings.Repeat("v", maxValue+1) },
		"Seen of 8":           func(m *api.Msg) { m.Reply.Seen += "\x08" },
		"Seen too long":       func(m *api.Msg) { m.Reply.Seen += strings.Repeat("\x01", most+1) },
	}
}

// P15.4: replies that may not be; ErrArg stands ahead of ErrNone.
func TestWrongReplies(t *testing.T) {
	for what, change := range wrongReplies() {
		for _, kind := range []int{write, read} {
			p, y := stand(t, kind, 2)
			if kind == read {
				y.ValueNumber, y.Value = 2, "held"
				y.Data = p.data(2, 2, "held")
			}
			m := ofReply(y)
			m.Reply.Pending = slices.Clone(y.Pending)
			change(&m)
			if _, e := msg.Put(m); e != api.ErrArg {
				t.Fatalf("%s may be", what)
			}
			p.doubts(m, api.ErrArg)
			if m.Reply.Number == y.Number {
				m.Reply.Number++
				p.doubts(m, api.ErrArg)
			}
			p.believes(y)
			m.Reply.Number = y.Number
			change(&m)
			p.doubts(m, api.ErrArg)
		}
	}
}

// P15.4: replies that nobody waits for: of a new one, behind a reply, with another number.
func TestNobodyWaits(t *testing.T) {
	g := groupOf(t, 6)
	p := begin(t, g, 2)
	for _, number := range []int{1, 2, 3, most} {
		p.doubts(ofReply(api.Reply{Number: number, Last: -1}), api.ErrNone)
	}
	p.waitsFor(write, 2, "v")
	for _, number := range []int{2, 3, most} {
		p.doubts(ofReply(api.Reply{Number: number, Last: -1}), api.ErrNone)
	}
	p.believes(api.Reply{Number: 1, Last: -1})
	for _, number := range []int{1, 2, 3, most} {
		p.doubts(ofReply(api.Reply{Number: number, Last: -1}), api.ErrNone)
		p.doubts(ofReply(api.Reply{Number: number, Last: 2, View: "\x02", Commit: g.done(2, "\x02")}), api.ErrNone)
	}
	p, y := stand(t, read, 1)
	for _, number := range []int{1, 2, 4, 5, most} {
		other := y
		other.Number = number
		p.doubts(ofReply(other), api.ErrNone)
		// Ahead of whatever else is wrong with it.
		other.Commit[0] ^= 1
		p.doubts(ofReply(other), api.ErrNone)
		other.View, other.Last = "\x07", 7
		p.doubts(ofReply(other), api.ErrNone)
	}
	p.believes(y)
}

// lie is a change by which a reply is not believed.
type lie struct {
	what   string
	e      api.Errno
	change func(g group, y *api.Reply)
}

// lies are one for each thing that P14.2 asks, of stand's reply to a Read of 1.
func lies() []lie {
	long := "\x00\x02\x01\x02\x01\x03\x01"
	view := func(last int, view string) func(g group, y *api.Reply) {
		return func(g group, y *api.Reply) { y.Last, y.View, y.Commit = last, view, api.Digest{} }
	}
	tagged := func(last int, view string) func(g group, y *api.Reply) {
		return func(g group, y *api.Reply) { y.Last, y.View, y.Commit = last, view, g.done(last, view) }
	}
	return []lie{
		{"Last is no client", api.ErrArg, view(6, long[:6]+"\x06")},
		{"the View may not be", api.ErrArg, view(1, "\x07"+long)},
		{"it does not end with Last", api.ErrFork, view(3, long)},
		{"Commit", api.ErrTag, view(1, long)},
		{"Commit is another one's", api.ErrTag, func(g group, y *api.Reply) { y.Commit = g.done(3, long) }},
		{"nobody's View", api.ErrFork, func(g group, y *api.Reply) { y.Last, y.View = -1, "" }},
		{"a shorter View", api.ErrFork, tagged(1, long[:3])},
		{"another View", api.ErrFork, tagged(1, "\x00\x02\x03\x02\x01")},
		{"more of my operations", api.ErrFork, tagged(2, long+"\x02")},
		{"mine is pending", api.ErrFork, func(g group, y *api.Reply) {
			y.Pending[1] = api.Pending{Client: 2, Number: 3, Kind: read, Target: 1, Asked: g.asked(2, 3, read, 1), Proof: g.done(2, long[:4])}
		}},
		{"a pending Client is none", api.ErrArg, func(g group, y *api.Reply) { y.Pending[0].Client = 6 }},
		{"a pending Target is none", api.ErrArg, func(g group, y *api.Reply) { y.Pending[2].Target = 7 }},
		{"a pending Number", api.ErrFork, func(g group, y *api.Reply) { y.Pending[1].Number = 3 }},
		{"a pending Asked", api.ErrTag, func(g group, y *api.Reply) { y.Pending[2].Asked[31] ^= 1 }},
		{"a pending Kind", api.ErrTag, func(g group, y *api.Reply) { y.Pending[0].Kind = write }},
		{"a Proof", api.ErrTag, func(g group, y *api.Reply) { y.Pending[0].Proof = api.Digest{} }},
		{"ValueNumber 2", api.ErrFork, func(g group, y *api.Reply) {
			y.ValueNumber, y.Value, y.Data = 2, valueOf(1, 2), g.data(1, 2, valueOf(1, 2))
		}},
		{"ValueNumber 0", api.ErrFork, func(g group, y *api.Reply) { y.ValueNumber, y.Value, y.Seen = 0, "", "" }},
		{"Value", api.ErrTag, func(g group, y *api.Reply) { y.Value = "another" }},
		{"Data", api.ErrTag, func(g group, y *api.Reply) { y.Data = g.data(2, 3, y.Value) }},
		{"no Seen", api.ErrFork, func(g group, y *api.Reply) { y.Seen = "" }},
		{"Seen ends with another one", api.ErrFork, func(g group, y *api.Reply) { y.Seen = long[:6] }},
		{"Seen is of another story", api.ErrFork, func(g group, y *api.Reply) { y.Seen = "\x01\x01\x01" }},
		{"Seen is old", api.ErrFork, func(g group, y *api.Reply) { y.Seen, y.SeenTag = long[:3], g.done(1, long[:3]) }},
		{"SeenTag", api.ErrTag, func(g group, y *api.Reply) { y.SeenTag = api.Digest{} }},
		{"SeenTag is of another one", api.ErrTag, func(g group, y *api.Reply) { y.Seen = long[:5] }},
	}
}

// P15.4: each of Check's errors: nothing has changed, and the right reply is believed behind it.
func TestLies(t *testing.T) {
	for _, l := range lies() {
		p, y := stand(t, read, 1)
		lied := y
		lied.Pending = slices.Clone(y.Pending)
		l.change(p.group, &lied)
		got, e := p.takes(ofReply(lied))
		if e != l.e || got != (api.Got{}) {
			t.Errorf("%s: %+v, %d, and not %d", l.what, got, int(e), int(l.e))
		}
		if !p.c.Busy() {
			t.Errorf("%s: it waits no more", l.what)
		}
		p.again()
		p.doubts(ofReply(lied), l.e)
		p.believes(y)
		p.doubts(ofReply(lied), api.ErrNone)
	}
	// All of them, one behind the other.
	p, y := stand(t, read, 1)
	for _, l := range lies() {
		lied := y
		lied.Pending = slices.Clone(y.Pending)
		l.change(p.group, &lied)
		p.doubts(ofReply(lied), l.e)
	}
	p.believes(y)
}

// P15.4: of a target that has done nothing no value is believed.
func TestNoValue(t *testing.T) {
	p, y := stand(t, read, 5)
	if y.ValueNumber != 0 {
		t.Fatal(y.ValueNumber)
	}
	lied := y
	lied.Value = "v"
	p.doubts(ofReply(lied), api.ErrFork)
	lied = y
	lied.Seen = "\x00"
	p.doubts(ofReply(lied), api.ErrFork)
	p.believes(y)
}

// P15.4: what has no room any more.
func TestNoRoom(t *testing.T) {
	g := groupOf(t, 3)
	for _, size := range []int{1, most - 8, most - 2, most - 1} {
		view := historyOf(3, 1, size)
		p := behind(t, g, 1, view, "")
		x := p.waitsFor(write, 1, "v")
		full := view + historyOf(2, 0, most-size)
		full = strings.ReplaceAll(full[size:], "\x01", "\x02")
		full = view + full
		if len(full) != most || count(full, 1) != count(view, 1) {
			t.Fatalf("%q", full)
		}
		// The View alone is full; it is by what is pending; and there is more pending than room.
		p.doubts(ofReply(g.reply(1, x, full)), api.ErrFull)
		p.doubts(ofReply(g.reply(1, x, full[:most-1], int(full[most-1]))), api.ErrFull)
		p.doubts(ofReply(g.reply(1, x, full, 0)), api.ErrFull)
		p.believes(g.reply(1, x, full[:most-1]))
		p.isFull()
	}
}

// P15.4: replies changed at random are judged as layer 14 does, and nothing else about the client changes by those that are not believed.
func TestRandomLies(t *testing.T) {
	rnd := rand.New(rand.NewSource(15))
	l := lies()
	seen := map[api.Errno]int{}
	for range 1500 {
		kind, target := read, rnd.Intn(6)
		if rnd.Intn(3) == 0 {
			kind, target = write, 2
		}
		p, y := stand(t, kind, target)
		for range 4 {
			lied := y
			lied.Pending = slices.Clone(y.Pending)
			for range rnd.Intn(3) {
				l[rnd.Intn(len(l))].change(p.group, &lied)
			}
			_, e := p.takes(ofReply(lied))
			seen[e]++
		}
	}
	for _, e := range []api.Errno{api.OK, api.ErrArg, api.ErrNone, api.ErrTag, api.ErrFork} {
		if seen[e] < 50 {
			t.Errorf("%d was answered %d times only", int(e), seen[e])
		}
	}
}

// P15.7: a view only goes on, and ends with me, one operation more of mine each time.
func TestGoesOn(t *testing.T) {
	rnd := rand.New(rand.NewSource(7))
	for clients := 2; clients <= 8; clients++ {
		g := groupOf(t, clients)
		me := rnd.Intn(clients)
		p := begin(t, g, me)
		for n := 1; n <= 30; n++ {
			was := p.c.View()
			long := was
			for range rnd.Intn(3) {
				if c := rnd.Intn(clients); c != me {
					long += by(c)
				}
			}
			var pending []int
			for c := range clients {
				if c != me && rnd.Intn(4) == 0 {
					pending = append(pending, c)
				}
			}
			x := p.waitsFor(write, me, valueOf(me, n))
			if x.Number != n {
				t.Fatalf("number %d, and not %d", x.Number, n)
			}
			p.believes(g.reply(me, x, long, pending...))
			view := p.c.View()
			if !strings.HasPrefix(view, was) || !strings.HasSuffix(view, by(me)) || count(view, me) != n || p.c.Number() != n {
				t.Fatalf("%q behind %q", view, was)
			}
		}
	}
}

// R3: what a message has is not kept.
func TestReplyNotKept(t *testing.T) {
	p, y := stand(t, read, 1)
	var handed [][]byte
	loose := func(s string) string {
		b := []byte(s)
		handed = append(handed, b)
		return unsafe.String(&b[0], len(b))
	}
	wantView, wantValue := y.View+"\x00\x03\x04\x02", y.Value
	wantLong, wantSeen := y.View, y.Seen
	y.View, y.Value, y.Seen = loose(y.View), loose(y.Value), loose(y.Seen)
	got, e := p.c.Reply(ofReply(y))
	for _, b := range handed {
		for i := range b {
			b[i] = 0x7f
		}
	}
	for i := range y.Pending {
		y.Pending[i] = spare
	}
	if e != api.OK || got.View != wantView || got.Value != wantValue || got.Long != wantLong || got.Seen != wantSeen {
		t.Errorf("%+v, %d", got, int(e))
	}
	if p.c.View() != wantView {
		t.Errorf("%q", p.c.View())
	}
}

// Two clients of one ring, beside each other, and two of the same number: none of them knows of another one.
func TestApart(t *testing.T) {
	g := groupOf(t, 2)
	a, b, other := begin(t, g, 0), begin(t, g, 1), begin(t, g, 0)
	a.waitsFor(write, 0, "a")
	b.same()
	other.same()
	b.waitsFor(write, 1, "b")
	a.same()
	other.same()
	a.believes(api.Reply{Number: 1, Last: -1})
	b.same()
	other.same()
	b.believes(g.reply(1, b.x, "\x00"))
	a.same()
	other.waitsFor(read, 1, "")
	a.same()
	a.waitsFor(read, 1, "")
	y := g.reply(0, a.x, "\x00\x01")
	y.Value, y.Data = "b", g.data(1, 1, "b")
	a.believes(y)
	b.same()
	other.same()
	if got, e := other.c.Reply(ofReply(api.Reply{Number: 1, Last: -1})); e != api.OK || got.View != "\x00" {
		t.Errorf("%+v, %d", got, int(e))
	}
	a.same()
	b.same()
}

// R4: the same calls are answered the same.
func TestSameAgain(t *testing.T) {
	run := func() []look {
		g := groupOf(t, 3)
		c, _ := ustor.New(g.ring, 1)
		l := []look{lookOf(t, c)}
		view := ""
		for n := 1; n <= 10; n++ {
			m, _ := c.Ask(write, 1, valueOf(1, n))
			l = append(l, lookOf(t, c))
			c.Reply(ofReply(g.reply(1, m.Submit, view, n%2*2)))
			l = append(l, lookOf(t, c))
			view = c.View()
		}
		return l
	}
	first := run()
	for range 5 {
		if again := run(); !slices.Equal(first, again) {
			t.Fatalf("%+v\n%+v", first, again)
		}
	}
}
