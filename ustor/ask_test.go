package ustor_test

import (
	"math"
	"strings"
	"testing"
	"unsafe"

	"affidavit/api"
	"affidavit/msg"
	"affidavit/ring"
	"affidavit/ustor"
)

// The chapter's example, of each client of each group: a write v is number 1; the reply of nobody: the view is me.
func TestExample(t *testing.T) {
	for clients := 2; clients <= 8; clients++ {
		for me := range clients {
			g := groupOf(t, clients)
			c, e := ustor.New(g.ring, me)
			if e != api.OK {
				t.Fatal(int(e))
			}
			m, e := c.Ask(write, me, "v")
			if e != api.OK || m.Kind != isSubmit || m.Client != me || m.Submit.Number != 1 || m.Submit.Value != "v" {
				t.Fatalf("%+v, %d", m, int(e))
			}
			got, e := c.Reply(ofReply(api.Reply{Number: 1, Last: -1}))
			if e != api.OK || got != (api.Got{View: by(me), By: -1}) {
				t.Fatalf("%+v, %d", got, int(e))
			}
			if c.View() != by(me) || c.Value() != "v" || c.Number() != 1 || c.Busy() {
				t.Fatalf("%q, %q, %d, %v", c.View(), c.Value(), c.Number(), c.Busy())
			}
		}
	}
}

// P15.1: a nil ring, clients that there are, and such as there are not.
func TestNew(t *testing.T) {
	for clients := 2; clients <= 8; clients++ {
		g := groupOf(t, clients)
		for me := range clients {
			p := begin(t, g, me)
			if got := lookOf(t, p.c); got != (look{bytes: "0:0:0;"}) {
				t.Fatalf("a new one: %+v", got)
			}
		}
		for _, me := range nobodies(clients) {
			if c, e := ustor.New(g.ring, me); c != nil || e != api.ErrArg {
				t.Errorf("of %d clients %d: %v, %d", clients, me, c, int(e))
			}
		}
		if g.ring.Len() != 0 {
			t.Errorf("%d were tagged", g.ring.Len())
		}
	}
	for _, me := range append(nobodies(2), 0, 1) {
		if c, e := ustor.New(nil, me); c != nil || e != api.ErrNil {
			t.Errorf("%d of a nil ring: %v, %d", me, c, int(e))
		}
		// Such a ring has no clients.
		if c, e := ustor.New(&ring.Ring{}, me); c != nil || e != api.ErrArg {
			t.Errorf("%d of a ring that no call made: %v, %d", me, c, int(e))
		}
	}
}

// P15.2: a Write and a Read, field by field.
func TestSubmits(t *testing.T) {
	g := groupOf(t, 3)
	p := begin(t, g, 2)
	m, _ := p.asks(write, 2, "one")
	for what, right := range map[string]bool{
		"Kind":          m.Kind == isSubmit,
		"Client":        m.Client == 2,
		"Submit.Number": m.Submit.Number == 1,
		"Submit.Kind":   m.Submit.Kind == write,
		"Submit.Target": m.Submit.Target == 2,
		"Submit.Value":  m.Submit.Value == "one",
		"Submit.Asked":  m.Submit.Asked == g.tag(2, domAsked, "2;1;1;2;"),
		"Submit.Data":   m.Submit.Data == g.tag(2, domData, "1;3:one"),
		"the rest":      msg.Same(m, api.Msg{Kind: isSubmit, Client: 2, Submit: m.Submit}),
		"the register":  p.c.Value() == "one",
		"it waits":      p.c.Busy(),
		"none done":     p.c.Number() == 0 && p.c.View() == "",
		"the book":      g.ring.Len() == 2 && g.ring.Made(2, domAsked, "2;1;1;2;") && g.ring.Made(2, domData, "1;3:one"),
	} {
		if !right {
			t.Errorf("of a Write, %s: %+v", what, m)
		}
	}
	p.takes(ofReply(g.reply(2, p.x, "")))
	m, _ = p.asks(read, 1, "not this")
	for what, right := range map[string]bool{
		"Kind":          m.Kind == isSubmit,
		"Client":        m.Client == 2,
		"Submit.Number": m.Submit.Number == 2,
		"Submit.Kind":   m.Submit.Kind == read,
		"Submit.Target": m.Submit.Target == 1,
		"Submit.Value":  m.Submit.Value == "one",
		"Submit.Asked":  m.Submit.Asked == g.tag(2, domAsked, "2;2;2;1;"),
		"Submit.Data":   m.Submit.Data == g.tag(2, domData, "2;3:one"),
		"the register":  p.c.Value() == "one",
		"it waits":      p.c.Busy(),
		"one done":      p.c.Number() == 1 && p.c.View() == "\x02",
	} {
		if !right {
			t.Errorf("of a Read, %s: %+v", what, m)
		}
	}
}

// P15.2: a Read ahead of any Write holds nothing; what a Write holds stays, through Reads, till the next one, an empty one too.
func TestHeld(t *testing.T) {
	p := begin(t, groupOf(t, 3), 0)
	view, held := "", ""
	for i, step := range []struct {
		kind  int
		value string
	}{{read, "x"}, {read, ""}, {write, "a"}, {read, "b"}, {write, "bb"}, {write, ""}, {read, "c"}, {write, "\x00\xff"}, {read, ""}, {write, "\x00\xff"}} {
		if step.kind == write {
			held = step.value
		}
		x := p.waitsFor(step.kind, 0, step.value)
		if x.Number != i+1 || x.Value != held || p.c.Value() != held {
			t.Fatalf("step %d: %+v, %q", i, x, p.c.Value())
		}
		y := api.Reply{Number: i + 1, Last: -1, View: view}
		if view != "" {
			y.Last, y.Commit = 0, p.done(0, view)
		}
		if step.kind == read && i > 0 {
			was, _ := p.c.Again()
			y.ValueNumber, y.Value, y.Data = i, was.Submit.Value, p.data(0, i, was.Submit.Value)
			y.Seen, y.SeenTag = view, p.done(0, view)
		}
		if _, e := p.takes(ofReply(y)); e != api.OK {
			t.Fatalf("step %d: %d", i, int(e))
		}
		view += "\x00"
		if p.c.View() != view || p.c.Number() != i+1 || p.c.Value() != held {
			t.Fatalf("step %d: %q, %d, %q", i, p.c.View(), p.c.Number(), p.c.Value())
		}
	}
}

// P15.2: each kind that there is, and no other one.
func TestKinds(t *testing.T) {
	for _, kind := range []int{0, 3, -1, 4, -2, math.MinInt, math.MaxInt, 1<<32 + 1, 1<<32 + 2, 257} {
		p := begin(t, groupOf(t, 2), 1)
		p.refused(kind, 1, "v", api.ErrArg)
		p.refused(kind, 0, "", api.ErrArg)
		p.waitsFor(write, 1, "v")
	}
	for _, kind := range []int{write, read} {
		begin(t, groupOf(t, 2), 1).waitsFor(kind, 1, "v")
	}
}

// P15.2: each target that there is; of a Write only one's own.
func TestTargets(t *testing.T) {
	for _, clients := range []int{2, 3, 7, 8} {
		g := groupOf(t, clients)
		for me := range clients {
			for target := range clients {
				begin(t, g, me).waitsFor(read, target, "")
				p := begin(t, g, me)
				if target == me {
					p.waitsFor(write, target, "v")
				} else {
					p.refused(write, target, "v", api.ErrArg)
				}
			}
			for _, target := range nobodies(clients) {
				p := begin(t, g, me)
				p.refused(write, target, "v", api.ErrArg)
				p.refused(read, target, "v", api.ErrArg)
			}
		}
	}
}

// P15.2: values of up to 256 bytes, of a Read too, whose value is none of the register's.
func TestValues(t *testing.T) {
	for _, size := range []int{0, 1, maxValue - 1, maxValue} {
		value := strings.Repeat("\xff", size)
		p := begin(t, groupOf(t, 2), 0)
		if x := p.waitsFor(write, 0, value); x.Value != value {
			t.Errorf("of %d bytes: %d", size, len(x.Value))
		}
		if x := begin(t, groupOf(t, 2), 0).waitsFor(read, 1, value); x.Value != "" {
			t.Errorf("a Read of %d bytes: %q", size, x.Value)
		}
	}
	for _, size := range []int{maxValue + 1, maxText, maxText + 1, 1 << 20} {
		p := begin(t, groupOf(t, 2), 0)
		p.refused(write, 0, strings.Repeat("v", size), api.ErrArg)
		p.refused(read, 1, strings.Repeat("v", size), api.ErrArg)
		p.waitsFor(write, 0, "v")
	}
}

// P15.2, P15.7: whoever waits asks for nothing else, right or wrong.
func TestBusy(t *testing.T) {
	p := begin(t, groupOf(t, 3), 1)
	for _, kind := range []int{write, read} {
		p.waitsFor(kind, 1, "first")
		p.refused(write, 1, "other", api.ErrBusy)
		p.refused(write, 1, "first", api.ErrBusy)
		p.refused(read, 0, "", api.ErrBusy)
		p.refused(0, 1, "", api.ErrBusy)
		p.refused(read, 3, "", api.ErrBusy)
		p.refused(write, 0, "", api.ErrBusy)
		p.refused(write, 1, strings.Repeat("v", maxValue+1), api.ErrBusy)
		p.again()
		p.refused(read, 0, "", api.ErrBusy)
		y := p.group.reply(1, p.x, p.view)
		if kind == read {
			y.Value, y.Data = "first", p.data(1, 1, "first")
		}
		if _, e := p.takes(ofReply(y)); e != api.OK {
			t.Fatal(int(e))
		}
	}
}

// P15.2: a view of 511 operations has room for one, one of 512 for none.
func TestFull(t *testing.T) {
	for _, clients := range []int{2, 3, 8} {
		for me := range clients {
			g := groupOf(t, clients)
			for _, kind := range []int{write, read} {
				view := historyOf(clients, me, most-1)
				p := behind(t, g, me, view, "held")
				x := p.waitsFor(kind, me, "v")
				if x.Number != count(view, me)+1 {
					t.Fatalf("number %d", x.Number)
				}
				p.again()
				if _, e := p.takes(ofReply(g.reply(me, x, view))); e != api.OK {
					t.Fatalf("the last one: %d", int(e))
				}
				p.isFull()
				p.again()
				p.isFull()
				behind(t, g, me, historyOf(clients, me, most), "held").isFull()
			}
		}
	}
	// All of them mine: number 512 is the last one.
	g := groupOf(t, 2)
	mine := strings.Repeat("\x01", most-1)
	p := behind(t, g, 1, mine, "")
	if x := p.waitsFor(write, 1, ""); x.Number != most {
		t.Fatal(x.Number)
	}
	p.takes(ofReply(g.reply(1, p.x, mine)))
	p.isFull()
}

// isFull asks that a client has no room, and that what may not be is told ahead of that.
func (p *pair) isFull() {
	p.t.Helper()
	if len(p.view) != most {
		p.t.Fatalf("%d operations", len(p.view))
	}
	p.refused(write, p.me, "v", api.ErrFull)
	p.refused(read, 0, "", api.ErrFull)
	p.refused(read, p.me, strings.Repeat("v", maxValue), api.ErrFull)
	p.refused(0, p.me, "v", api.ErrArg)
	p.refused(3, p.me, "v", api.ErrArg)
	p.refused(read, p.clients, "", api.ErrArg)
	p.refused(read, -1, "", api.ErrArg)
	p.refused(write, (p.me+1)%p.clients, "", api.ErrArg)
	p.refused(write, p.me, strings.Repeat("v", maxValue+1), api.ErrArg)
}

// P15.3: Again and Commit, ahead of the first Ask, while it waits, behind a reply, and while it waits again.
func TestAgainAndCommit(t *testing.T) {
	g := groupOf(t, 3)
	p := begin(t, g, 1)
	none := func(what string, m api.Msg, is bool) {
		t.Helper()
		if is || !msg.Same(m, api.Msg{}) {
			t.Errorf("%s: %+v, %v", what, m, is)
		}
	}
	some := func(what string, m api.Msg, is bool, want api.Msg) {
		t.Helper()
		if !is || !msg.Same(m, want) {
			t.Errorf("%s: %+v, %v, and not %+v", what, m, is, want)
		}
	}
	again := func() (api.Msg, bool) { return p.c.Again() }
	commit := func() (api.Msg, bool) { return p.c.Commit() }

	m, is := again()
	none("Again of a new one", m, is)
	m, is = commit()
	none("Commit of a new one", m, is)

	first, _ := p.asks(write, 1, "v")
	for range 3 {
		m, is = again()
		some("Again while it waits", m, is, first)
		m, is = commit()
		none("Commit while it waits for the first one", m, is)
	}

	p.takes(ofReply(g.reply(1, p.x, "", 0, 2)))
	view := "\x00\x02\x01"
	done := api.Msg{Kind: isCommit, Client: 1, View: view, Tag: g.done(1, view)}
	for range 3 {
		m, is = again()
		none("Again behind a reply", m, is)
		m, is = commit()
		some("Commit behind a reply", m, is, done)
	}
	if !g.ring.Made(1, domView, view) {
		t.Error("the tag of the commit is not in the book")
	}

	second, _ := p.asks(read, 2, "")
	m, is = again()
	some("Again of the second one", m, is, second)
	m, is = commit()
	some("Commit while it waits for the second one", m, is, done)

	p.takes(ofReply(g.reply(1, p.x, view, 0)))
	m, is = again()
	none("Again behind the second one", m, is)
	view += "\x00\x01"
	m, is = commit()
	some("Commit of the second one", m, is, api.Msg{Kind: isCommit, Client: 1, View: view, Tag: g.done(1, view)})
}

// P15.5: looks ahead of and behind each call.
func TestLooks(t *testing.T) {
	g := groupOf(t, 2)
	c, _ := ustor.New(g.ring, 0)
	sees := func(what, view, value string, number int, busy bool) {
		t.Helper()
		if c.View() != view || c.Value() != value || c.Number() != number || c.Busy() != busy {
			t.Fatalf("%s: %q, %q, %d, %v", what, c.View(), c.Value(), c.Number(), c.Busy())
		}
	}
	sees("a new one", "", "", 0, false)
	c.Ask(0, 0, "x")
	sees("a wrong Ask", "", "", 0, false)
	c.Ask(write, 0, "one")
	sees("a Write", "", "one", 0, true)
	c.Again()
	c.Commit()
	c.Bytes()
	sees("messages", "", "one", 0, true)
	c.Ask(write, 0, "two")
	sees("an Ask while it waits", "", "one", 0, true)
	c.Reply(ofReply(api.Reply{Number: 2, Last: -1}))
	sees("a reply that it does not wait for", "", "one", 0, true)
	c.Reply(ofReply(g.reply(0, g.submit(0, 1, write, 0, "one"), "\x01")))
	sees("a reply", "\x01\x00", "one", 1, false)
	c.Reply(ofReply(g.reply(0, g.submit(0, 1, write, 0, "one"), "\x01")))
	sees("the same once more", "\x01\x00", "one", 1, false)
	c.Ask(read, 1, "three")
	sees("a Read", "\x01\x00", "one", 1, true)
	c.Reply(ofReply(g.reply(0, g.submit(0, 2, read, 1, "one"), "\x01\x00", 1)))
	sees("a second reply", "\x01\x00\x01\x00", "one", 2, false)
	c.Ask(write, 0, "")
	sees("a Write of nothing", "\x01\x00\x01\x00", "", 2, true)
}

// R1, P15.2 to P15.6: every call of nil, and of one that no call made, which is taken for it.
func TestNil(t *testing.T) {
	for what, c := range map[string]*ustor.Reg{"nil": nil, "one that no call made": {}} {
		for _, kind := range []int{write, read, 0} {
			for _, target := range []int{0, 1, -1, math.MaxInt} {
				for _, value := range []string{"", "v", strings.Repeat("v", maxValue+1)} {
					if m, e := c.Ask(kind, target, value); e != api.ErrNil || !msg.Same(m, api.Msg{}) {
						t.Errorf("Ask of %s: %+v, %d", what, m, int(e))
					}
				}
			}
		}
		for _, m := range []api.Msg{{}, ofReply(api.Reply{Number: 1, Last: -1}), {Kind: isSubmit}} {
			if got, e := c.Reply(m); e != api.ErrNil || got != (api.Got{}) {
				t.Errorf("Reply of %s: %+v, %d", what, got, int(e))
			}
		}
		if got := lookOf(t, c); got != (look{}) {
			t.Errorf("%s: %+v", what, got)
		}
	}
}

// R3: a value that is handed in is not kept, and what is answered is new memory.
func TestValueNotKept(t *testing.T) {
	b := []byte("a value")
	p := begin(t, groupOf(t, 2), 0)
	m, e := p.c.Ask(write, 0, unsafe.String(&b[0], len(b)))
	was := p.c.Bytes()
	copy(b, "another")
	if e != api.OK || m.Submit.Value != "a value" || p.c.Value() != "a value" || p.c.Bytes() != was {
		t.Errorf("%+v, %q, %q", m, p.c.Value(), p.c.Bytes())
	}
	again, _ := p.c.Again()
	if again.Submit.Value != "a value" {
		t.Errorf("%+v", again)
	}
}

// P15.2: whoever asks has what is asked tagged, by itself and by nobody else.
func TestBook(t *testing.T) {
	g := groupOf(t, 3)
	for me, value := range []string{"zero", "one", "two"} {
		c, _ := ustor.New(g.ring, me)
		if m, e := c.Ask(write, me, value); e != api.OK || !g.ring.Check(me, domAsked, msg.Asked(me, m.Submit), m.Submit.Asked) || !g.ring.Check(me, domData, msg.Data(1, value), m.Submit.Data) {
			t.Fatalf("%+v, %d", m, int(e))
		}
		if g.ring.Len() != 2*(me+1) {
			t.Errorf("%d in the book behind %d", g.ring.Len(), me)
		}
		for other := range 3 {
			if g.ring.Made(other, domData, msg.Data(1, value)) != (other == me) {
				t.Errorf("%d's tag, of what %d asked", other, me)
			}
		}
	}
}
