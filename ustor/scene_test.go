package ustor_test

import (
	"fmt"
	"math"
	"slices"
	"strings"
	"testing"

	"affidavit/api"
	"affidavit/msg"
	"affidavit/ring"
	"affidavit/ustor"
	"affidavit/verify"
)

// The document's numbers, written out: a limit that were another one in the program would be found.
const (
	most     = 512 // the longest history
	maxValue = 256
	maxText  = 16384
	write    = 1
	read     = 2
	domAsked = 1 // DSubmit
	domData  = 2 // DData
	domView  = 3 // DCommit
	isSubmit = 1 // MSubmit
	isReply  = 2 // MReply
	isCommit = 3 // MCommit
)

// zero is no tag.
var zero api.Digest

// by is a client's number as a byte of a history.
func by(client int) string { return string([]byte{byte(client)}) }

// count is how many operations a client has in a history.
func count(d string, client int) int { return strings.Count(d, by(client)) }

// upto is a history up to a client's last operation.
func upto(d string, client int) string { return d[:strings.LastIndex(d, by(client))+1] }

// nobodies are numbers of no client, of so many.
func nobodies(clients int) []int {
	return []int{-1, clients, clients + 1, 8, 9, 255, 256, math.MinInt, math.MaxInt, 1 << 32, -1 << 32, 1<<32 + 1, 257}
}

// group is the clients of a ring; the tests' own tags are made by another one of the same seed, so that the first one's book has nothing but what the program tagged.
type group struct {
	clients    int
	ring, keys *ring.Ring
}

func groupOf(t testing.TB, clients int) group {
	t.Helper()
	var l [2]*ring.Ring
	for i := range l {
		r, e := ring.New("the seed", clients)
		if e != api.OK {
			t.Fatalf("a ring of %d: %d", clients, int(e))
		}
		l[i] = r
	}
	return group{clients, l[0], l[1]}
}

// tag is a client's tag.
func (g group) tag(client, domain int, text string) api.Digest {
	d, e := g.keys.Tag(client, domain, text)
	if e != api.OK {
		panic(fmt.Sprintf("no tag of %d, domain %d, %.40q: %d", client, domain, text, int(e)))
	}
	return d
}

// asked, data and done are a client's tags of an operation, of a value, of a view, the texts written out.
func (g group) asked(client, number, kind, target int) api.Digest {
	return g.tag(client, domAsked, fmt.Sprintf("%d;%d;%d;%d;", client, number, kind, target))
}

func (g group) data(client, number int, value string) api.Digest {
	return g.tag(client, domData, fmt.Sprintf("%d;%d:%s", number, len(value), value))
}

func (g group) done(client int, view string) api.Digest { return g.tag(client, domView, view) }

// submit is an operation of a client's as it should be.
func (g group) submit(me, number, kind, target int, value string) api.Submit {
	return api.Submit{Number: number, Kind: kind, Target: target, Value: value, Asked: g.asked(me, number, kind, target), Data: g.data(me, number, value)}
}

// reply is an answer to a client's Submit that is to be believed: the longest view, and whose operations are pending behind it. What others' registers hold is valueOf's.
func (g group) reply(me int, x api.Submit, long string, pending ...int) api.Reply {
	y := api.Reply{Number: x.Number, Last: -1, View: long}
	if long != "" {
		y.Last = int(long[len(long)-1])
		y.Commit = g.done(y.Last, long)
	}
	d := long
	for _, c := range pending {
		n := count(d, c) + 1
		p := api.Pending{Client: c, Number: n, Kind: read, Target: me, Asked: g.asked(c, n, read, me)}
		if n > 1 {
			p.Proof = g.done(c, upto(d, c))
		}
		y.Pending = append(y.Pending, p)
		d += by(c)
	}
	if x.Kind == read {
		g.tellValue(&y, x.Target, long, d)
	}
	return y
}

// tellValue has a reply tell what the target's register holds behind a history, and the view that it had last.
func (g group) tellValue(y *api.Reply, target int, long, d string) {
	n := count(d, target)
	if n == 0 {
		return
	}
	y.ValueNumber, y.Value = n, valueOf(target, n)
	y.Data = g.data(target, n, y.Value)
	if y.Seen = upto(long, target); y.Seen != "" {
		y.SeenTag = g.done(target, y.Seen)
	}
}

func valueOf(client, number int) string { return fmt.Sprintf("what %d holds at %d", client, number) }

// ofReply is a reply as a message.
func ofReply(y api.Reply) api.Msg { return api.Msg{Kind: isReply, Reply: y} }

// look is all that can be seen of a client, its messages as bytes ("": there is none).
type look struct {
	view, value          string
	number               int
	busy                 bool
	again, commit, bytes string
}

// lookOf looks at a client; a message that it has not is nothing at all.
func lookOf(t testing.TB, g *ustor.Reg) look {
	t.Helper()
	return look{g.View(), g.Value(), g.Number(), g.Busy(), bytesOf(t, g.Again), bytesOf(t, g.Commit), g.Bytes()}
}

func bytesOf(t testing.TB, ask func() (api.Msg, bool)) string {
	t.Helper()
	m, is := ask()
	if !is {
		if !msg.Same(m, api.Msg{}) {
			t.Fatalf("%+v, false", m)
		}
		return ""
	}
	return put(t, m)
}

func put(t testing.TB, m api.Msg) string {
	t.Helper()
	s, e := msg.Put(m)
	if e != api.OK {
		t.Fatalf("%+v may not be: %d", m, int(e))
	}
	return s
}

// model is a client by a second set of rules.
type model struct {
	group
	me          int
	view, value string
	waits       bool
	x           api.Submit
}

// look is what should be seen.
func (m model) look(t testing.TB) look {
	t.Helper()
	l := look{view: m.view, value: m.value, number: count(m.view, m.me), busy: m.waits, bytes: m.bytes()}
	if m.waits {
		l.again = put(t, api.Msg{Kind: isSubmit, Client: m.me, Submit: m.x})
	}
	if m.view != "" {
		l.commit = put(t, api.Msg{Kind: isCommit, Client: m.me, View: m.view, Tag: m.done(m.me, m.view)})
	}
	return l
}

// laid is a text as lay lays it.
func laid(s string) string { return fmt.Sprintf("%d:%s", len(s), s) }

func (m model) bytes() string {
	s := laid(m.view) + laid(m.value)
	if !m.waits {
		return s + "0;"
	}
	return s + fmt.Sprintf("1;%d;%d;%d;", m.x.Number, m.x.Kind, m.x.Target) + laid(m.x.Value)
}

// ask is what P15.2 says.
func (m *model) ask(kind, target int, value string) (api.Msg, api.Errno) {
	switch {
	case m.waits:
		return api.Msg{}, api.ErrBusy
	case kind != write && kind != read, target < 0, target >= m.clients, kind == write && target != m.me, len(value) > maxValue:
		return api.Msg{}, api.ErrArg
	case len(m.view) == most:
		return api.Msg{}, api.ErrFull
	}
	if kind == write {
		m.value = value
	}
	m.waits, m.x = true, m.submit(m.me, count(m.view, m.me)+1, kind, target, m.value)
	return api.Msg{Kind: isSubmit, Client: m.me, Submit: m.x}, api.OK
}

// reply is what P15.4 says, believed or not by layer 14.
func (m *model) reply(y api.Msg) (api.Got, api.Errno) {
	if _, e := msg.Put(y); e != api.OK || y.Kind != isReply {
		return api.Got{}, api.ErrArg
	}
	if !m.waits || y.Reply.Number != m.x.Number {
		return api.Got{}, api.ErrNone
	}
	got, e := verify.Check(m.keys, m.me, m.view, m.x, y.Reply)
	if e == api.OK {
		m.view, m.waits, m.x = got.View, false, api.Submit{}
	}
	return got, e
}

// pair is a client, and the model that it is held against.
type pair struct {
	model
	t testing.TB
	c *ustor.Reg
}

// begin is a client that has done nothing.
func begin(t testing.TB, g group, me int) *pair {
	t.Helper()
	c, e := ustor.New(g.ring, me)
	if e != api.OK || c == nil {
		t.Fatalf("New of %d: %d", me, int(e))
	}
	p := &pair{model{group: g, me: me}, t, c}
	p.same()
	return p
}

// behind is a client with a view, and what its register holds, which does not wait.
func behind(t testing.TB, g group, me int, view, value string) *pair {
	t.Helper()
	p := &pair{model{group: g, me: me, view: view, value: value}, t, nil}
	c, e := ustor.Read(g.ring, me, p.bytes())
	if e != api.OK || c == nil {
		t.Fatalf("Read of %q: %d", p.bytes(), int(e))
	}
	p.c = c
	p.same()
	return p
}

// same asks that the client is as the model.
func (p *pair) same() {
	p.t.Helper()
	if got, want := lookOf(p.t, p.c), p.look(p.t); got != want {
		p.t.Fatalf("%d:\n%+v, and not\n%+v", p.me, got, want)
	}
}

// asks has the client ask, and answers what it answered, which has to be what the model says.
func (p *pair) asks(kind, target int, value string) (api.Msg, api.Errno) {
	p.t.Helper()
	tagged := p.ring.Len()
	m, e := p.c.Ask(kind, target, value)
	want, wrong := p.ask(kind, target, value)
	if e != wrong || !msg.Same(m, want) {
		p.t.Fatalf("%d with %.40q: Ask of %d, %d, %d bytes:\n%+v, %d, and not\n%+v, %d", p.me, p.view, kind, target, len(value), m, int(e), want, int(wrong))
	}
	if e != api.OK && p.ring.Len() != tagged {
		p.t.Fatalf("%d: something was tagged beside the error %d", p.me, int(e))
	}
	p.same()
	return m, e
}

// refused asks for an error of Ask.
func (p *pair) refused(kind, target int, value string, e api.Errno) {
	p.t.Helper()
	if _, is := p.asks(kind, target, value); is != e {
		p.t.Fatalf("%d with %.40q: Ask of %d, %d, %d bytes: %d, and not %d", p.me, p.view, kind, target, len(value), int(is), int(e))
	}
}

// waitsFor has the client ask for something that it may ask for.
func (p *pair) waitsFor(kind, target int, value string) api.Submit {
	p.t.Helper()
	p.refused(kind, target, value, api.OK)
	return p.x
}

// spare is what stands in the room behind a list that is handed in.
var spare = api.Pending{Client: -77, Number: -78, Kind: -79}

// takes has the client take an answer, and tells what it answered, which has to be what the model says; what is handed in is not changed.
func (p *pair) takes(y api.Msg) (api.Got, api.Errno) {
	p.t.Helper()
	was := append(slices.Clone(y.Reply.Pending), spare, spare)
	l := slices.Clone(was)
	numbers := slices.Clone(y.Numbers)
	y.Reply.Pending = l[:len(l)-2]
	tagged := p.ring.Len()
	got, e := p.c.Reply(y)
	want, wrong := p.reply(y)
	if e != wrong || got != want {
		p.t.Fatalf("%d with %.40q: Reply of %+v:\n%+v, %d, and not\n%+v, %d", p.me, p.view, y, got, int(e), want, int(wrong))
	}
	if !slices.Equal(l, was) || !slices.Equal(numbers, y.Numbers) {
		p.t.Fatalf("%d: what was handed in is changed: %+v", p.me, l)
	}
	if e != api.OK && p.ring.Len() != tagged {
		p.t.Fatalf("%d: something was tagged beside the error %d", p.me, int(e))
	}
	p.same()
	return got, e
}

// doubts asks for an error of Reply.
func (p *pair) doubts(y api.Msg, e api.Errno) {
	p.t.Helper()
	if got, is := p.takes(y); is != e || got != (api.Got{}) {
		p.t.Fatalf("%d with %.40q: Reply of %+v: %+v, %d, and not %d", p.me, p.view, y, got, int(is), int(e))
	}
}

// does has the client ask for something, and be answered the truth.
func (p *pair) does(kind, target int, value, long string, pending ...int) api.Got {
	p.t.Helper()
	x := p.waitsFor(kind, target, value)
	got, e := p.takes(ofReply(p.group.reply(p.me, x, long, pending...)))
	if e != api.OK {
		p.t.Fatalf("%d with %.40q is not answered: %d", p.me, p.view, int(e))
	}
	return got
}

// again has the client laid and read, and go on as what was read.
func (p *pair) again() {
	p.t.Helper()
	c, e := ustor.Read(p.ring, p.me, p.c.Bytes())
	if e != api.OK || c == nil || c == p.c {
		p.t.Fatalf("%d: Read of %.80q: %d", p.me, p.c.Bytes(), int(e))
	}
	p.same()
	p.c = c
	p.same()
}

// historyOf is a history of so many operations of a group's clients that ends with a client.
func historyOf(clients, me, size int) string {
	b := make([]byte, size)
	for i := range b {
		b[i] = byte((me + size - 1 - i) % clients)
	}
	return string(b)
}
