package faust_test

import (
	"fmt"
	"math"
	"slices"
	"strings"
	"testing"

	"affidavit/api"
	"affidavit/msg"
	"affidavit/ring"
)

// The document's numbers, written out: one that were another one in the program would be found.
const (
	most     = 512 // the longest history
	maxValue = 256
	maxText  = 16384
	every    = 4
	idle     = 7

	write = 1
	read  = 2

	domAsked   = 1 // DSubmit
	domData    = 2 // DData
	domView    = 3 // DCommit
	domBlob    = 4
	domVersion = 5
	domAlarm   = 6

	isSubmit  = 1
	isReply   = 2
	isCommit  = 3
	isPut     = 4
	isGet     = 5
	isBlob    = 6
	isNone    = 7
	isPrune   = 8
	isProbe   = 9
	isVersion = 10
	isAlarm   = 11
)

// by is a client's number as a byte of a history.
func by(client int) string { return string([]byte{byte(client)}) }

// last is whose operation a history's last one is.
func last(d string) int { return int(d[len(d)-1]) }

// count is how many operations a client has in a history.
func count(d string, client int) int { return strings.Count(d, by(client)) }

// upto is a history up to a client's last operation.
func upto(d string, client int) string { return d[:strings.LastIndex(d, by(client))+1] }

// fit tells whether one is a beginning of the other.
func fit(a, b string) bool { return strings.HasPrefix(a, b) || strings.HasPrefix(b, a) }

// right tells whether a history may be, of so many clients.
func right(d string, clients int) bool {
	return len(d) <= most && !slices.ContainsFunc([]byte(d), func(b byte) bool { return int(b) >= clients })
}

// historyOf is a history of so many operations of a group's clients that ends with a client.
func historyOf(clients, me, size int) string {
	b := make([]byte, size)
	for i := range b {
		b[i] = byte((me + clients*size - (size - 1 - i)) % clients)
	}
	return string(b)
}

// nobodies are numbers of no client, of so many.
func nobodies(clients int) []int {
	return []int{-1, clients, clients + 1, 8, 9, 255, 256, math.MinInt, math.MinInt + 1, math.MaxInt, 1 << 32, -1 << 32, 1<<32 + 1, 257}
}

// others are all clients but one, rising.
func others(clients, me int) []int {
	var l []int
	for client := range clients {
		if client != me {
			l = append(l, client)
		}
	}
	return l
}

// group is the clients of a ring; the tests' own tags are made by another one of the same seed, so that the first one's book has nothing but what the program tagged.
type group struct {
	clients    int
	ring, keys *ring.Ring
}

func groupOf(t testing.TB, clients int) group {
	t.Helper()
	var l [2]*ring.Ring
	for i := range l {
		r, e := ring.New("the seed", clients)
		if e != api.OK {
			t.Fatalf("a ring of %d: %d", clients, int(e))
		}
		l[i] = r
	}
	return group{clients, l[0], l[1]}
}

// tag is a client's tag.
func (g group) tag(client, domain int, text string) api.Digest {
	d, e := g.keys.Tag(client, domain, text)
	if e != api.OK {
		panic(fmt.Sprintf("no tag of %d, domain %d, %.40q: %d", client, domain, text, int(e)))
	}
	return d
}

// asked, data, done, version and alarm are a client's tags, the texts written out.
func (g group) asked(client, number, kind, target int) api.Digest {
	return g.tag(client, domAsked, fmt.Sprintf("%d;%d;%d;%d;", client, number, kind, target))
}

func (g group) data(client, number int, value string) api.Digest {
	return g.tag(client, domData, fmt.Sprintf("%d;%d:%s", number, len(value), value))
}

func (g group) done(client int, view string) api.Digest { return g.tag(client, domView, view) }

func (g group) version(client, by int, view string) api.Digest {
	return g.tag(client, domVersion, fmt.Sprintf("%d;%d:%s", by, len(view), view))
}

func (g group) alarm(client int) api.Digest { return g.tag(client, domAlarm, "") }

// submit is an operation of a client's as it should be.
func (g group) submit(me, number, kind, target int, value string) api.Submit {
	return api.Submit{Number: number, Kind: kind, Target: target, Value: value, Asked: g.asked(me, number, kind, target), Data: g.data(me, number, value)}
}

// What a client sends, as it should be.
func ofProbe(client int) api.Msg { return api.Msg{Kind: isProbe, Client: client} }

func (g group) ofAlarm(client int) api.Msg {
	return api.Msg{Kind: isAlarm, Client: client, Own: g.alarm(client)}
}

func (g group) ofCommit(client int, view string) api.Msg {
	return api.Msg{Kind: isCommit, Client: client, View: view, Tag: g.done(client, view)}
}

// ofVersion is what a client tells of a view that whoever it ends with has committed.
func (g group) ofVersion(client int, view string) api.Msg {
	return api.Msg{Kind: isVersion, Client: client, By: last(view), View: view, Tag: g.done(last(view), view), Own: g.version(client, last(view), view)}
}

// ofReply is a reply as a message.
func ofReply(y api.Reply) api.Msg { return api.Msg{Kind: isReply, Reply: y} }

// reply is an answer to a client's Submit that is to be believed: the longest view, and whose operations are pending behind it. What registers hold is valueOf's.
func (g group) reply(me int, x api.Submit, long string, pending ...int) api.Reply {
	y := api.Reply{Number: x.Number, Last: -1, View: long}
	if long != "" {
		y.Last = last(long)
		y.Commit = g.done(y.Last, long)
	}
	d := long
	for _, c := range pending {
		n := count(d, c) + 1
		p := api.Pending{Client: c, Number: n, Kind: read, Target: me, Asked: g.asked(c, n, read, me)}
		if n > 1 {
			p.Proof = g.done(c, upto(d, c))
		}
		y.Pending = append(y.Pending, p)
		d += by(c)
	}
	if n := count(d, x.Target); x.Kind == read && n > 0 {
		y.ValueNumber, y.Value = n, valueOf(x.Target, n)
		y.Data = g.data(x.Target, n, y.Value)
		if y.Seen = upto(long, x.Target); y.Seen != "" {
			y.SeenTag = g.done(x.Target, y.Seen)
		}
	}
	return y
}

func valueOf(client, number int) string { return fmt.Sprintf("what %d holds at %d", client, number) }

// wrongMessages are some that may not be, or are no messages at all.
func wrongMessages() []api.Msg {
	return []api.Msg{
		{}, {Kind: -1}, {Kind: 12}, {Kind: 1<<32 + isReply}, {Kind: math.MinInt}, {Kind: math.MaxInt},
		{Kind: isReply, Reply: api.Reply{Number: 0, Last: -1}}, {Kind: isReply, Reply: api.Reply{Number: 513, Last: -1}},
		{Kind: isReply, Reply: api.Reply{Number: 1, Last: 0}}, {Kind: isReply, Client: 1, Reply: api.Reply{Number: 1, Last: -1}},
		{Kind: isReply, Reply: api.Reply{Number: 1, Last: -1, View: "\x00"}}, {Kind: isReply, By: 1, Reply: api.Reply{Number: 1, Last: -1}},
		{Kind: isProbe, Client: 1, By: 1}, {Kind: isProbe, Client: 1, View: "\x01"}, {Kind: isProbe, Client: 1, Numbers: []int{1}},
		{Kind: isVersion, Client: 1, By: 1}, {Kind: isVersion, Client: 1, By: 8, View: "\x01"}, {Kind: isVersion, Client: 1, By: -1, View: "\x01"},
		{Kind: isVersion, Client: 1, By: 1, View: "\x08\x01"}, {Kind: isVersion, Client: 1, By: 1, View: strings.Repeat("\x01", most+1)},
		{Kind: isAlarm, Client: 1, By: 1}, {Kind: isAlarm, Client: 1, Tag: api.Digest{1}}, {Kind: isAlarm, Client: 1, View: "\x01"},
	}
}

// otherKinds are messages that may be, one of each Kind that a client says, none of which are for another one.
func (g group) otherKinds(client int) []api.Msg {
	blob := api.Blob{Owner: client, Number: 4, Cipher: "veiled", Tag: g.tag(client, domBlob, "4;6:veiled")}
	return []api.Msg{
		{Kind: isSubmit, Client: client, Submit: g.submit(client, 1, write, client, "v")},
		g.ofCommit(client, by(client)),
		{Kind: isPut, Blob: blob},
		{Kind: isGet, Client: client, Numbers: []int{1, 2}},
		{Kind: isBlob, Blob: blob},
		{Kind: isNone, Client: client, Numbers: []int{1}},
		{Kind: isPrune, Client: client, Numbers: []int{0, 1 << 40}},
	}
}

// textOf is a message as a text to look at, and to hold against another one.
func textOf(t testing.TB, m api.Msg) string {
	t.Helper()
	b, e := msg.Put(m)
	if e != api.OK {
		t.Fatalf("a message that may not be: %+v", m)
	}
	return b
}

// textsOf are what is sent, each with to whom.
func textsOf(t testing.TB, l []api.Send) string {
	t.Helper()
	var b strings.Builder
	for _, x := range l {
		fmt.Fprintf(&b, "to %d: %q\n", x.To, textOf(t, x.M))
	}
	return b.String()
}
