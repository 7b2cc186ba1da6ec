package verify_test

import (
	"fmt"
	"math"
	"slices"
	"strings"
	"testing"

	"affidavit/api"
	"affidavit/ring"
	"affidavit/verify"
)

// The document's numbers, written out: a limit that were another one in the program would be found.
const (
	most     = 512 // the greatest number of an operation, and the longest history
	maxWaits = 8   // as many operations may be pending
	maxValue = 256
	write    = 1
	read     = 2
	domAsked = 1 // DSubmit
	domData  = 2 // DData
	domView  = 3 // DCommit
)

// zero is no tag.
var zero api.Digest

// spare is what stands in the room behind a list that is handed in.
var spare = api.Pending{Client: -77, Number: -78, Kind: -79}

// by is a client's number as a byte of a history.
func by(client int) string { return string([]byte{byte(client)}) }

// count is how many operations a client has in a history.
func count(d string, client int) int {
	if client < 0 || client > 255 {
		return 0
	}
	return strings.Count(d, by(client))
}

// upto is a history up to a client's last operation.
func upto(d string, client int) string { return d[:strings.LastIndex(d, by(client))+1] }

// turned is a tag of which bits of one byte are turned.
func turned(d api.Digest, place int, bits byte) api.Digest {
	d[place] ^= bits
	return d
}

// group is the clients of a ring. Whoever checks has the ring; tags are made by another one of the same seed, and judged by a third one, so that whoever writes into a book is found.
type group struct {
	clients           int
	ring, keys, judge *ring.Ring
}

func groupOf(t testing.TB, clients int) group {
	t.Helper()
	var l [3]*ring.Ring
	for i := range l {
		r, e := ring.New("the seed", clients)
		if e != api.OK {
			t.Fatalf("New of %d: %d", clients, int(e))
		}
		l[i] = r
	}
	return group{clients, l[0], l[1], l[2]}
}

// tag is a client's tag.
func (g group) tag(client, domain int, text string) api.Digest {
	d, e := g.keys.Tag(client, domain, text)
	if e != api.OK {
		panic(fmt.Sprintf("no tag of %d, domain %d, %.40q: %d", client, domain, text, int(e)))
	}
	return d
}

// askedText and dataText are the texts that are tagged, written out.
func askedText(client, number, kind, target int) string {
	return fmt.Sprintf("%d;%d;%d;%d;", client, number, kind, target)
}

func dataText(number int, value string) string {
	return fmt.Sprintf("%d;%d:%s", number, len(value), value)
}

// asked, data and done are a client's tags of an operation, of a value, of a view.
func (g group) asked(client, number, kind, target int) api.Digest {
	return g.tag(client, domAsked, askedText(client, number, kind, target))
}

func (g group) data(client, number int, value string) api.Digest {
	return g.tag(client, domData, dataText(number, value))
}

func (g group) done(client int, view string) api.Digest { return g.tag(client, domView, view) }

// waits is a client's next operation behind a history, pending as it should be.
func (g group) waits(d string, client, kind, target int) api.Pending {
	number := count(d, client) + 1
	p := api.Pending{Client: client, Number: number, Kind: kind, Target: target, Asked: g.asked(client, number, kind, target)}
	if number > 1 {
		p.Proof = g.done(client, upto(d, client))
	}
	return p
}

// submit is what a client with a view asks.
func (g group) submit(me int, view string, kind, target int) api.Submit {
	number := count(view, me) + 1
	value := fmt.Sprintf("what %d holds at %d", me, number)
	return api.Submit{Number: number, Kind: kind, Target: target, Value: value, Asked: g.asked(me, number, kind, target), Data: g.data(me, number, value)}
}

// scene is a client that was answered: all that Check is asked.
type scene struct {
	group
	me   int
	view string
	x    api.Submit
	y    api.Reply
}

// sceneOf is a client that has a view, asks, and is answered the truth: the longest view, and whose operations are pending behind it, one behind the other.
func sceneOf(g group, me int, view string, kind, target int, long string, pending ...int) scene {
	s := scene{group: g, me: me, view: view, x: g.submit(me, view, kind, target)}
	s.y = api.Reply{Number: s.x.Number, Last: -1, View: long}
	if long != "" {
		s.y.Last = int(long[len(long)-1])
		s.y.Commit = g.done(s.y.Last, long)
	}
	for i, c := range pending {
		s.y.Pending = append(s.y.Pending, g.waits(s.ahead(), c, 1+i%2, (c+i)%g.clients))
	}
	if kind == read {
		s.tellValue()
	}
	return s
}

// ahead is the history ahead of my operation.
func (s scene) ahead() string {
	d := s.y.View
	for _, p := range s.y.Pending {
		d += by(p.Client)
	}
	return d
}

// tellValue has the reply tell what the target's register holds, and the target's last view: of what is pending nobody has had one.
func (s *scene) tellValue() {
	t := s.x.Target
	n := count(s.ahead(), t)
	s.y.ValueNumber, s.y.Value, s.y.Data, s.y.Seen, s.y.SeenTag = n, "", zero, "", zero
	if n == 0 {
		return
	}
	s.y.Value = fmt.Sprintf("value of %d, its %dth", t, n)
	s.y.Data = s.data(t, n, s.y.Value)
	seen := upto(s.y.View, t)
	if n > count(seen, t)+1 {
		// More than one of its operations is pending: it has had the view of all but the last.
		d := upto(s.ahead(), t)
		seen = upto(d[:len(d)-1], t)
	}
	s.see(seen)
}

// see has the reply tell a view as the target's last one.
func (s *scene) see(view string) {
	s.y.Seen, s.y.SeenTag = view, zero
	if view != "" {
		s.y.SeenTag = s.done(s.x.Target, view)
	}
}

// with is a scene that is changed; the first one stays as it is.
func (s scene) with(changes ...func(s *scene)) scene {
	s.y.Pending = slices.Clone(s.y.Pending)
	for _, change := range changes {
		change(&s)
	}
	return s
}

// told is what is learned if the reply is believed, field by field.
func (s scene) told() api.Got {
	got := api.Got{View: s.ahead() + by(s.me), By: -1}
	if s.y.View != "" {
		got.By, got.Long, got.LongTag = s.y.Last, s.y.View, s.y.Commit
	}
	if s.x.Kind == read {
		got.Number, got.Value, got.Seen, got.SeenTag = s.y.ValueNumber, s.y.Value, s.y.Seen, s.y.SeenTag
	}
	return got
}

// asks asks Check, twice, with room behind the list and without, and that nothing that was handed in is changed.
func asks(t testing.TB, s scene) (api.Got, api.Errno) {
	t.Helper()
	was := append(slices.Clone(s.y.Pending), spare, spare)
	l := slices.Clone(was)
	roomy := s.y
	roomy.Pending = l[:len(l)-2]
	tagged, clients := s.ring.Len(), s.ring.Clients()
	got, e := verify.Check(s.ring, s.me, s.view, s.x, roomy)
	again, then := verify.Check(s.ring, s.me, s.view, s.x, s.y)
	if got != again || e != then {
		t.Fatalf("%s:\n%+v, %d, and then\n%+v, %d", s, got, int(e), again, int(then))
	}
	if !slices.Equal(l, was) || !slices.Equal(s.y.Pending, was[:len(was)-2]) {
		t.Fatalf("%s: what is pending was changed: %+v", s, l)
	}
	if s.ring.Len() != tagged || s.ring.Clients() != clients {
		t.Fatalf("%s: the ring has %d in its book, and not %d", s, s.ring.Len(), tagged)
	}
	if e != api.OK && got != (api.Got{}) {
		t.Fatalf("%s: %+v beside the error %d", s, got, int(e))
	}
	return got, e
}

// believes asks for a reply that is believed, and what is learned.
func believes(t testing.TB, s scene) {
	t.Helper()
	got, e := asks(t, s)
	if want := s.told(); e != api.OK || got != want {
		t.Fatalf("%s:\n%+v, %d, and not\n%+v", s, got, int(e), want)
	}
}

// doubts asks for an error.
func doubts(t testing.TB, s scene, e api.Errno) {
	t.Helper()
	if got, is := asks(t, s); is != e {
		t.Fatalf("%s:\n%+v, %d, and not %d", s, got, int(is), int(e))
	}
}

// String is a scene as a failing test tells it.
func (s scene) String() string {
	text := fmt.Sprintf("of %d clients %d with %s asks %d, kind %d, target %d, and is answered %d: last %d, %s", s.clients, s.me, short(s.view), s.x.Number, s.x.Kind, s.x.Target, s.y.Number, s.y.Last, short(s.y.View))
	for _, p := range s.y.Pending {
		text += fmt.Sprintf(", %d's %d", p.Client, p.Number)
	}
	return text + fmt.Sprintf("; value %d, %d bytes, seen %s", s.y.ValueNumber, len(s.y.Value), short(s.y.Seen))
}

// short is a history as a failing test tells it.
func short(d string) string {
	if len(d) > 40 {
		return fmt.Sprintf("%q.. (%d)", d[:40], len(d))
	}
	return fmt.Sprintf("%q", d)
}

// nobodies are numbers of no client, of so many.
func nobodies(clients int) []int {
	return []int{-1, clients, clients + 1, 8, 9, 255, 256, math.MinInt, math.MaxInt, 1 << 32, -1 << 32, 1<<32 + 1, 257}
}

// busy is a client that reads, with something of all: own operations, others' behind them, and three that are pending, a first one and two later ones.
func busy(t testing.TB, target int) scene {
	view := "\x00\x02\x01\x02"
	return sceneOf(groupOf(t, 6), 2, view, read, target, view+"\x01\x03\x01", 0, 3, 4)
}
