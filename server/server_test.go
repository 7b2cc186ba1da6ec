package server_test

import (
	"crypto/sha256"
	"hash/crc32"
	"math"
	"math/rand"
	"slices"
	"strconv"
	"strings"
	"testing"

	"affidavit/api"
	"affidavit/blobs"
	"affidavit/msg"
	"affidavit/regs"
	"affidavit/server"
)

// The document's numbers, written out: a limit that were another one in the program would be found.
const (
	mostClients = 8
	mostAsked   = 64
	mostNumber  = 1 << 40
	mostPending = 8
	mostDone    = 512
	maxCipher   = 4096
	maxBlobs    = 256
	maxBytes    = 32768
	maxValue    = 256
)

// tagOf is a tag that no other texts have.
func tagOf(texts ...string) api.Digest {
	return sha256.Sum256([]byte(strings.Join(texts, "|")))
}

// by is a client's number as a byte of a view.
func by(client int) string { return string([]byte{byte(client)}) }

// nobodies are numbers of no client, of so many.
func nobodies(clients int) []int {
	return []int{-1, clients, clients + 1, math.MinInt, math.MaxInt, 1 << 32, -1 << 32, 1<<32 + 1, 256, -256}
}

// asks is a client's submit.
func asks(client, number, kind, target int) api.Msg {
	own := strconv.Itoa(number) + by(client)
	return api.Msg{Kind: api.MSubmit, Client: client, Submit: api.Submit{
		Number: number, Kind: kind, Target: target, Value: "value " + own, Asked: tagOf("asked", own), Data: tagOf("data", own),
	}}
}

// writes is a client's submit of a write.
func writes(client, number int) api.Msg { return asks(client, number, api.Write, client) }

// did is a client's commit.
func did(client int, view string) api.Msg {
	return api.Msg{Kind: api.MCommit, Client: client, View: view, Tag: tagOf("view", by(client), view)}
}

// blob is one with a Cipher, and a tag that no other one has.
func blob(owner, number int, cipher string) api.Blob {
	return api.Blob{Owner: owner, Number: number, Cipher: cipher, Tag: tagOf("blob", by(owner), strconv.Itoa(number), cipher)}
}

// lays is the message that lays a blob down.
func lays(b api.Blob) api.Msg { return api.Msg{Kind: api.MPut, Blob: b} }

// wants is the message that asks for an owner's blobs.
func wants(owner int, numbers ...int) api.Msg {
	return api.Msg{Kind: api.MGet, Client: owner, Numbers: numbers}
}

// drops is the message that prunes a client's blobs.
func drops(client int, numbers ...int) api.Msg {
	return api.Msg{Kind: api.MPrune, Client: client, Numbers: numbers}
}

// comes is the message that tells a blob.
func comes(b api.Blob) api.Msg { return api.Msg{Kind: api.MBlob, Blob: b} }

// lacks is the message that tells which of an owner's blobs there are not.
func lacks(owner int, numbers ...int) api.Msg {
	return api.Msg{Kind: api.MNone, Client: owner, Numbers: numbers}
}

// told is the message that tells a reply.
func told(y api.Reply) api.Msg { return api.Msg{Kind: api.MReply, Reply: y} }

// pendingOf is a submit as it is pending.
func pendingOf(m api.Msg, proof api.Digest) api.Pending {
	x := m.Submit
	return api.Pending{Client: m.Client, Number: x.Number, Kind: x.Kind, Target: x.Target, Asked: x.Asked, Proof: proof}
}

// ofEachKind are messages of all eleven kinds, each of which says a client and would do something to a server that knows submit 1 of that client, and blobs 1 and 2 of it.
func ofEachKind(client int) []api.Msg {
	tag := tagOf("some", by(client))
	return []api.Msg{
		writes(client, 2),
		told(api.Reply{Number: 1, Last: client, View: by(client), Commit: tag}),
		did(client, by(client)),
		lays(blob(client, 3, "three")),
		wants(client, 1, 2, 3),
		comes(blob(client, 4, "four")),
		lacks(client, 1, 2),
		drops(client, 1, 2),
		{Kind: api.MProbe, Client: client},
		{Kind: api.MVersion, Client: client, By: client, View: by(client), Tag: tag, Own: tagOf("own")},
		{Kind: api.MAlarm, Client: client, Own: tag},
	}
}

// made makes a server.
func made(t *testing.T, clients int) *server.Server {
	t.Helper()
	s, e := server.New(clients)
	if s == nil || e != api.OK {
		t.Fatalf("New of %d: %v, %d", clients, s, int(e))
	}
	return s
}

// busy makes a server that knows submit 1 of each client, and blobs 1 and 2 of it.
func busy(t *testing.T, clients int) *server.Server {
	t.Helper()
	s := made(t, clients)
	for c := range clients {
		if l := s.On(c, laid(t, writes(c, 1))); len(l) != 1 {
			t.Fatalf("submit of %d: %q", c, l)
		}
		quiet(t, s, c, lays(blob(c, 1, "one")))
		quiet(t, s, c, lays(blob(c, 2, "two")))
	}
	return s
}

// laid is a message's bytes.
func laid(t *testing.T, m api.Msg) string {
	t.Helper()
	b, e := msg.Put(m)
	if e != api.OK {
		t.Fatalf("message %+v: %d", m, int(e))
	}
	return b
}

// answers asks for what is answered: the very bytes of messages.
func answers(t *testing.T, s *server.Server, client int, m api.Msg, want ...api.Msg) {
	t.Helper()
	answersBytes(t, s, client, laid(t, m), want...)
}

// answersBytes asks for what is answered to bytes.
func answersBytes(t *testing.T, s *server.Server, client int, b string, want ...api.Msg) {
	t.Helper()
	var l []string
	for _, w := range want {
		l = append(l, laid(t, w))
	}
	r, o := s.Regs(), s.Blobs()
	if got := s.On(client, b); !slices.Equal(got, l) {
		t.Fatalf("from %d, %.200q:\n%.900q, and not\n%.900q", client, b, got, l)
	}
	if s.Regs() != r || s.Blobs() != o {
		t.Fatalf("from %d, %.200q: other registers, or other blobs", client, b)
	}
}

// quiet asks for no answer.
func quiet(t *testing.T, s *server.Server, client int, m api.Msg) {
	t.Helper()
	answers(t, s, client, m)
}

// idle asks for no answer, and that nothing has changed.
func idle(t *testing.T, s *server.Server, client int, m api.Msg) {
	t.Helper()
	idleBytes(t, s, client, laid(t, m))
}

// idleBytes asks for no answer to bytes, and that nothing has changed.
func idleBytes(t *testing.T, s *server.Server, client int, b string) {
	t.Helper()
	was := lookAt(s)
	answersBytes(t, s, client, b)
	if is := lookAt(s); is != was {
		t.Fatalf("from %d, %.200q changed\n%+v to\n%+v", client, b, was, is)
	}
}

// part is what a server has of one client.
type part struct {
	number      int
	view, blobs string
}

// look is all that can be looked at.
type look struct {
	order string
	parts [mostClients]part
}

// shown is a blob as a text that no other one has here; a short sum of its Cipher is enough, which is looked at often.
func shown(b api.Blob) string {
	short := crc32.ChecksumIEEE([]byte(b.Cipher))
	return strconv.Itoa(b.Owner) + "," + strconv.Itoa(b.Number) + ":" + strconv.Itoa(len(b.Cipher)) + "," + strconv.Itoa(int(short)) + string(b.Tag[:]) + ";"
}

func lookAt(s *server.Server) look { return lookInto(s.Regs(), s.Blobs()) }

func lookInto(r *regs.Regs, o *blobs.Store) look {
	l := look{order: r.Order()}
	for c := range mostClients {
		p := &l.parts[c]
		p.number, p.view = r.Number(c), r.View(c)
		for _, n := range o.Numbers(c) {
			b, _ := o.Get(c, n)
			p.blobs += shown(b)
		}
	}
	return l
}

// changed asks for what alone has changed since somebody looked.
func changed(t *testing.T, s *server.Server, was look, change func(l *look)) {
	t.Helper()
	change(&was)
	if is := lookAt(s); is != was {
		t.Fatalf("it is\n%+v, and not\n%+v", is, was)
	}
}

// has asks for an owner's blobs, and no others of it.
func has(t *testing.T, s *server.Server, owner int, l ...api.Blob) {
	t.Helper()
	if n := s.Blobs().Numbers(owner); len(n) != len(l) {
		t.Fatalf("owner %d has %v, and not %d", owner, n, len(l))
	}
	for _, b := range l {
		if got, e := s.Blobs().Get(owner, b.Number); e != api.OK || got != b {
			t.Fatalf("owner %d, number %d: %v, %d, and not %v", owner, b.Number, got, int(e), b)
		}
	}
}

// P13.2, P13.3: the chapter's example.
func TestExample(t *testing.T) {
	s := made(t, 3)
	idle(t, s, 2, lays(blob(1, 5, "five")))
	has(t, s, 1)
	has(t, s, 2)
	answers(t, s, 1, wants(1, 5, 6), lacks(1, 5, 6))
	quiet(t, s, 1, lays(blob(1, 5, "five")))
	for c := range 3 {
		answers(t, s, c, wants(1, 5, 6), comes(blob(1, 5, "five")), lacks(1, 6))
	}
}

// P13.1: regs.New's error, or a server in which nothing was done.
func TestNew(t *testing.T) {
	for _, n := range []int{2, 3, 4, 5, 6, 7, 8} {
		s := made(t, n)
		if s.Regs() == nil || s.Blobs() == nil || lookAt(s) != (look{}) {
			t.Fatalf("New of %d: %+v", n, lookAt(s))
		}
		for c := range n {
			answers(t, s, c, wants(n-1-c, 0, 1), lacks(n-1-c, 0, 1))
			answers(t, made(t, n), c, asks(c, 1, api.Read, n-1-c), told(api.Reply{Number: 1, Last: -1}))
		}
		if lookAt(s) != (look{}) {
			t.Fatalf("asked for blobs, it is %+v", lookAt(s))
		}
	}
	for _, n := range []int{-1, 0, 1, 9, 10, math.MinInt, math.MaxInt, -2, -8, 1 << 32, 1<<32 + 2} {
		_, want := regs.New(n)
		if s, e := server.New(n); s != nil || e != want || e != api.ErrArg {
			t.Errorf("New of %d: %v, %d", n, s, int(e))
		}
	}
}

// P13.2: messages come from the clients that there are, whatever the messages say, and from no others.
func TestClients(t *testing.T) {
	for _, n := range []int{2, 3, 8} {
		s := busy(t, n)
		order := s.Regs().Order()
		for _, c := range nobodies(n) {
			for says := range mostClients {
				for _, m := range ofEachKind(says) {
					idle(t, s, c, m)
				}
				for _, number := range []int{1, 2} {
					idle(t, s, c, writes(says, number))
				}
			}
		}
		for c := range n {
			answers(t, s, c, wants(c, 1, 2, 3), comes(blob(c, 1, "one")), comes(blob(c, 2, "two")), lacks(c, 3))
			quiet(t, s, c, lays(blob(c, 3, "three")))
			quiet(t, s, c, drops(c, 1, 2))
			has(t, s, c, blob(c, 3, "three"))
			quiet(t, s, c, did(c, order[:c+1]))
			if v := s.Regs().View(c); v != order[:c+1] {
				t.Fatalf("view of %d: %q", c, v)
			}
			if l := s.On(c, laid(t, writes(c, 2))); len(l) != 1 || s.Regs().Number(c) != 2 {
				t.Fatalf("submit of %d: %q, %d", c, l, s.Regs().Number(c))
			}
		}
	}
}

// P13.2: bytes that are no message do nothing: each message cut short, anywhere, and with bytes ahead of it and behind it.
func TestNoMessages(t *testing.T) {
	s := busy(t, 3)
	refused := func(b string) {
		t.Helper()
		if _, e := msg.Get(b); e == api.OK {
			t.Fatalf("%q is a message", b)
		}
		for c := range 3 {
			idleBytes(t, s, c, b)
		}
	}
	for _, b := range []string{"", "what", ";", "1", "1;", "4;", "5;1;", "5;1;()", "5;1;(2;1;)", "5;1;(1;1;)", "5;1;(-1;)", "5;8;(1;)", "8;-1;(1;)", "9;1", "\x00", "\xff\xff"} {
		refused(b)
	}
	for client := range 3 {
		for _, m := range ofEachKind(client) {
			b := laid(t, m)
			for i := range len(b) {
				refused(b[:i])
			}
			for _, more := range []string{";", "0", "\x00", " ", "\n", "1;", b} {
				refused(b + more)
			}
			refused(" " + b)
			refused("0" + b)
		}
	}
}

// P13.2: kinds that are none.
func TestNoKinds(t *testing.T) {
	s := busy(t, 2)
	for _, kind := range []int{0, 12, 13, -1, -5, math.MinInt, math.MaxInt, 1<<32 + 5, 256 + 4} {
		for _, m := range ofEachKind(1) {
			b := laid(t, m)
			_, fields, _ := strings.Cut(b, ";")
			idleBytes(t, s, 1, strconv.Itoa(kind)+";"+fields)
		}
		idleBytes(t, s, 1, strconv.Itoa(kind)+";")
		idleBytes(t, s, 1, strconv.Itoa(kind)+";1;")
	}
}

// P13.2: what each kind does, and that the kinds that are not for a server do nothing.
func TestKinds(t *testing.T) {
	s := busy(t, 2)
	was := lookAt(s)
	for _, m := range ofEachKind(0) {
		switch m.Kind {
		case api.MReply, api.MBlob, api.MNone, api.MProbe, api.MVersion, api.MAlarm:
			idle(t, s, 0, m)
		}
	}
	answers(t, s, 0, wants(0, 1, 2, 3), comes(blob(0, 1, "one")), comes(blob(0, 2, "two")), lacks(0, 3))
	changed(t, s, was, func(*look) {})
	quiet(t, s, 0, did(0, "\x00"))
	changed(t, s, was, func(l *look) { l.parts[0].view = "\x00" })
	was = lookAt(s)
	answers(t, s, 0, writes(0, 2), told(api.Reply{
		Number: 2, Last: 0, View: "\x00", Commit: did(0, "\x00").Tag, Pending: []api.Pending{pendingOf(writes(1, 1), api.Digest{})},
	}))
	changed(t, s, was, func(l *look) { l.order, l.parts[0].number = "\x00\x01\x00", 2 })
	was = lookAt(s)
	quiet(t, s, 0, lays(blob(0, 3, "three")))
	changed(t, s, was, func(l *look) { l.parts[0].blobs += shown(blob(0, 3, "three")) })
	was = lookAt(s)
	quiet(t, s, 0, drops(0, 1, 2))
	changed(t, s, was, func(l *look) { l.parts[0].blobs = shown(blob(0, 3, "three")) })
}

// P13.2, P13.6: whoever says that it is another one does nothing, whatever kind its message is of; but anybody asks for anybody's blobs.
func TestAnotherClient(t *testing.T) {
	const clients = 4
	for from := range clients {
		s := busy(t, clients)
		for says := range mostClients {
			if says == from {
				continue
			}
			for _, m := range ofEachKind(says) {
				if m.Kind != api.MGet {
					idle(t, s, from, m)
				}
			}
			// Neither what is asked again, nor what the sender itself would be due to say.
			idle(t, s, from, writes(says, 1))
			idle(t, s, from, asks(says, 2, api.Read, from))
			idle(t, s, from, did(says, by(from)))
			idle(t, s, from, lays(blob(says, 1, "one")))
			idle(t, s, from, drops(says, 3))
		}
		// From itself each of them does what it does: there was something to be refused.
		for _, m := range ofEachKind(from) {
			s := busy(t, clients)
			was := lookAt(s)
			l := s.On(from, laid(t, m))
			does := m.Kind == api.MSubmit || m.Kind == api.MCommit || m.Kind == api.MPut || m.Kind == api.MPrune
			if does == (lookAt(s) == was) {
				t.Fatalf("kind %d from %d itself: %q, and it is %+v", m.Kind, from, l, lookAt(s))
			}
		}
	}
}

// P13.2: an MPut is of its Owner, though its Client is 0 always.
func TestOwner(t *testing.T) {
	const clients = 3
	for from := range clients {
		for owner := range mostClients {
			s := made(t, clients)
			b := blob(owner, 9, "nine")
			if owner != from {
				idle(t, s, from, lays(b))
				continue
			}
			quiet(t, s, from, lays(b))
			has(t, s, owner, b)
			// A blob that comes is none that is laid down.
			idle(t, s, from, comes(blob(owner, 10, "ten")))
		}
	}
}

// P13.2: the Reply is regs', whatever is pending, was read, and was done.
func TestReply(t *testing.T) {
	s := made(t, 3)
	answers(t, s, 2, writes(2, 1), told(api.Reply{Number: 1, Last: -1}))
	first := pendingOf(writes(2, 1), api.Digest{})
	answers(t, s, 0, asks(0, 1, api.Read, 2), told(api.Reply{
		Number: 1, Last: -1, Pending: []api.Pending{first}, ValueNumber: 1, Value: writes(2, 1).Submit.Value, Data: writes(2, 1).Submit.Data,
	}))
	quiet(t, s, 2, did(2, "\x02"))
	second := pendingOf(asks(0, 1, api.Read, 2), api.Digest{})
	answers(t, s, 2, writes(2, 2), told(api.Reply{Number: 2, Last: 2, View: "\x02", Commit: did(2, "\x02").Tag, Pending: []api.Pending{second}}))
	third := pendingOf(writes(2, 2), did(2, "\x02").Tag)
	answers(t, s, 1, asks(1, 1, api.Read, 2), told(api.Reply{
		Number: 1, Last: 2, View: "\x02", Commit: did(2, "\x02").Tag, Pending: []api.Pending{second, third},
		ValueNumber: 2, Value: writes(2, 2).Submit.Value, Data: writes(2, 2).Submit.Data, Seen: "\x02", SeenTag: did(2, "\x02").Tag,
	}))
	if o := s.Regs().Order(); o != "\x02\x00\x02\x01" {
		t.Fatalf("order: %q", o)
	}
}

// P13.2: values that are empty, and as great as they may be.
func TestValues(t *testing.T) {
	for _, size := range []int{0, 1, maxValue - 1, maxValue} {
		s := made(t, 2)
		m := writes(0, 1)
		m.Submit.Value = strings.Repeat("\x00", size)
		answers(t, s, 0, m, told(api.Reply{Number: 1, Last: -1}))
		answers(t, s, 1, asks(1, 1, api.Read, 0), told(api.Reply{
			Number: 1, Last: -1, Pending: []api.Pending{pendingOf(m, api.Digest{})}, ValueNumber: 1, Value: m.Submit.Value, Data: m.Submit.Data,
		}))
	}
}

// P13.2: a submit that regs refuses has no answer, of each of its errors, and changes nothing.
func TestSubmitRefused(t *testing.T) {
	s := made(t, 2)
	refused := func(client int, m api.Msg, e api.Errno) {
		t.Helper()
		if _, got := s.Regs().Submit(client, m.Submit); got != e {
			t.Fatalf("submit of %d, number %d: %d, and not %d", client, m.Submit.Number, int(got), int(e))
		}
		idle(t, s, client, m)
	}
	refused(0, asks(0, 1, api.Read, 2), api.ErrArg)
	refused(1, asks(1, 1, api.Write, 7), api.ErrArg)
	refused(1, writes(1, 2), api.ErrRange)
	answers(t, s, 1, writes(1, 1), told(api.Reply{Number: 1, Last: -1}))
	other := writes(1, 1)
	other.Submit.Value += "!"
	refused(1, other, api.ErrExist)
	refused(1, asks(1, 1, api.Write, 0), api.ErrExist)
	refused(1, writes(1, 3), api.ErrRange)
	for n := 2; n <= mostPending; n++ {
		if l := s.On(1, laid(t, writes(1, n))); len(l) != 1 {
			t.Fatalf("number %d: %q", n, l)
		}
	}
	refused(1, writes(1, mostPending+1), api.ErrFull)
	refused(0, writes(0, 1), api.ErrFull)
	refused(1, writes(1, 1), api.ErrRange)
	quiet(t, s, 1, did(1, strings.Repeat("\x01", mostPending)))
	answers(t, s, 0, writes(0, 1), told(api.Reply{
		Number: 1, Last: 1, View: strings.Repeat("\x01", mostPending), Commit: did(1, strings.Repeat("\x01", mostPending)).Tag,
	}))
}

// P13.2: number 512 is the last one, and its Reply the longest.
func TestLastSubmit(t *testing.T) {
	s := made(t, 2)
	all := strings.Repeat("\x01", mostDone)
	for n := 1; n <= mostDone; n++ {
		y := api.Reply{Number: n, Last: -1}
		if n > 1 {
			y.Last, y.View, y.Commit = 1, all[:n-1], did(1, all[:n-1]).Tag
		}
		answers(t, s, 1, writes(1, n), told(y))
		quiet(t, s, 1, did(1, all[:n]))
	}
	idle(t, s, 0, writes(0, 1))
	idleBytes(t, s, 1, strings.Replace(laid(t, writes(1, mostDone)), "512;", "513;", 1))
	answers(t, s, 1, writes(1, mostDone), told(api.Reply{Number: mostDone, Last: 1, View: all[1:], Commit: did(1, all[1:]).Tag}))
}

// P13.2: a commit that is taken, and those that are refused, of which not even a tag stays.
func TestCommit(t *testing.T) {
	s := made(t, 2)
	idle(t, s, 0, did(0, "\x00"))
	answers(t, s, 0, writes(0, 1), told(api.Reply{Number: 1, Last: -1}))
	idle(t, s, 0, did(0, "\x00\x01"))
	idle(t, s, 0, did(0, "\x00\x00"))
	idle(t, s, 0, did(0, "\x01"))
	idle(t, s, 1, did(1, "\x00"))
	idle(t, s, 1, did(1, "\x01"))
	was := lookAt(s)
	quiet(t, s, 0, did(0, "\x00"))
	changed(t, s, was, func(l *look) { l.parts[0].view = "\x00" })
	again := did(0, "\x00")
	again.Tag = tagOf("another one")
	idle(t, s, 0, again)
	idle(t, s, 0, did(0, "\x01\x00"))
	answers(t, s, 1, asks(1, 1, api.Read, 0), told(api.Reply{
		Number: 1, Last: 0, View: "\x00", Commit: did(0, "\x00").Tag,
		ValueNumber: 1, Value: writes(0, 1).Submit.Value, Data: writes(0, 1).Submit.Data, Seen: "\x00", SeenTag: did(0, "\x00").Tag,
	}))
}

// P13.2, P13.5: blobs that are put once, twice, again with other bytes, or with another tag.
func TestPut(t *testing.T) {
	s := made(t, 2)
	b := blob(1, 5, "five")
	quiet(t, s, 1, lays(b))
	has(t, s, 1, b)
	idle(t, s, 1, lays(b))
	for _, cipher := range []string{"", "fiv", "Five", "five\x00"} {
		idle(t, s, 1, lays(blob(1, 5, cipher)))
	}
	other := b
	other.Tag = tagOf("another one")
	idle(t, s, 1, lays(other))
	has(t, s, 1, b)
	has(t, s, 0)
	own := blob(0, 5, "its own")
	quiet(t, s, 0, lays(own))
	has(t, s, 0, own)
	has(t, s, 1, b)
	for _, end := range []api.Blob{blob(0, 0, ""), blob(0, mostNumber, strings.Repeat("\xff", maxCipher))} {
		quiet(t, s, 0, lays(end))
		answers(t, s, 1, wants(0, end.Number), comes(end))
	}
}

// P13.2: what an owner has no room for is not there, and another one's room has nothing to do with that.
func TestNoRoom(t *testing.T) {
	s := made(t, 3)
	for n := range maxBlobs {
		quiet(t, s, 0, lays(blob(0, n, "")))
	}
	for n := range maxBytes / maxCipher {
		quiet(t, s, 2, lays(blob(2, n, strings.Repeat("b", maxCipher))))
	}
	idle(t, s, 0, lays(blob(0, maxBlobs, "")))
	idle(t, s, 2, lays(blob(2, maxBlobs, "b")))
	answers(t, s, 0, wants(0, maxBlobs), lacks(0, maxBlobs))
	quiet(t, s, 1, lays(blob(1, maxBlobs, "b")))
	quiet(t, s, 2, lays(blob(2, maxBlobs, "")))
	quiet(t, s, 0, drops(0, 7))
	quiet(t, s, 2, drops(2, 7))
	quiet(t, s, 0, lays(blob(0, maxBlobs, "")))
	quiet(t, s, 2, lays(blob(2, 300, "b")))
	answers(t, s, 1, wants(0, 7, maxBlobs), comes(blob(0, maxBlobs, "")), lacks(0, 7))
	answers(t, s, 1, wants(2, 7, maxBlobs, 300), comes(blob(2, maxBlobs, "")), comes(blob(2, 300, "b")), lacks(2, 7))
}

// P13.3: blobs that there are all, some and none of, in the order of their numbers, from one to as many as may be asked for.
func TestGet(t *testing.T) {
	s := made(t, 3)
	var all, odd, even []int
	var odds, every []api.Msg
	for n := range mostAsked {
		all = append(all, n)
		b := blob(1, n, "blob "+strconv.Itoa(n))
		every = append(every, comes(b))
		if n%2 == 0 {
			even = append(even, n)
			continue
		}
		odd = append(odd, n)
		odds = append(odds, comes(b))
	}
	// Put from the greatest on: the order is that of the question.
	for i := len(odds) - 1; i >= 0; i-- {
		quiet(t, s, 1, lays(odds[i].Blob))
	}
	for asker := range 3 {
		answers(t, s, asker, wants(1, odd...), odds...)
		answers(t, s, asker, wants(1, even...), lacks(1, even...))
		answers(t, s, asker, wants(1, all...), append(slices.Clone(odds), lacks(1, even...))...)
		answers(t, s, asker, wants(1, 3), odds[1])
		answers(t, s, asker, wants(1, 4), lacks(1, 4))
		answers(t, s, asker, wants(1, 3, 4), odds[1], lacks(1, 4))
		answers(t, s, asker, wants(1, 4, 5), odds[2], lacks(1, 4))
		answers(t, s, asker, wants(1, 2, 3, mostNumber), odds[1], lacks(1, 2, mostNumber))
		answers(t, s, asker, wants(1, 0, 1, 2), odds[0], lacks(1, 0, 2))
	}
	for _, m := range every {
		quiet(t, s, 1, lays(m.Blob))
	}
	answers(t, s, 0, wants(1, all...), every...)
	if _, e := msg.Put(wants(1, append(all, mostAsked)...)); e == api.OK {
		t.Fatal("too many may be asked for")
	}
}

// P13.3: an MGet's Client is who owns the blobs, whoever asks; of one that is no client of the server's there are none.
func TestGetOfAnybody(t *testing.T) {
	const clients = 3
	s := made(t, clients)
	for c := range clients {
		quiet(t, s, c, lays(blob(c, 1, "of "+strconv.Itoa(c))))
		quiet(t, s, c, lays(blob(c, 10+c, "alone")))
	}
	for asker := range clients {
		for owner := range mostClients {
			was := lookAt(s)
			if owner < clients {
				answers(t, s, asker, wants(owner, 1, 10, 11, 12), comes(blob(owner, 1, "of "+strconv.Itoa(owner))), comes(blob(owner, 10+owner, "alone")),
					lacks(owner, slices.DeleteFunc([]int{10, 11, 12}, func(n int) bool { return n == 10+owner })...))
			} else {
				answers(t, s, asker, wants(owner, 1, 10, 11, 12), lacks(owner, 1, 10, 11, 12))
			}
			changed(t, s, was, func(*look) {})
		}
	}
}

// P13.2, P13.3: blobs that are pruned are asked for behind it, and may be put once more.
func TestPrune(t *testing.T) {
	s := made(t, 2)
	for c := range 2 {
		for n := range 5 {
			quiet(t, s, c, lays(blob(c, n, "blob")))
		}
	}
	was := lookAt(s)
	quiet(t, s, 0, drops(0, 1, 3, 9))
	changed(t, s, was, func(l *look) {
		l.parts[0].blobs = shown(blob(0, 0, "blob")) + shown(blob(0, 2, "blob")) + shown(blob(0, 4, "blob"))
	})
	for asker := range 2 {
		answers(t, s, asker, wants(0, 0, 1, 2, 3, 4, 9), comes(blob(0, 0, "blob")), comes(blob(0, 2, "blob")), comes(blob(0, 4, "blob")), lacks(0, 1, 3, 9))
		answers(t, s, asker, wants(1, 1, 3), comes(blob(1, 1, "blob")), comes(blob(1, 3, "blob")))
	}
	idle(t, s, 0, drops(0, 1, 3, 9))
	idle(t, s, 0, drops(0, mostNumber))
	idle(t, s, 0, drops(1, 0))
	quiet(t, s, 0, lays(blob(0, 1, "other bytes")))
	answers(t, s, 1, wants(0, 1), comes(blob(0, 1, "other bytes")))
	var all []int
	for n := range mostAsked {
		all = append(all, n)
	}
	quiet(t, s, 0, drops(0, all...))
	has(t, s, 0)
	answers(t, s, 1, wants(0, all...), lacks(0, all...))
	if len(s.Blobs().Numbers(1)) != 5 {
		t.Fatal(s.Blobs().Numbers(1))
	}
}

// P13.4: Regs and Blobs are what the server has: what is done with them is seen by whoever asks the server.
func TestLooks(t *testing.T) {
	s := made(t, 2)
	r, o := s.Regs(), s.Blobs()
	if r == nil || o == nil {
		t.Fatal("none")
	}
	for range 3 {
		if s.Regs() != r || s.Blobs() != o {
			t.Fatal("others")
		}
	}
	if e := o.Put(blob(1, 5, "five")); e != api.OK {
		t.Fatal(int(e))
	}
	answers(t, s, 0, wants(1, 5), comes(blob(1, 5, "five")))
	if _, e := r.Submit(1, writes(1, 1).Submit); e != api.OK {
		t.Fatal(int(e))
	}
	answers(t, s, 0, writes(0, 1), told(api.Reply{Number: 1, Last: -1, Pending: []api.Pending{pendingOf(writes(1, 1), api.Digest{})}}))
	quiet(t, s, 1, did(1, "\x01"))
	if r.View(1) != "\x01" || r.Order() != "\x01\x00" || r.Number(0) != 1 {
		t.Fatalf("%q, %q, %d", r.View(1), r.Order(), r.Number(0))
	}
	quiet(t, s, 1, drops(1, 5))
	if n, size := o.Used(1); n != 0 || size != 0 {
		t.Fatalf("%d, %d", n, size)
	}
}

// P13.2, P13.4: a nil server, and such as no call made.
func TestNilAndUnmade(t *testing.T) {
	for what, s := range map[string]*server.Server{"nil": nil, "unmade": {}, "new": new(server.Server)} {
		for range 2 {
			for _, c := range append([]int{0, 1, 2, 7}, nobodies(mostClients)...) {
				for says := range mostClients {
					for _, m := range ofEachKind(says) {
						if l := s.On(c, laid(t, m)); len(l) != 0 {
							t.Fatalf("%s: kind %d from %d: %q", what, m.Kind, c, l)
						}
					}
					if l := s.On(c, laid(t, writes(says, 1))); len(l) != 0 {
						t.Fatalf("%s: %q", what, l)
					}
				}
				for _, b := range []string{"", "what", "1;"} {
					if l := s.On(c, b); len(l) != 0 {
						t.Fatalf("%s: %q: %q", what, b, l)
					}
				}
			}
			if s.Regs() != nil || s.Blobs() != nil {
				t.Fatalf("%s: %v, %v", what, s.Regs(), s.Blobs())
			}
		}
	}
}

// P13.5: every message once more: what is answered, and that nothing more has changed.
func TestAgain(t *testing.T) {
	s := busy(t, 2)
	for _, m := range []api.Msg{
		writes(1, 1), wants(1, 1, 2, 3), lays(blob(1, 3, "three")), lays(blob(1, 3, "other")), did(1, "\x00\x01"), did(1, "\x01"),
		wants(1, 1, 2, 3), wants(0, 1, 5), asks(1, 2, api.Read, 0), asks(1, 2, api.Read, 1), drops(1, 1, 3), wants(1, 1, 2, 3), drops(1, 8),
		writes(1, 4), writes(1, 3), did(1, "\x00\x01\x01\x01"), {Kind: api.MProbe, Client: 1}, {Kind: api.MAlarm, Client: 1}, lays(blob(0, 9, "")), writes(0, 2),
	} {
		b := laid(t, m)
		first := s.On(1, b)
		was := lookAt(s)
		for range 3 {
			if again := s.On(1, b); !slices.Equal(again, first) {
				t.Fatalf("%q: %q, and not %q", b, again, first)
			}
			changed(t, s, was, func(*look) {})
		}
	}
	if o := s.Regs().Order(); o != "\x00\x01\x01\x01" || s.Regs().View(1) != o {
		t.Fatalf("%q, %q", o, s.Regs().View(1))
	}
}

// P13.5: a submit is answered the same, whatever others did since, and a get, whoever asked since.
func TestAgainLater(t *testing.T) {
	s := made(t, 3)
	m := asks(0, 1, api.Read, 1)
	y := told(api.Reply{Number: 1, Last: -1})
	answers(t, s, 0, m, y)
	quiet(t, s, 1, lays(blob(1, 1, "one")))
	for _, since := range []api.Msg{writes(1, 1), did(1, "\x00\x01"), writes(2, 1), writes(1, 2), did(0, "\x00"), wants(1, 1), drops(0, 1), lays(blob(2, 1, "")), did(2, "\x00\x01\x02")} {
		from := since.Client
		if since.Kind == api.MPut {
			from = since.Blob.Owner
		}
		s.On(from, laid(t, since))
		was := lookAt(s)
		answers(t, s, 0, m, y)
		answers(t, s, 0, wants(1, 1, 2), comes(blob(1, 1, "one")), lacks(1, 2))
		changed(t, s, was, func(*look) {})
	}
	if o := s.Regs().Order(); o != "\x00\x01\x02\x01" {
		t.Fatalf("%q", o)
	}
}

// P13.1, P13.6: two servers beside each other have nothing to do with one another.
func TestTwoServers(t *testing.T) {
	a, b := made(t, 2), made(t, 3)
	if a.Regs() == b.Regs() || a.Blobs() == b.Blobs() {
		t.Fatal("one for both")
	}
	answers(t, a, 0, writes(0, 1), told(api.Reply{Number: 1, Last: -1}))
	quiet(t, a, 0, did(0, "\x00"))
	quiet(t, a, 0, lays(blob(0, 1, "one")))
	if lookAt(b) != (look{}) {
		t.Fatalf("%+v", lookAt(b))
	}
	answers(t, b, 0, asks(0, 1, api.Read, 2), told(api.Reply{Number: 1, Last: -1}))
	answers(t, b, 2, wants(0, 1), lacks(0, 1))
	quiet(t, b, 0, lays(blob(0, 1, "another one")))
	quiet(t, b, 2, lays(blob(2, 1, "its own")))
	quiet(t, a, 0, drops(0, 1))
	has(t, a, 0)
	has(t, b, 0, blob(0, 1, "another one"))
	has(t, b, 2, blob(2, 1, "its own"))
	idle(t, a, 2, lays(blob(2, 1, "its own")))
	if a.Regs().Order() != "\x00" || b.Regs().Order() != "\x00" || a.Regs().View(0) != "\x00" || b.Regs().View(0) != "" {
		t.Fatalf("%+v, %+v", lookAt(a), lookAt(b))
	}
}

// book is what a server should be: registers and blobs of its own, to which it is done what the document says.
type book struct {
	clients int
	regs    *regs.Regs
	blobs   *blobs.Store
	last    [mostClients]api.Msg
	view    [mostClients]string
	seen    map[string]int
}

func newBook(clients int, seen map[string]int) *book {
	r, _ := regs.New(clients)
	return &book{clients: clients, regs: r, blobs: blobs.New(), seen: seen}
}

// on does what P13.2 and P13.3 say.
func (k *book) on(client int, b string) []api.Msg {
	m, e := msg.Get(b)
	if client < 0 || client >= k.clients {
		k.seen["nobody"]++
		return nil
	}
	if e != api.OK {
		k.seen["no message "+e.Error()]++
		return nil
	}
	says := m.Client
	if m.Kind == api.MPut {
		says = m.Blob.Owner
	}
	if says != client && m.Kind != api.MGet {
		k.seen["another client "+strconv.Itoa(m.Kind)]++
		return nil
	}
	return k.does(client, m)
}

// does is what a message does that may come.
func (k *book) does(client int, m api.Msg) []api.Msg {
	kind := strconv.Itoa(m.Kind) + " "
	switch m.Kind {
	case 1:
		y, e := k.regs.Submit(client, m.Submit)
		k.seen[kind+e.Error()]++
		if e != api.OK {
			return nil
		}
		k.last[client], k.view[client] = m, y.View
		for _, p := range y.Pending {
			k.view[client] += by(p.Client)
		}
		k.view[client] += by(client)
		return []api.Msg{{Kind: 2, Reply: y}}
	case 3:
		k.seen[kind+k.regs.Commit(client, m.View, m.Tag).Error()]++
	case 4:
		k.seen[kind+k.blobs.Put(m.Blob).Error()]++
	case 5:
		return k.asked(m)
	case 8:
		k.seen[kind+strconv.Itoa(min(k.blobs.Prune(client, m.Numbers), 1))]++
	default:
		k.seen[kind]++
	}
	return nil
}

// asked is what P13.3 says.
func (k *book) asked(m api.Msg) []api.Msg {
	there := k.blobs.Numbers(m.Client)
	var l []api.Msg
	for _, n := range m.Numbers {
		if slices.Contains(there, n) {
			b, _ := k.blobs.Get(m.Client, n)
			l = append(l, api.Msg{Kind: 6, Blob: b})
		}
	}
	none := slices.DeleteFunc(slices.Clone(m.Numbers), func(n int) bool { return slices.Contains(there, n) })
	k.seen["5 "+strconv.FormatBool(len(l) > 0)+" "+strconv.FormatBool(len(none) > 0)]++
	if len(none) > 0 {
		l = append(l, api.Msg{Kind: 7, Client: m.Client, Numbers: none})
	}
	return l
}

// someNumbers are rising ones.
func someNumbers(rnd *rand.Rand) []int {
	l := []int{rnd.Intn(30)}
	for range rnd.Intn(6) {
		l = append(l, l[len(l)-1]+1+rnd.Intn(9))
	}
	return l
}

// anyMessage is one that a client may send, right or wrong.
func (k *book) anyMessage(rnd *rand.Rand, client int) api.Msg {
	number := k.regs.Number(client)
	switch rnd.Intn(20) {
	case 0, 1, 2, 3:
		m := asks(client, number+1, 1+rnd.Intn(2), rnd.Intn(k.clients))
		m.Submit.Value += strconv.Itoa(rnd.Intn(1000))
		return m
	case 4:
		if number > 0 {
			return k.last[client]
		}
	case 5:
		return asks(client, max(1, number+rnd.Intn(4)-1), 1+rnd.Intn(2), rnd.Intn(mostClients))
	case 6, 7, 8:
		if number > 0 {
			return did(client, k.view[client])
		}
	case 9:
		return did(client, k.regs.Order()+by(client))
	case 10, 11, 12:
		size := rnd.Intn(40)
		if rnd.Intn(3) > 0 {
			size = maxCipher - rnd.Intn(3)
		}
		return lays(blob(client, rnd.Intn(60), strings.Repeat(by(rnd.Intn(256)), size)))
	case 13, 14:
		return wants(rnd.Intn(mostClients), someNumbers(rnd)...)
	case 15:
		owner := rnd.Intn(k.clients)
		if l := k.blobs.Numbers(owner); len(l) > 0 {
			return wants(owner, l[rnd.Intn(len(l)):]...)
		}
	case 16:
		return drops(client, someNumbers(rnd)...)
	case 17:
		if l := k.blobs.Numbers(client); len(l) > 0 {
			b, _ := k.blobs.Get(client, l[rnd.Intn(len(l))])
			return lays(b)
		}
	}
	l := ofEachKind(client)
	return l[rnd.Intn(len(l))]
}

// anyBytes are a message's, now and then wrong ones.
func anyBytes(rnd *rand.Rand, b string) string {
	i := rnd.Intn(len(b))
	switch rnd.Intn(40) {
	case 0:
		return b[:i]
	case 1:
		return b + by(rnd.Intn(256))
	case 2:
		return b[:i] + by(rnd.Intn(256)) + b[i+1:]
	}
	return b
}

// anySender is who sends what a client says, mostly that one itself.
func anySender(rnd *rand.Rand, clients, client int) int {
	switch rnd.Intn(30) {
	case 0:
		return rnd.Intn(clients)
	case 1:
		return rnd.Intn(12) - 2
	}
	return client
}

// onlyOwn asks that what came from a client changed nothing of another one's; what is ordered goes on, or stays.
func onlyOwn(t *testing.T, was, is look, client int) {
	t.Helper()
	for c := range mostClients {
		if c != client && was.parts[c] != is.parts[c] {
			t.Fatalf("what came from %d changed %d's %+v to %+v", client, c, was.parts[c], is.parts[c])
		}
	}
}

// P13.2 to P13.6: long stories in which anybody sends anything, beside a book; a second server gets every message more than once, and is the same.
func TestStories(t *testing.T) {
	seen := map[string]int{}
	for seed := range int64(35) {
		rnd := rand.New(rand.NewSource(seed))
		clients := 2 + int(seed)%7
		s, twice, k := made(t, clients), made(t, clients), newBook(clients, seen)
		was := lookAt(s)
		for range 500 {
			client := rnd.Intn(clients)
			b := anyBytes(rnd, laid(t, k.anyMessage(rnd, client)))
			from := anySender(rnd, clients, client)
			want := k.on(from, b)
			answersBytes(t, s, from, b, want...)
			for range 2 + rnd.Intn(2) {
				answersBytes(t, twice, from, b, want...)
			}
			is := lookInto(k.regs, k.blobs)
			if lookAt(s) != is || lookAt(twice) != is {
				t.Fatalf("story %d: from %d, %.200q:\n%+v, twice\n%+v, and not\n%+v", seed, from, b, lookAt(s), lookAt(twice), is)
			}
			onlyOwn(t, was, is, from)
			was = is
		}
	}
	often(t, seen)
}

// often asks whether all that the stories should have in them was in them.
func often(t *testing.T, seen map[string]int) {
	t.Helper()
	l := []string{"nobody", "no message " + api.ErrShort.Error(), "no message " + api.ErrForm.Error(), "5 true true", "5 true false", "5 false true", "8 0", "8 1", "2 ", "6 ", "7 ", "9 ", "10 ", "11 "}
	for kind, errors := range map[string][]api.Errno{
		"1 ": {api.OK, api.ErrArg, api.ErrExist, api.ErrRange, api.ErrFull},
		"3 ": {api.OK, api.ErrRange, api.ErrExist},
		"4 ": {api.OK, api.ErrExist, api.ErrFull},
	} {
		for _, e := range errors {
			l = append(l, kind+e.Error())
		}
	}
	for _, kind := range []int{1, 3, 4, 8} {
		l = append(l, "another client "+strconv.Itoa(kind))
	}
	for _, what := range l {
		if seen[what] < 20 {
			t.Errorf("%q: only %d times", what, seen[what])
		}
	}
}

// P13.2, P13.5: a server to which all came that came to another one, in order, goes on as that one does.
func TestOneAfterTheOther(t *testing.T) {
	for seed := range int64(7) {
		rnd := rand.New(rand.NewSource(100 + seed))
		clients := 2 + int(seed)%7
		s, k := made(t, clients), newBook(clients, map[string]int{})
		type came struct {
			from int
			b    string
		}
		var log []came
		for range 300 {
			client := rnd.Intn(clients)
			b := laid(t, k.anyMessage(rnd, client))
			k.on(client, b)
			s.On(client, b)
			log = append(log, came{client, b})
		}
		other := made(t, clients)
		for _, c := range log {
			other.On(c.from, c.b)
		}
		if lookAt(s) != lookAt(other) {
			t.Fatalf("story %d: %+v, and not %+v", seed, lookAt(other), lookAt(s))
		}
		for range 100 {
			client := rnd.Intn(clients)
			b := laid(t, k.anyMessage(rnd, client))
			want := k.on(client, b)
			answersBytes(t, s, client, b, want...)
			answersBytes(t, other, client, b, want...)
		}
	}
}
