package regs_test

import (
	"crypto/sha256"
	"math"
	"math/rand"
	"reflect"
	"slices"
	"strings"
	"testing"

	"affidavit/api"
	"affidavit/msg"
	"affidavit/regs"
)

// The document's numbers, written out: a limit that were another one in the program would be found.
const (
	most     = 512 // the greatest number of an operation, and the longest view
	waits    = 8   // as many operations may be pending
	maxValue = 256
	write    = 1
	read     = 2
)

// zero is no tag.
var zero api.Digest

// tagOf is a tag that no other texts have.
func tagOf(texts ...string) api.Digest {
	return sha256.Sum256([]byte(strings.Join(texts, "|")))
}

// by is a client's number as a byte of a view.
func by(client int) string { return string([]byte{byte(client)}) }

// viewTag is the tag of a view that a client had.
func viewTag(client int, s string) api.Digest { return tagOf("view", by(client), s) }

// submit is what a client asks, all of whose fields are something.
func submit(client, number, kind, target int) api.Submit {
	value := "value " + by(client) + strings.Repeat("n", number%50)
	own := string(rune(number)) + by(client)
	return api.Submit{Number: number, Kind: kind, Target: target, Value: value, Asked: tagOf("asked", own), Data: tagOf("data", own)}
}

// writes is a client's write.
func writes(client, number int) api.Submit { return submit(client, number, write, client) }

// pendingOf is a submit as it is pending.
func pendingOf(client int, x api.Submit, proof api.Digest) api.Pending {
	return api.Pending{Client: client, Number: x.Number, Kind: x.Kind, Target: x.Target, Asked: x.Asked, Proof: proof}
}

// made makes registers.
func made(t *testing.T, clients int) *regs.Regs {
	t.Helper()
	r, e := regs.New(clients)
	if r == nil || e != api.OK {
		t.Fatalf("New of %d: %v, %d", clients, r, int(e))
	}
	return r
}

// like tells whether two replies are the same; lists without an element are.
func like(a, b api.Reply) bool {
	if len(a.Pending)+len(b.Pending) == 0 {
		a.Pending, b.Pending = nil, nil
	}
	return reflect.DeepEqual(a, b)
}

// answers asks for a reply.
func answers(t *testing.T, r *regs.Regs, client int, x api.Submit, y api.Reply) {
	t.Helper()
	if got, e := r.Submit(client, x); e != api.OK || !like(got, y) {
		t.Fatalf("Submit of %d, number %d:\n%+v, %d, and not\n%+v", client, x.Number, got, int(e), y)
	}
}

// takes asks for a reply, whatever it is.
func takes(t *testing.T, r *regs.Regs, client int, x api.Submit) api.Reply {
	t.Helper()
	y, e := r.Submit(client, x)
	if e != api.OK {
		t.Fatalf("Submit of %d, number %d: %d", client, x.Number, int(e))
	}
	return y
}

// refuses asks for an error, and nothing beside it, and that nothing has changed.
func refuses(t *testing.T, r *regs.Regs, client int, x api.Submit, e api.Errno) {
	t.Helper()
	was := lookAt(r)
	if y, got := r.Submit(client, x); got != e || !like(y, api.Reply{}) {
		t.Fatalf("Submit of %d, number %d, target %d: %+v, %d, and not %d", client, x.Number, x.Target, y, int(got), int(e))
	}
	if is := lookAt(r); is != was {
		t.Fatalf("Submit of %d, number %d, target %d, refused, changed %+v to %+v", client, x.Number, x.Target, was, is)
	}
}

// commits asks for a commit that is taken.
func commits(t *testing.T, r *regs.Regs, client int, s string) {
	t.Helper()
	if e := r.Commit(client, s, viewTag(client, s)); e != api.OK {
		t.Fatalf("Commit of %d, %q: %d", client, s, int(e))
	}
}

// commitsNot asks for a commit that is refused, and that nothing has changed.
func commitsNot(t *testing.T, r *regs.Regs, client int, s string, e api.Errno) {
	t.Helper()
	was := lookAt(r)
	if got := r.Commit(client, s, viewTag(client, s)); got != e {
		t.Fatalf("Commit of %d, %.40q: %d, and not %d", client, s, int(got), int(e))
	}
	if is := lookAt(r); is != was {
		t.Fatalf("Commit of %d, %.40q, refused, changed %+v to %+v", client, s, was, is)
	}
}

// ordered asks for an order.
func ordered(t *testing.T, r *regs.Regs, order string) {
	t.Helper()
	if got := r.Order(); got != order {
		t.Fatalf("Order: %q, and not %q", got, order)
	}
}

// stands asks for a client's number and view.
func stands(t *testing.T, r *regs.Regs, client, number int, s string) {
	t.Helper()
	if n, v := r.Number(client), r.View(client); n != number || v != s {
		t.Fatalf("client %d: %d, %q, and not %d, %q", client, n, v, number, s)
	}
}

// look is all that can be looked at.
type look struct {
	order   string
	numbers [waits]int
	views   [waits]string
}

func lookAt(r *regs.Regs) look {
	l := look{order: r.Order()}
	for c := range waits {
		l.numbers[c], l.views[c] = r.Number(c), r.View(c)
	}
	return l
}

// nobodies are numbers of no client, of so many.
func nobodies(clients int) []int {
	return []int{-1, clients, clients + 1, math.MinInt, math.MaxInt, 1 << 32, -1 << 32, 1<<32 + 1, 256}
}

// nobodyStands asks for nothing of those that are no clients.
func nobodyStands(t *testing.T, r *regs.Regs, clients int) {
	t.Helper()
	for _, c := range nobodies(clients) {
		stands(t, r, c, 0, "")
	}
}

// goesTo has a client ask and commit alone, up to a number.
func goesTo(t *testing.T, r *regs.Regs, client, number int) {
	t.Helper()
	for n := r.Number(client) + 1; n <= number; n++ {
		y := takes(t, r, client, writes(client, n))
		commits(t, r, client, viewOf(y, client))
	}
}

// viewOf is the view that a client was answered.
func viewOf(y api.Reply, client int) string {
	s := y.View
	for _, p := range y.Pending {
		s += by(p.Client)
	}
	return s + by(client)
}

// P12.2, P12.3: the chapter's example.
func TestExample(t *testing.T) {
	r := made(t, 2)
	answers(t, r, 0, writes(0, 1), api.Reply{Number: 1, Last: -1})
	answers(t, r, 1, writes(1, 1), api.Reply{Number: 1, Last: -1, Pending: []api.Pending{pendingOf(0, writes(0, 1), zero)}})
	commits(t, r, 0, "\x00")
	answers(t, r, 0, writes(0, 2), api.Reply{Number: 2, Last: 0, View: "\x00", Commit: viewTag(0, "\x00"), Pending: []api.Pending{pendingOf(1, writes(1, 1), zero)}})
	ordered(t, r, "\x00\x01\x00")
}

// P12.1: from 2 to 8 clients, and nothing was done.
func TestNew(t *testing.T) {
	for _, n := range []int{2, 3, 4, 5, 6, 7, 8} {
		r := made(t, n)
		ordered(t, r, "")
		for c := range n {
			stands(t, r, c, 0, "")
		}
		nobodyStands(t, r, n)
		for c := range n {
			answers(t, made(t, n), c, submit(c, 1, read, n-1-c), api.Reply{Number: 1, Last: -1})
		}
	}
	for _, n := range []int{-1, 0, 1, 9, 10, math.MinInt, math.MaxInt, -2, -8, 1<<32 + 2, 1 << 32} {
		if r, e := regs.New(n); r != nil || e != api.ErrArg {
			t.Errorf("New of %d: %v, %d", n, r, int(e))
		}
	}
}

// P12.2, P12.3: each client that there is, and no other one.
func TestClients(t *testing.T) {
	for _, n := range []int{2, 3, 8} {
		r := made(t, n)
		for _, c := range nobodies(n) {
			refuses(t, r, c, submit(0, 1, write, 0), api.ErrArg)
			commitsNot(t, r, c, by(c), api.ErrArg)
		}
		order := ""
		for c := range n {
			takes(t, r, c, writes(c, 1))
			order += by(c)
			ordered(t, r, order)
			stands(t, r, c, 1, "")
		}
		for _, c := range nobodies(n) {
			refuses(t, r, c, submit(0, 2, write, 0), api.ErrArg)
			refuses(t, r, c, submit(0, 1, write, 0), api.ErrArg)
			commitsNot(t, r, c, order, api.ErrArg)
			commitsNot(t, r, c, by(c), api.ErrArg)
		}
		for c := range n {
			commits(t, r, c, order[:c+1])
			stands(t, r, c, 1, order[:c+1])
		}
		nobodyStands(t, r, n)
		ordered(t, r, order)
	}
}

// P12.2: each target that there is, of a Write too, and no other one.
func TestTargets(t *testing.T) {
	for _, n := range []int{2, 3, 8} {
		for _, kind := range []int{write, read} {
			for target := range n {
				answers(t, made(t, n), n-1, submit(n-1, 1, kind, target), api.Reply{Number: 1, Last: -1})
			}
			r := made(t, n)
			for _, target := range nobodies(n) {
				refuses(t, r, 0, submit(0, 1, kind, target), api.ErrArg)
				refuses(t, r, n-1, submit(n-1, 1, kind, target), api.ErrArg)
			}
			takes(t, r, 0, submit(0, 1, kind, 1))
			for _, target := range nobodies(n) {
				refuses(t, r, 0, submit(0, 1, kind, target), api.ErrArg)
				refuses(t, r, 0, submit(0, 2, kind, target), api.ErrArg)
			}
		}
	}
}

// P12.2: kinds and values that may be, and that may not.
func TestSubmitMayBe(t *testing.T) {
	for _, kind := range []int{0, 3, -1, math.MinInt, math.MaxInt, 1<<32 + 1} {
		refuses(t, made(t, 2), 0, submit(0, 1, kind, 0), api.ErrArg)
	}
	for _, size := range []int{0, 1, maxValue - 1, maxValue} {
		r := made(t, 2)
		x := writes(0, 1)
		x.Value = strings.Repeat("\xff", size)
		takes(t, r, 0, x)
		answers(t, r, 1, submit(1, 1, read, 0), api.Reply{Number: 1, Last: -1, Pending: []api.Pending{pendingOf(0, x, zero)}, ValueNumber: 1, Value: x.Value, Data: x.Data})
	}
	for _, size := range []int{maxValue + 1, 2 * maxValue, 16384, 16385, 1 << 20} {
		x := writes(0, 1)
		x.Value = strings.Repeat("v", size)
		refuses(t, made(t, 2), 0, x, api.ErrArg)
		x.Kind, x.Target = read, 1
		refuses(t, made(t, 2), 0, x, api.ErrArg)
	}
	answers(t, made(t, 2), 0, api.Submit{Number: 1, Kind: write}, api.Reply{Number: 1, Last: -1})
}

// P12.2: numbers that may not be are ErrArg, those that are not the next one ErrRange; a first one is 1.
func TestFirstNumber(t *testing.T) {
	r := made(t, 3)
	for _, n := range []int{0, -1, most + 1, math.MinInt, math.MaxInt, 1<<32 + 1} {
		x := writes(2, 1)
		x.Number = n
		refuses(t, r, 2, x, api.ErrArg)
	}
	refuses(t, r, 2, api.Submit{}, api.ErrArg)
	refuses(t, r, 2, api.Submit{Kind: write}, api.ErrArg)
	for _, n := range []int{2, 3, most - 1, most} {
		refuses(t, r, 2, writes(2, n), api.ErrRange)
	}
	answers(t, r, 2, writes(2, 1), api.Reply{Number: 1, Last: -1})
	for _, n := range []int{2, 3} {
		refuses(t, r, 1, writes(1, n), api.ErrRange)
	}
}

// P12.2: the numbers go up one by one, whether what was asked is done or not.
func TestNextNumber(t *testing.T) {
	for _, done := range []bool{true, false} {
		r := made(t, 2)
		for n := 1; n <= 6; n++ {
			y := takes(t, r, 1, writes(1, n))
			if y.Number != n {
				t.Fatalf("number %d: %+v", n, y)
			}
			if done {
				commits(t, r, 1, viewOf(y, 1))
			}
			for behind := 1; behind < n; behind++ {
				refuses(t, r, 1, writes(1, behind), api.ErrRange)
			}
			for _, ahead := range []int{n + 2, n + 3, most} {
				refuses(t, r, 1, writes(1, ahead), api.ErrRange)
			}
			for _, wrong := range []int{0, -n, most + 1, math.MaxInt, math.MinInt} {
				x := writes(1, 1)
				x.Number = wrong
				refuses(t, r, 1, x, api.ErrArg)
			}
			stands(t, r, 0, 0, "")
		}
	}
}

// P12.2, P12.3: number 512 is the last one.
func TestLastNumber(t *testing.T) {
	r := made(t, 2)
	goesTo(t, r, 0, most-1)
	all := strings.Repeat("\x00", most)
	answers(t, r, 0, writes(0, most), api.Reply{Number: most, Last: 0, View: all[1:], Commit: viewTag(0, all[1:])})
	refuses(t, r, 0, api.Submit{Number: most + 1, Kind: write}, api.ErrArg)
	refuses(t, r, 0, writes(0, most-1), api.ErrRange)
	commitsNot(t, r, 0, all+"\x00", api.ErrArg)
	commits(t, r, 0, all)
	ordered(t, r, all)
	stands(t, r, 0, most, all)
	refuses(t, r, 0, api.Submit{Number: most + 1, Kind: write}, api.ErrArg)
	refuses(t, r, 1, writes(1, 1), api.ErrFull)
	answers(t, r, 0, writes(0, most), api.Reply{Number: most, Last: 0, View: all[1:], Commit: viewTag(0, all[1:])})
}

// others are submits that part from one in one field alone, which may be.
func others(x api.Submit) map[string]api.Submit {
	l := map[string]api.Submit{}
	y := x
	y.Kind = write + read - x.Kind
	l["Kind"] = y
	y = x
	y.Target = 1 - x.Target
	l["Target"] = y
	for what, value := range map[string]string{"no Value": "", "a longer Value": x.Value + "\x00", "a shorter Value": x.Value[1:], "another Value": "V" + x.Value[1:]} {
		y = x
		y.Value = value
		l[what] = y
	}
	for _, i := range []int{0, 1, 16, 31} {
		y = x
		y.Asked[i] ^= 1
		l["Asked "+string(rune('a'+i))] = y
		y = x
		y.Data[i] ^= 0x80
		l["Data "+string(rune('a'+i))] = y
	}
	return l
}

// P12.2, P12.6: the number of the last Submit with the same one: the very Reply; with another one: ErrExist.
func TestAgain(t *testing.T) {
	for _, kind := range []int{write, read} {
		r := made(t, 3)
		takes(t, r, 2, writes(2, 1))
		x := submit(0, 1, kind, 1)
		y := takes(t, r, 0, x)
		asks := func() {
			t.Helper()
			was := lookAt(r)
			for what, other := range others(x) {
				if got, e := r.Submit(0, other); e != api.ErrExist || !like(got, api.Reply{}) {
					t.Fatalf("%s: %+v, %d", what, got, int(e))
				}
				answers(t, r, 0, x, y)
			}
			if lookAt(r) != was {
				t.Fatalf("asked again, %+v is %+v", was, lookAt(r))
			}
		}
		asks()
		takes(t, r, 1, writes(1, 1))
		asks()
		commits(t, r, 2, "\x02")
		asks()
		commits(t, r, 1, "\x02\x00\x01")
		asks()
		commits(t, r, 0, "\x02\x00")
		asks()
		takes(t, r, 1, writes(1, 2))
		takes(t, r, 2, writes(2, 2))
		asks()
		takes(t, r, 0, writes(0, 2))
		refuses(t, r, 0, x, api.ErrRange)
	}
}

// P12.2: one that may not be is ErrArg, though its number is the last one's, or one that is refused.
func TestAgainWhatMayNotBe(t *testing.T) {
	r := made(t, 2)
	x := writes(0, 1)
	takes(t, r, 0, x)
	for _, change := range []func(x *api.Submit){
		func(x *api.Submit) { x.Kind = 0 },
		func(x *api.Submit) { x.Kind = 3 },
		func(x *api.Submit) { x.Target = 2 },
		func(x *api.Submit) { x.Target = -1 },
		func(x *api.Submit) { x.Value = strings.Repeat("v", maxValue+1) },
	} {
		for _, number := range []int{1, 2, 3} {
			y := writes(0, number)
			change(&y)
			refuses(t, r, 0, y, api.ErrArg)
		}
	}
	answers(t, r, 0, x, api.Reply{Number: 1, Last: -1})
}

// P12.2: as many as 8 are pending, and no more; what is asked again is answered all the same.
func TestPendingFull(t *testing.T) {
	r := made(t, 8)
	var l []api.Pending
	for c := range waits {
		answers(t, r, c, writes(c, 1), api.Reply{Number: 1, Last: -1, Pending: l})
		l = append(l, pendingOf(c, writes(c, 1), zero))
	}
	for c := range waits {
		refuses(t, r, c, writes(c, 2), api.ErrFull)
		refuses(t, r, c, writes(c, 3), api.ErrRange)
		answers(t, r, c, writes(c, 1), api.Reply{Number: 1, Last: -1, Pending: l[:c]})
	}
	x := writes(4, 1)
	x.Value = "other"
	refuses(t, r, 4, x, api.ErrExist)
	commits(t, r, 0, "\x00")
	answers(t, r, 5, writes(5, 2), api.Reply{Number: 2, Last: 0, View: "\x00", Commit: viewTag(0, "\x00"), Pending: l[1:]})
	refuses(t, r, 0, writes(0, 2), api.ErrFull)
	ordered(t, r, "\x00\x01\x02\x03\x04\x05\x06\x07\x05")
}

// P12.2: 8 may be pending of fewer clients, too, and of one alone.
func TestPendingFullOfFew(t *testing.T) {
	for clients := 1; clients <= 3; clients++ {
		r := made(t, 3)
		var l []api.Pending
		for i := range waits {
			c, n := i%clients, 1+i/clients
			answers(t, r, c, writes(c, n), api.Reply{Number: n, Last: -1, Pending: l})
			l = append(l, pendingOf(c, writes(c, n), zero))
		}
		for c := range 3 {
			refuses(t, r, c, writes(c, r.Number(c)+1), api.ErrFull)
		}
		last := r.Number(0)
		s := strings.Repeat("\x00", last)
		commits(t, r, 0, s)
		takes(t, r, 0, writes(0, last+1))
	}
}

// P12.2: the longest view and what is pending have 512 together, however they are parted, or more; one less is not too many.
func TestHistoryFull(t *testing.T) {
	for pending := range 8 {
		for _, together := range []int{most - 2, most - 1, most, most + 1, most + 7} {
			long := together - pending
			if long > most || long < 1 {
				continue
			}
			r := made(t, 8)
			for c := range pending + 1 {
				takes(t, r, c, writes(c, 1))
			}
			s := strings.Repeat("\x07", long-1) + "\x00"
			commits(t, r, 0, s)
			ordered(t, r, s+"\x01\x02\x03\x04\x05\x06\x07"[:pending])
			x := writes(0, 2)
			if together >= most {
				refuses(t, r, 0, x, api.ErrFull)
				refuses(t, r, 0, writes(0, 3), api.ErrRange)
				if got := takes(t, r, 0, writes(0, 1)); got.Last != -1 || got.View != "" {
					t.Fatalf("%d together: again: %+v", together, got)
				}
				continue
			}
			if got := takes(t, r, 0, x); got.View != s || len(got.Pending) != pending || got.Last != 0 {
				t.Fatalf("%d together, %d pending: %+v", together, pending, got)
			}
		}
	}
}

// P12.2: step by step, the 512th is taken and the 513th not, and none is pending no more for that.
func TestHistoryFullByAndBy(t *testing.T) {
	r := made(t, 3)
	goesTo(t, r, 0, most-3)
	for c := range 3 {
		takes(t, r, c, writes(c, r.Number(c)+1))
	}
	for c := range 3 {
		refuses(t, r, c, writes(c, r.Number(c)+1), api.ErrFull)
	}
	order := strings.Repeat("\x00", most-2) + "\x01\x02"
	ordered(t, r, order)
	commits(t, r, 0, order[:most-2])
	commits(t, r, 2, order)
	commits(t, r, 1, order[:most-1])
	ordered(t, r, order)
	for c := range 3 {
		refuses(t, r, c, writes(c, r.Number(c)+1), api.ErrFull)
	}
}

// P12.2, R3: a Reply's Pending is whoever's who got it.
func TestPendingIsNew(t *testing.T) {
	r := made(t, 4)
	for c := range 3 {
		takes(t, r, c, writes(c, 1))
	}
	was := []api.Pending{pendingOf(0, writes(0, 1), zero), pendingOf(1, writes(1, 1), zero), pendingOf(2, writes(2, 1), zero)}
	first := takes(t, r, 3, writes(3, 1))
	again := takes(t, r, 3, writes(3, 1))
	spoil := func(l []api.Pending) {
		for i := range l {
			l[i] = api.Pending{Client: -9, Number: 77, Proof: tagOf("x")}
		}
		_ = append(l, api.Pending{Client: -8})
		_ = append(l[:1], api.Pending{Client: -7}, api.Pending{Client: -6})
	}
	spoil(first.Pending)
	answers(t, r, 3, writes(3, 1), api.Reply{Number: 1, Last: -1, Pending: was})
	if !slices.Equal(again.Pending, was) {
		t.Fatalf("the second one: %+v", again.Pending)
	}
	spoil(again.Pending)
	answers(t, r, 3, writes(3, 1), api.Reply{Number: 1, Last: -1, Pending: was})
	ordered(t, r, "\x00\x01\x02\x03")
	kept := takes(t, r, 3, writes(3, 1))
	commits(t, r, 1, "\x00\x01")
	commits(t, r, 0, "\x00")
	commits(t, r, 2, "\x00\x01\x02")
	takes(t, r, 0, writes(0, 2))
	if !slices.Equal(kept.Pending, was) {
		t.Fatalf("changed by what was done later: %+v", kept.Pending)
	}
	answers(t, r, 3, writes(3, 1), api.Reply{Number: 1, Last: -1, Pending: was})
}

// P12.2: a Read of a target that has asked nothing, asked, committed, asked again; a Write has nothing of all that.
func TestReadTarget(t *testing.T) {
	r := made(t, 8)
	reader := 1
	next := func(y api.Reply) {
		t.Helper()
		if reader == 7 {
			t.Fatal("no reader is left")
		}
		reader++
		before := takes(t, r, reader, submit(reader, 1, read, 0))
		y.Number, y.Last, y.View, y.Commit, y.Pending = 1, before.Last, before.View, before.Commit, before.Pending
		if !like(before, y) {
			t.Fatalf("%+v, and not %+v", before, y)
		}
		commits(t, r, reader, viewOf(before, reader))
	}
	next(api.Reply{})
	x := writes(0, 1)
	s := viewOf(takes(t, r, 0, x), 0)
	next(api.Reply{ValueNumber: 1, Value: x.Value, Data: x.Data})
	commits(t, r, 0, s)
	next(api.Reply{ValueNumber: 1, Value: x.Value, Data: x.Data, Seen: s, SeenTag: viewTag(0, s)})
	x = submit(0, 2, read, 1)
	x.Value = "held at a read"
	later := viewOf(takes(t, r, 0, x), 0)
	next(api.Reply{ValueNumber: 2, Value: x.Value, Data: x.Data, Seen: s, SeenTag: viewTag(0, s)})
	commits(t, r, 0, later)
	next(api.Reply{ValueNumber: 2, Value: x.Value, Data: x.Data, Seen: later, SeenTag: viewTag(0, later)})
	y := takes(t, r, 1, submit(1, 1, write, 0))
	if y.ValueNumber != 0 || y.Value != "" || y.Data != zero || y.Seen != "" || y.SeenTag != zero {
		t.Fatalf("of a Write: %+v", y)
	}
}

// P12.2: a client that reads its own register reads what it asked before.
func TestReadOneself(t *testing.T) {
	r := made(t, 2)
	answers(t, r, 1, submit(1, 1, read, 1), api.Reply{Number: 1, Last: -1})
	x := submit(1, 1, read, 1)
	answers(t, r, 1, submit(1, 2, read, 1), api.Reply{Number: 2, Last: -1, Pending: []api.Pending{pendingOf(1, x, zero)}, ValueNumber: 1, Value: x.Value, Data: x.Data})
	commits(t, r, 1, "\x01\x01")
	x = submit(1, 2, read, 1)
	answers(t, r, 1, submit(1, 3, read, 1), api.Reply{Number: 3, Last: 1, View: "\x01\x01", Commit: viewTag(1, "\x01\x01"), ValueNumber: 2, Value: x.Value, Data: x.Data, Seen: "\x01\x01", SeenTag: viewTag(1, "\x01\x01")})
}

// P12.2: an empty Value is one, too: the number and the tag tell it from none.
func TestReadEmptyValue(t *testing.T) {
	r := made(t, 2)
	x := api.Submit{Number: 1, Kind: write, Data: tagOf("empty")}
	takes(t, r, 0, x)
	answers(t, r, 1, submit(1, 1, read, 0), api.Reply{Number: 1, Last: -1, Pending: []api.Pending{pendingOf(0, x, zero)}, ValueNumber: 1, Data: x.Data})
}

// P12.2: a Proof is the tag of the view that the client has when somebody asks, 0 if it has none.
func TestProofs(t *testing.T) {
	r := made(t, 5)
	takes(t, r, 0, writes(0, 1))
	commits(t, r, 0, "\x00")
	takes(t, r, 0, writes(0, 2))
	takes(t, r, 1, writes(1, 1))
	takes(t, r, 1, writes(1, 2))
	long := api.Reply{Number: 1, Last: 0, View: "\x00", Commit: viewTag(0, "\x00")}
	l := func(one api.Digest, more ...api.Pending) []api.Pending {
		return append([]api.Pending{pendingOf(0, writes(0, 2), viewTag(0, "\x00")), pendingOf(1, writes(1, 1), one), pendingOf(1, writes(1, 2), one)}, more...)
	}
	long.Pending = l(zero)
	answers(t, r, 2, submit(2, 1, write, 4), long)
	commitsNot(t, r, 1, "\x01", api.ErrRange)
	// A view that is as short as the longest one takes nothing away, and is the client's last one all the same.
	commits(t, r, 2, "\x02")
	long.Pending = l(zero, pendingOf(2, submit(2, 1, write, 4), viewTag(2, "\x02")))
	answers(t, r, 3, submit(3, 1, write, 0), long)
	answers(t, r, 2, submit(2, 1, write, 4), api.Reply{Number: 1, Last: 0, View: "\x00", Commit: viewTag(0, "\x00"), Pending: l(zero)})
	commits(t, r, 1, "\x00\x00\x01\x01")
	answers(t, r, 4, submit(4, 1, write, 0), api.Reply{Number: 1, Last: 1, View: "\x00\x00\x01\x01", Commit: viewTag(1, "\x00\x00\x01\x01"), Pending: []api.Pending{
		pendingOf(2, submit(2, 1, write, 4), viewTag(2, "\x02")), pendingOf(3, submit(3, 1, write, 0), zero),
	}})
}

// P12.2: what is pending tells the kind, the target and the tag that were asked.
func TestPendingTells(t *testing.T) {
	r := made(t, 8)
	var l []api.Pending
	for c := range 7 {
		x := submit(c, 1, 1+c%2, 7-c)
		takes(t, r, c, x)
		l = append(l, pendingOf(c, x, zero))
	}
	answers(t, r, 7, writes(7, 1), api.Reply{Number: 1, Last: -1, Pending: l})
}

// P12.3: views that may not be.
func TestCommitMayBe(t *testing.T) {
	r := made(t, 3)
	commitsNot(t, r, 0, "", api.ErrArg)
	takes(t, r, 0, writes(0, 1))
	for _, s := range []string{"", "\x08\x00", "\x00\x08", "\xff\x00", "é\x00", strings.Repeat("\x01", most) + "\x00", strings.Repeat("\x00", most+1), strings.Repeat("\x01", 1<<16)} {
		commitsNot(t, r, 0, s, api.ErrArg)
	}
	ordered(t, r, "\x00")
	stands(t, r, 0, 1, "")
	commits(t, r, 0, strings.Repeat("\x01", most-1)+"\x00")
}

// P12.3: msg.Put asks for clients below 8, however many the registers have.
func TestCommitOfOthersThanThereAre(t *testing.T) {
	r := made(t, 2)
	takes(t, r, 1, writes(1, 1))
	commits(t, r, 1, "\x07\x02\x01")
	ordered(t, r, "\x07\x02\x01")
	y := takes(t, r, 0, writes(0, 1))
	if _, e := msg.Put(api.Msg{Kind: api.MReply, Reply: y}); e != api.OK || y.View != "\x07\x02\x01" || y.Last != 1 {
		t.Fatalf("%+v, %d", y, int(e))
	}
}

// P12.3: a view ends with the client, and has as many of its operations as it asked for.
func TestCommitRange(t *testing.T) {
	r := made(t, 3)
	for _, s := range []string{"\x00", "\x01", "\x01\x00", "\x00\x00"} {
		commitsNot(t, r, 0, s, api.ErrRange)
	}
	takes(t, r, 0, writes(0, 1))
	for _, s := range []string{"\x01", "\x00\x01", "\x00\x02", "\x01\x00\x02", "\x00\x00", "\x00\x01\x00", "\x02"} {
		commitsNot(t, r, 0, s, api.ErrRange)
	}
	commitsNot(t, r, 1, "\x00\x01", api.ErrRange)
	takes(t, r, 0, writes(0, 2))
	for _, s := range []string{"\x00", "\x01\x00", "\x00\x00\x00", "\x00\x00\x01", "\x01\x01\x00", "\x00\x01\x00\x00"} {
		commitsNot(t, r, 0, s, api.ErrRange)
	}
	commits(t, r, 0, "\x00\x01\x00")
	stands(t, r, 0, 2, "\x00\x01\x00")
	takes(t, r, 0, writes(0, 3))
	commitsNot(t, r, 0, "\x00\x01\x00", api.ErrRange)
	commitsNot(t, r, 0, "\x00\x00", api.ErrRange)
}

// P12.3: what a client has committed it does not commit again, be it the same view or another one.
func TestCommitAgain(t *testing.T) {
	r := made(t, 3)
	takes(t, r, 0, writes(0, 1))
	takes(t, r, 1, writes(1, 1))
	commits(t, r, 0, "\x00")
	for _, s := range []string{"\x00", "\x01\x00", "\x01\x01\x02\x00"} {
		commitsNot(t, r, 0, s, api.ErrExist)
	}
	if e := r.Commit(0, "\x00", tagOf("another tag")); e != api.ErrExist {
		t.Fatal(int(e))
	}
	answers(t, r, 2, submit(2, 1, read, 0), api.Reply{
		Number: 1, Last: 0, View: "\x00", Commit: viewTag(0, "\x00"), Pending: []api.Pending{pendingOf(1, writes(1, 1), zero)},
		ValueNumber: 1, Value: writes(0, 1).Value, Data: writes(0, 1).Data, Seen: "\x00", SeenTag: viewTag(0, "\x00"),
	})
	commits(t, r, 1, "\x00\x01")
	commitsNot(t, r, 0, "\x00", api.ErrExist)
	commitsNot(t, r, 1, "\x00\x01", api.ErrExist)
	ordered(t, r, "\x00\x01\x02")
}

// P12.3: a view that is shorter than the longest one, as long, longer; and what is pending behind it.
func TestCommitLength(t *testing.T) {
	for _, c := range []struct {
		what, view string
		long       string
		pending    string
	}{
		{"shorter", "\x02", "\x00\x01\x00", "\x01\x02\x03"},
		{"shorter by one", "\x03\x02", "\x00\x01\x00", "\x01\x02\x03"},
		{"as long", "\x00\x01\x02", "\x00\x01\x00", "\x01\x02\x03"},
		{"longer by one", "\x00\x01\x00\x02", "\x00\x01\x00\x02", "\x03"},
		{"longer", "\x00\x01\x00\x01\x02", "\x00\x01\x00\x01\x02", "\x03"},
		{"longer, and does not fit", "\x03\x03\x03\x03\x03\x02", "\x03\x03\x03\x03\x03\x02", "\x03"},
	} {
		t.Run(c.what, func(t *testing.T) {
			r := made(t, 5)
			goesTo(t, r, 0, 1)
			goesTo(t, r, 1, 1)
			goesTo(t, r, 0, 2)
			for client, number := range []int{1: 2, 2: 1, 3: 1} {
				if number > 0 {
					takes(t, r, client, writes(client, number))
				}
			}
			ordered(t, r, "\x00\x01\x00\x01\x02\x03")
			commits(t, r, 2, c.view)
			stands(t, r, 2, 1, c.view)
			ordered(t, r, c.long+c.pending)
			y := takes(t, r, 4, submit(4, 1, read, 2))
			last := int(c.long[len(c.long)-1])
			if y.View != c.long || y.Last != last || y.Commit != viewTag(last, c.long) || viewOf(y, 4) != c.long+c.pending+"\x04" {
				t.Fatalf("%+v", y)
			}
			if y.Seen != c.view || y.SeenTag != viewTag(2, c.view) {
				t.Fatalf("%+v", y)
			}
		})
	}
}

// P12.3: what is pending ahead of the client's own operation is pending no more, what is behind it still is: each client in turn.
func TestCommitCuts(t *testing.T) {
	for own := range waits {
		r := made(t, waits)
		order := ""
		for c := range waits {
			takes(t, r, c, writes(c, 1))
			order += by(c)
		}
		commits(t, r, own, order[:own+1])
		ordered(t, r, order)
		var l []api.Pending
		for c := own + 1; c < waits; c++ {
			l = append(l, pendingOf(c, writes(c, 1), zero))
		}
		answers(t, r, own, writes(own, 2), api.Reply{Number: 2, Last: own, View: order[:own+1], Commit: viewTag(own, order[:own+1]), Pending: l})
		// Those that were ahead of it have views that are shorter, and take nothing away.
		for c := range own {
			commits(t, r, c, order[:c+1])
			ordered(t, r, order+by(own))
		}
	}
}

// P12.3: of several pending operations of a client the last one is its own that is meant.
func TestCommitCutsUpToTheLast(t *testing.T) {
	r := made(t, 4)
	takes(t, r, 0, writes(0, 1))
	takes(t, r, 1, writes(1, 1))
	takes(t, r, 0, writes(0, 2))
	takes(t, r, 2, writes(2, 1))
	takes(t, r, 1, writes(1, 2))
	commits(t, r, 0, "\x00\x01\x00")
	ordered(t, r, "\x00\x01\x00\x02\x01")
	answers(t, r, 3, writes(3, 1), api.Reply{Number: 1, Last: 0, View: "\x00\x01\x00", Commit: viewTag(0, "\x00\x01\x00"), Pending: []api.Pending{
		pendingOf(2, writes(2, 1), zero), pendingOf(1, writes(1, 2), zero),
	}})
	commits(t, r, 1, "\x00\x01\x00\x02\x01")
	ordered(t, r, "\x00\x01\x00\x02\x01\x03")
}

// P12.3: a longer view of a client whose operation is pending no more takes nothing away.
func TestCommitOfWhatIsNotPending(t *testing.T) {
	r := made(t, 4)
	takes(t, r, 0, writes(0, 1))
	takes(t, r, 1, writes(1, 1))
	takes(t, r, 2, writes(2, 1))
	commits(t, r, 1, "\x00\x01")
	takes(t, r, 1, writes(1, 2))
	commits(t, r, 0, "\x03\x03\x00")
	ordered(t, r, "\x03\x03\x00\x02\x01")
	stands(t, r, 0, 1, "\x03\x03\x00")
	if y := takes(t, r, 3, writes(3, 1)); y.Last != 0 || y.Commit != viewTag(0, "\x03\x03\x00") || len(y.Pending) != 2 {
		t.Fatalf("%+v", y)
	}
}

// P12.3: the longest view stays, though whoever committed it has a later one that is shorter.
func TestLongestStays(t *testing.T) {
	r := made(t, 2)
	takes(t, r, 0, writes(0, 1))
	commits(t, r, 0, "\x01\x01\x01\x00")
	takes(t, r, 0, writes(0, 2))
	commits(t, r, 0, "\x00\x00")
	stands(t, r, 0, 2, "\x00\x00")
	ordered(t, r, "\x01\x01\x01\x00\x00")
	answers(t, r, 1, submit(1, 1, read, 0), api.Reply{
		Number: 1, Last: 0, View: "\x01\x01\x01\x00", Commit: viewTag(0, "\x01\x01\x01\x00"), Pending: []api.Pending{pendingOf(0, writes(0, 2), viewTag(0, "\x00\x00"))},
		ValueNumber: 2, Value: writes(0, 2).Value, Data: writes(0, 2).Data, Seen: "\x00\x00", SeenTag: viewTag(0, "\x00\x00"),
	})
}

// P12.4: everybody and nobody, ahead of and behind every call.
func TestLooks(t *testing.T) {
	const clients = 3
	r := made(t, clients)
	numbers, views := [clients]int{}, [clients]string{}
	looks := func(order string) {
		t.Helper()
		for range 2 {
			ordered(t, r, order)
			for c := range clients {
				stands(t, r, c, numbers[c], views[c])
			}
			nobodyStands(t, r, clients)
		}
	}
	asks := func(c int, order string) {
		t.Helper()
		numbers[c]++
		takes(t, r, c, writes(c, numbers[c]))
		looks(order)
	}
	does := func(c int, s, order string) {
		t.Helper()
		views[c] = s
		commits(t, r, c, s)
		looks(order)
	}
	looks("")
	asks(2, "\x02")
	asks(0, "\x02\x00")
	does(0, "\x02\x00", "\x02\x00")
	does(2, "\x02", "\x02\x00")
	asks(2, "\x02\x00\x02")
	asks(1, "\x02\x00\x02\x01")
	does(2, "\x02\x00\x02", "\x02\x00\x02\x01")
	refuses(t, r, 1, writes(1, 3), api.ErrRange)
	looks("\x02\x00\x02\x01")
	commitsNot(t, r, 2, "\x02\x00\x02", api.ErrExist)
	looks("\x02\x00\x02\x01")
	asks(1, "\x02\x00\x02\x01\x01")
	does(1, "\x02\x00\x02\x01\x01", "\x02\x00\x02\x01\x01")
}

// P12.2 to P12.4: nil registers, and such as no call made.
func TestNilAndUnmade(t *testing.T) {
	for what, r := range map[string]*regs.Regs{"nil": nil, "unmade": {}, "new": new(regs.Regs)} {
		for range 2 {
			for _, c := range append([]int{0, 1, 7}, nobodies(8)...) {
				for _, x := range []api.Submit{{}, writes(0, 1), writes(0, 2), submit(0, 1, read, 0), submit(0, most+1, 9, -1)} {
					if y, e := r.Submit(c, x); e != api.ErrNil || !like(y, api.Reply{}) {
						t.Fatalf("%s: Submit: %+v, %d", what, y, int(e))
					}
				}
				for _, s := range []string{"", "\x00", by(c), strings.Repeat("\x00", most+1)} {
					if e := r.Commit(c, s, tagOf(s)); e != api.ErrNil {
						t.Fatalf("%s: Commit: %d", what, int(e))
					}
				}
				stands(t, r, c, 0, "")
			}
			ordered(t, r, "")
		}
	}
}

// P12.2, P12.3, R2: which of several errors is answered, beside those of nil registers.
func TestWhichError(t *testing.T) {
	r := made(t, 2)
	for n := 1; n <= 4; n++ {
		takes(t, r, 0, writes(0, n))
		takes(t, r, 1, writes(1, n))
	}
	for _, c := range []struct {
		what   string
		client int
		x      api.Submit
		e      api.Errno
	}{
		{"no client, the last one's number, another one, no room", 2, writes(0, 4), api.ErrArg},
		{"no target, the last one's number, another one, no room", 0, submit(0, 4, write, 2), api.ErrArg},
		{"no target, not the next number, no room", 0, submit(0, 3, write, 2), api.ErrArg},
		{"no kind, not the next number, no room", 0, submit(0, 3, 0, 0), api.ErrArg},
		{"no target, the next number, no room", 0, submit(0, 5, read, -1), api.ErrArg},
		{"no number, no room", 0, api.Submit{Kind: write}, api.ErrArg},
		{"another one, no room", 0, submit(0, 4, read, 0), api.ErrExist},
		{"a number behind, no room", 0, writes(0, 3), api.ErrRange},
		{"a number ahead, no room", 0, writes(0, 6), api.ErrRange},
		{"no room", 0, writes(0, 5), api.ErrFull},
	} {
		t.Run(c.what, func(t *testing.T) { refuses(t, r, c.client, c.x, c.e) })
	}
	commits(t, r, 0, "\x00\x01\x00\x01\x00\x01\x00")
	for _, c := range []struct {
		what   string
		client int
		view   string
		e      api.Errno
	}{
		{"no client, who does not end it", 2, "\x00", api.ErrArg},
		{"no client, who ends it", 2, "\x02", api.ErrArg},
		{"no view", 0, "", api.ErrArg},
		{"a byte of nobody, who ends it, too few", 0, "\x08", api.ErrArg},
		{"too long, does not end with it", 0, strings.Repeat("\x01", most+1), api.ErrArg},
		{"does not end with it, as many", 0, "\x00\x00\x00\x00\x01", api.ErrRange},
		{"too few", 0, "\x00", api.ErrRange},
		{"too many", 0, "\x00\x00\x00\x00\x00", api.ErrRange},
		{"as many", 0, "\x00\x00\x00\x00", api.ErrExist},
	} {
		t.Run(c.what, func(t *testing.T) { commitsNot(t, r, c.client, c.view, c.e) })
	}
}

// P12.2, P12.3: two registers beside each other have nothing to do with one another.
func TestApart(t *testing.T) {
	a, b := made(t, 2), made(t, 3)
	takes(t, a, 0, writes(0, 1))
	was := lookAt(b)
	answers(t, b, 1, submit(1, 1, read, 0), api.Reply{Number: 1, Last: -1})
	commits(t, a, 0, "\x00")
	if lookAt(b) == was {
		t.Fatal("nothing has changed")
	}
	ordered(t, a, "\x00")
	ordered(t, b, "\x01")
	commitsNot(t, b, 0, "\x00", api.ErrRange)
	x := writes(0, 1)
	x.Value = "another one"
	refuses(t, a, 0, x, api.ErrExist)
	answers(t, b, 0, x, api.Reply{Number: 1, Last: -1, Pending: []api.Pending{pendingOf(1, submit(1, 1, read, 0), zero)}})
	stands(t, a, 0, 1, "\x00")
	stands(t, b, 0, 1, "")
	answers(t, a, 1, submit(1, 1, read, 0), api.Reply{
		Number: 1, Last: 0, View: "\x00", Commit: viewTag(0, "\x00"),
		ValueNumber: 1, Value: writes(0, 1).Value, Data: writes(0, 1).Data, Seen: "\x00", SeenTag: viewTag(0, "\x00"),
	})
}

// ask is a submit that was taken.
type ask struct {
	client int
	x      api.Submit
	y      api.Reply
}

// commit is a commit that was taken.
type commit struct {
	client int
	view   string
	tag    api.Digest
}

// book is what registers should be, kept as all that was ever taken: what is pending is what was asked from a place on.
type book struct {
	clients int
	asks    []ask
	done    []commit
	long    commit
	cut     int
}

// last is a client's last submit, and its place; -1 if there is none.
func (b *book) last(client int) (ask, int) {
	for i := len(b.asks) - 1; i >= 0; i-- {
		if b.asks[i].client == client {
			return b.asks[i], i
		}
	}
	return ask{}, -1
}

// did is a client's last commit.
func (b *book) did(client int) commit {
	for i := len(b.done) - 1; i >= 0; i-- {
		if b.done[i].client == client {
			return b.done[i]
		}
	}
	return commit{}
}

func (b *book) is(client int) bool { return 0 <= client && client < b.clients }

// submit does what P12.2 says.
func (b *book) submit(client int, x api.Submit) (api.Reply, api.Errno) {
	if _, e := msg.Put(api.Msg{Kind: 1, Client: client, Submit: x}); e != api.OK || !b.is(client) || !b.is(x.Target) {
		return api.Reply{}, api.ErrArg
	}
	old, place := b.last(client)
	if place >= 0 && old.x.Number == x.Number {
		if reflect.DeepEqual(old.x, x) {
			return old.y, api.OK
		}
		return api.Reply{}, api.ErrExist
	}
	if old.x.Number != x.Number-1 {
		return api.Reply{}, api.ErrRange
	}
	waiting := b.asks[b.cut:]
	if len(waiting) > 7 || len(b.long.view)+len(waiting) > 511 {
		return api.Reply{}, api.ErrFull
	}
	y := api.Reply{Number: x.Number, Last: -1}
	if b.long.view != "" {
		y.Last, y.View, y.Commit = b.long.client, b.long.view, b.long.tag
	}
	for _, a := range waiting {
		y.Pending = append(y.Pending, pendingOf(a.client, a.x, b.did(a.client).tag))
	}
	if x.Kind == read {
		target, _ := b.last(x.Target)
		y.ValueNumber, y.Value, y.Data = target.x.Number, target.x.Value, target.x.Data
		y.Seen, y.SeenTag = b.did(x.Target).view, b.did(x.Target).tag
	}
	b.asks = append(b.asks, ask{client, x, y})
	return y, api.OK
}

// commit does what P12.3 says.
func (b *book) commit(client int, s string, tag api.Digest) api.Errno {
	if _, e := msg.Put(api.Msg{Kind: 3, Client: client, View: s, Tag: tag}); e != api.OK || !b.is(client) {
		return api.ErrArg
	}
	own, place := b.last(client)
	if !strings.HasSuffix(s, by(client)) || strings.Count(s, by(client)) != own.x.Number {
		return api.ErrRange
	}
	if strings.Count(b.did(client).view, by(client)) == own.x.Number {
		return api.ErrExist
	}
	c := commit{client, s, tag}
	b.done = append(b.done, c)
	if len(s) > len(b.long.view) {
		b.long, b.cut = c, max(b.cut, place+1)
	}
	return api.OK
}

// order does what P12.4 says.
func (b *book) order() string {
	s := b.long.view
	for _, a := range b.asks[b.cut:] {
		s += by(a.client)
	}
	return s
}

// sameAsBook asks registers for all that can be looked at.
func sameAsBook(t *testing.T, r *regs.Regs, b *book) {
	t.Helper()
	ordered(t, r, b.order())
	for c := range b.clients {
		own, _ := b.last(c)
		stands(t, r, c, own.x.Number, b.did(c).view)
	}
	nobodyStands(t, r, b.clients)
}

// anySubmit is one that may be refused for any reason.
func anySubmit(rnd *rand.Rand, b *book, client int) api.Submit {
	own, _ := b.last(client)
	x := writes(client&7, 1)
	x.Number = own.x.Number + 1
	x.Kind = 1 + rnd.Intn(2)
	x.Target = rnd.Intn(b.clients)
	x.Value += string(rune('a' + rnd.Intn(20)))
	x.Asked[3], x.Data[3] = byte(rnd.Intn(256)), byte(rnd.Intn(256))
	switch rnd.Intn(12) {
	case 0, 1:
		return own.x
	case 2:
		x.Number--
	case 3:
		x.Number += rnd.Intn(5) - 2
	case 4:
		x.Target = rnd.Intn(12) - 2
	case 5:
		x.Kind = rnd.Intn(5) - 1
	case 6:
		x.Value = strings.Repeat("v", maxValue-1+rnd.Intn(3))
	}
	return x
}

// anyView is one that may be refused for any reason.
func anyView(rnd *rand.Rand, b *book, client int) string {
	own, _ := b.last(client)
	switch rnd.Intn(8) {
	case 0:
		return b.did(client).view
	case 1:
		return b.order()
	case 2:
		return b.long.view + by(client)
	case 3:
		return by(rnd.Intn(9))
	case 4, 5:
		// As many of the client's own as there must be, and others strewn in.
		s := ""
		for range own.x.Number {
			s += strings.Repeat(by((client+1)&7), rnd.Intn(3)) + by(client)
		}
		return s
	}
	return viewOf(own.y, client)
}

// P12.2 to P12.4, P12.6: long stories in which clients do whatever comes to their minds, beside a book that is kept in another way.
func TestStories(t *testing.T) {
	seen := map[string]int{}
	for seed := range int64(60) {
		rnd := rand.New(rand.NewSource(seed))
		clients := 2 + int(seed)%7
		r, b := made(t, clients), &book{clients: clients}
		for range 600 {
			client := rnd.Intn(clients)
			if rnd.Intn(40) == 0 {
				client = rnd.Intn(12) - 2
			}
			if rnd.Intn(2) == 0 {
				x := anySubmit(rnd, b, client)
				y, e := b.submit(client, x)
				if got, gotErr := r.Submit(client, x); gotErr != e || !like(got, y) {
					t.Fatalf("story %d: Submit of %d, %+v:\n%+v, %d, and not\n%+v, %d", seed, client, x, got, int(gotErr), y, int(e))
				}
				if _, wrong := msg.Put(api.Msg{Kind: api.MReply, Reply: y}); e == api.OK && wrong != api.OK {
					t.Fatalf("story %d: a Reply that may not be: %+v", seed, y)
				}
				seen["Submit "+e.Error()]++
			} else {
				s := anyView(rnd, b, client)
				tag := tagOf(s, string(rune(rnd.Intn(100))))
				e := b.commit(client, s, tag)
				if got := r.Commit(client, s, tag); got != e {
					t.Fatalf("story %d: Commit of %d, %q: %d, and not %d", seed, client, s, int(got), int(e))
				}
				seen["Commit "+e.Error()]++
			}
			sameAsBook(t, r, b)
		}
	}
	for what, l := range map[string][]api.Errno{"Submit ": {api.OK, api.ErrArg, api.ErrExist, api.ErrRange, api.ErrFull}, "Commit ": {api.OK, api.ErrArg, api.ErrRange, api.ErrExist}} {
		for _, e := range l {
			if seen[what+e.Error()] < 50 {
				t.Errorf("%s%d: only %d times", what, int(e), seen[what+e.Error()])
			}
		}
	}
}

// honest is a client that commits what it was answered, ahead of its next Submit.
type honest struct {
	x    api.Submit
	y    api.Reply
	view string
	done bool
}

// story is honest clients, their registers, and all views that were committed.
type story struct {
	r       *regs.Regs
	clients []honest
	views   []string
	order   string
}

// step has a client ask, or commit what it asked; it tells whether there was room.
func (s *story) step(t *testing.T, rnd *rand.Rand, client int) bool {
	t.Helper()
	c := &s.clients[client]
	if c.x.Number > 0 && !c.done {
		s.commit(t, client)
		return true
	}
	x := submit(client, c.x.Number+1, 1+rnd.Intn(2), rnd.Intn(len(s.clients)))
	y, e := s.r.Submit(client, x)
	if e == api.ErrFull && len(s.order) == most {
		return false
	}
	if e != api.OK || viewOf(y, client) != s.order+by(client) {
		t.Fatalf("Submit of %d: %+v, %d, behind %q", client, y, int(e), s.order)
	}
	s.order += by(client)
	*c = honest{x: x, y: y, view: viewOf(y, client)}
	s.proven(t, y)
	return true
}

// commit has a client commit the view that it was answered.
func (s *story) commit(t *testing.T, client int) {
	t.Helper()
	c := &s.clients[client]
	commits(t, s.r, client, c.view)
	c.done = true
	s.views = append(s.views, c.view)
}

// proven asks whether what is pending is the next one of its client, and its Proof the tag of the view that this one had last.
func (s *story) proven(t *testing.T, y api.Reply) {
	t.Helper()
	d, seen := y.View, map[int]int{}
	for _, p := range y.Pending {
		upto := d[:strings.LastIndex(d, by(p.Client))+1]
		proof := viewTag(p.Client, upto)
		if upto == "" {
			proof = zero
		}
		if p.Number != strings.Count(d, by(p.Client))+1 || p.Proof != proof {
			t.Fatalf("pending behind %q: %+v", d, p)
		}
		d += by(p.Client)
		if seen[p.Client]++; seen[p.Client] > 1 {
			t.Fatalf("%d is pending twice", p.Client)
		}
	}
}

// again asks a client's last things once more.
func (s *story) again(t *testing.T, client int) {
	t.Helper()
	c := &s.clients[client]
	if c.x.Number == 0 {
		return
	}
	was := lookAt(s.r)
	answers(t, s.r, client, c.x, c.y)
	if c.done {
		commitsNot(t, s.r, client, c.view, api.ErrExist)
	}
	if lookAt(s.r) != was {
		t.Fatalf("asked again, %+v is %+v", was, lookAt(s.r))
	}
}

// oneOrder asks whether every view is a beginning of the order.
func (s *story) oneOrder(t *testing.T) {
	t.Helper()
	ordered(t, s.r, s.order)
	for _, v := range s.views {
		if !strings.HasPrefix(s.order, v) {
			t.Fatalf("%q is no beginning of %q", v, s.order)
		}
	}
	for c := range s.clients {
		v := ""
		if n := s.clients[c].x.Number; n > 0 {
			v = s.order[:strings.LastIndex(s.order, by(c))+1]
			if !s.clients[c].done {
				v = v[:strings.LastIndex(v[:len(v)-1], by(c))+1]
			}
		}
		stands(t, s.r, c, s.clients[c].x.Number, v)
	}
}

// P12.5, P12.6: clients that commit what they were answered, quick and slow ones, with what is asked again strewn in, until there is no room.
func TestOneOrder(t *testing.T) {
	for seed := range int64(21) {
		rnd := rand.New(rand.NewSource(seed))
		clients := 2 + int(seed)%7
		s := &story{r: made(t, clients), clients: make([]honest, clients)}
		slow := rnd.Intn(clients)
		for room := true; room; {
			client := rnd.Intn(clients)
			if client == slow && rnd.Intn(20) > 0 {
				client = (client + 1) % clients
			}
			room = s.step(t, rnd, client)
			if rnd.Intn(3) == 0 {
				s.again(t, rnd.Intn(clients))
			}
			s.oneOrder(t)
		}
		for client, c := range s.clients {
			if c.x.Number > 0 && !c.done {
				s.commit(t, client)
			}
			s.again(t, client)
			s.oneOrder(t)
		}
		if len(s.order) != most {
			t.Fatalf("story %d ends behind %d operations", seed, len(s.order))
		}
	}
}
