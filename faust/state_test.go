package faust_test

import (
	"fmt"
	"math"
	"math/rand"
	"slices"
	"strings"
	"testing"

	"affidavit/api"
	"affidavit/faust"
	"affidavit/lay"
	"affidavit/ring"
	"affidavit/ustor"
)

// wrongOf tells what is wrong with a watcher's bytes, by a second set of rules.
func (g group) wrongOf(me int, s string) api.Errno {
	at, e := 0, api.OK
	number := func() (x int) {
		if e == api.OK {
			x, at, e = lay.ReadNumber(s, at)
		}
		return x
	}
	text := func() (x string) {
		if e == api.OK {
			x, at, e = lay.ReadText(s, at)
		}
		return x
	}
	halted, dummy, view, who, tag := number(), number(), text(), number(), text()
	if e != api.OK {
		return e
	}
	if halted != 0 && halted != 1 || dummy != 0 && dummy != 1 {
		return api.ErrForm
	}
	reg, e := ustor.Read(g.keys, me, s[at:])
	if e != api.OK {
		return e
	}
	m, waits := reg.Again()
	own := reg.View()
	wrong := dummy == 1 && (!waits || m.Submit.Kind != read || m.Submit.Target == me)
	switch {
	case view == "":
		wrong = wrong || who != -1 || tag != "" || halted == 0 && own != ""
	case halted == 1, who < 0, who >= g.clients, !right(view, g.clients), last(view) != who, !strings.HasPrefix(view, own):
		wrong = true
	default:
		d := g.done(who, view)
		wrong = wrong || tag != string(d[:])
	}
	if wrong {
		return api.ErrForm
	}
	return api.OK
}

// reads asks for what Read answers: an error, beside which nothing was tagged, or a watcher whose bytes are the very ones.
func reads(t testing.TB, g group, me int, s string, e api.Errno) {
	t.Helper()
	tagged := g.ring.Len()
	w, is := faust.Read(g.ring, me, s)
	if is != e {
		t.Fatalf("Read of %d, %.300q: %d, and not %d", me, s, int(is), int(e))
	}
	if e == api.OK {
		if w == nil || w.Bytes() != s {
			t.Fatalf("Read of %d, %.300q: %.300q", me, s, w.Bytes())
		}
		return
	}
	if w != nil || g.ring.Len() != tagged {
		t.Fatalf("Read of %d, %.300q: a watcher, or %d tags, beside the error %d", me, s, g.ring.Len()-tagged, int(e))
	}
}

// judged asks that Read judges bytes as the second set of rules does.
func judged(t testing.TB, g group, me int, s string) api.Errno {
	t.Helper()
	e := g.wrongOf(me, s)
	reads(t, g, me, s, e)
	return e
}

// stateOf are a watcher's bytes, part by part: reg is ustor's.
type stateOf struct {
	halted, dummy int
	view          string
	by            int
	tag, reg      string
}

func (x stateOf) String() string {
	return fmt.Sprintf("%d;%d;", x.halted, x.dummy) + laid(x.view) + fmt.Sprintf("%d;", x.by) + laid(x.tag) + x.reg
}

// doneBytes is a client's tag of a view, as bytes.
func (g group) doneBytes(client int, view string) string {
	d := g.done(client, view)
	return string(d[:])
}

// knowsOf are the bytes of one that knows a longest view, committed by whoever it ends with.
func (g group) knowsOf(view, reg string) stateOf {
	return stateOf{0, 0, view, last(view), g.doneBytes(last(view), view), reg}
}

// P18.7: bytes, written out, of one that has done nothing, that waits, that has a dummy, that has done something, that knows more, that has given the alarm.
func TestBytes(t *testing.T) {
	g := groupOf(t, 3)
	p := begin(t, g, 1)
	says := func(what, want string) {
		t.Helper()
		if got := p.w.Bytes(); got != want {
			t.Fatalf("%s: %q, and not %q", what, got, want)
		}
		p.crashes()
	}
	says("nothing done", "0;0;0:-1;0:0:0:0;")
	p.refused(write, 1, "a;b", api.OK)
	says("a Write waits", "0;0;0:-1;0:0:3:a;b1;1;1;1;3:a;b")
	p.believes(p.truth("\x00", 2))
	says("one done", "0;0;3:\x00\x02\x011;32:"+g.doneBytes(1, "\x00\x02\x01")+"3:\x00\x02\x013:a;b0;")
	p.refused(read, 2, "other", api.OK)
	says("a read waits", "0;0;3:\x00\x02\x011;32:"+g.doneBytes(1, "\x00\x02\x01")+"3:\x00\x02\x013:a;b1;2;2;2;3:a;b")
	p.believes(p.truth(p.view))
	p.passes(idle, false)
	says("a dummy", "0;1;4:\x00\x02\x01\x011;32:"+g.doneBytes(1, "\x00\x02\x01\x01")+"4:\x00\x02\x01\x013:a;b1;3;2;2;3:a;b")
	p.opens(g.ofVersion(0, "\x00\x02\x01\x01\x00\x02"))
	says("more is known", "0;1;6:\x00\x02\x01\x01\x00\x022;32:"+g.doneBytes(2, "\x00\x02\x01\x01\x00\x02")+"4:\x00\x02\x01\x013:a;b1;3;2;2;3:a;b")
	p.alarms()
	says("the alarm", "1;1;0:-1;0:4:\x00\x02\x01\x013:a;b1;3;2;2;3:a;b")

	p = begin(t, g, 0)
	p.opens(g.ofVersion(1, "\x02"))
	says("nothing done, something known", "0;0;1:\x022;32:"+g.doneBytes(2, "\x02")+"0:0:0;")
	p.passes(idle, false)
	says("a dummy ahead of any operation", "0;1;1:\x022;32:"+g.doneBytes(2, "\x02")+"0:0:1;1;2;1;0:")
	p.alarms()
	says("the alarm ahead of any operation", "1;1;0:-1;0:0:0:1;1;2;1;0:")
	p = begin(t, g, 0)
	p.alarms()
	says("nothing but the alarm", "1;0;0:-1;0:0:0:0;")
}

// states are bytes of a watcher of 1 of 3, ahead of and behind each of its operations, with and without more that is known, well and not.
func states(t testing.TB) []string {
	t.Helper()
	g := groupOf(t, 3)
	var l []string
	for _, knows := range []bool{false, true} {
		p := begin(t, g, 1)
		note := func() {
			l = append(l, p.w.Bytes())
			halted, e := faust.Read(g.ring, 1, p.w.Bytes())
			if e != api.OK {
				t.Fatal(int(e))
			}
			halted.Alarm()
			l = append(l, halted.Bytes())
		}
		note()
		for i, kind := range []int{write, read, read, write} {
			if knows {
				p.opens(g.ofVersion(2, p.view+"\x02\x00"))
				note()
			}
			target := 1
			if kind == read {
				target = i % 3
			}
			if i == 2 {
				p.passes(idle, false)
			} else {
				p.refused(kind, target, "va"[:i%3], api.OK)
			}
			note()
			y := p.view
			if knows {
				y += "\x02\x00"
			}
			p.believes(p.truth(y, 2, 0))
			note()
		}
	}
	return l
}

// P18.7: whatever stands in a watcher comes back: it looks the same but for what others told, its prober begins anew, and it goes on.
func TestThereAndBack(t *testing.T) {
	for _, s := range states(t) {
		// Another ring of the same seed: its book knows nothing yet.
		g := groupOf(t, 3)
		w, e := faust.Read(g.ring, 1, s)
		if e != api.OK || w.Bytes() != s {
			t.Fatalf("%q: %d, %q", s, int(e), w.Bytes())
		}
		if w.Halted() != (s[0] == '1') || w.Dummy() != (s[2] == '1') {
			t.Fatalf("%q: %v, %v", s, w.Halted(), w.Dummy())
		}
		reg, e := ustor.Read(groupOf(t, 3).ring, 1, w.Reg().Bytes())
		if e != api.OK || !strings.HasSuffix(s, reg.Bytes()) || w.Reg().View() != reg.View() || w.Known().Word(1) != reg.View() {
			t.Fatalf("%q: %q, %q", s, w.Reg().Bytes(), w.Known().Word(1))
		}
		// What is tagged anew is no more than what waits, and what was done last.
		if n := g.ring.Len(); n != bit(reg.View() != "")+2*bit(reg.Busy()) {
			t.Fatalf("%q: %d are tagged", s, n)
		}
	}
}

// P18.7: what comes back, of what others told: the longest view, from whoever committed it, and the own one; behind the alarm the own one alone.
func TestKnownComesBack(t *testing.T) {
	g := groupOf(t, 4)
	p := begin(t, g, 0)
	p.opens(g.ofVersion(1, "\x01"))
	p.opens(g.ofVersion(2, "\x01\x02\x03"))
	p.does(read, 2, "", "\x01\x02\x03")
	p.opens(g.ofVersion(3, "\x01\x02\x03\x00\x01\x02"))
	p.opens(g.ofVersion(2, "\x01\x02\x03\x00\x01"))
	p.crashes()
	words := func(l ...string) {
		t.Helper()
		for client, word := range l {
			if p.w.Known().Word(client) != word {
				t.Fatalf("of %d: %q, and not %q", client, p.w.Known().Word(client), word)
			}
		}
	}
	words("\x01\x02\x03\x00", "", "\x01\x02\x03\x00\x01\x02", "")
	p.alarms()
	p.crashes()
	words("\x01\x02\x03\x00", "", "", "")
	if long, who, _ := p.w.Known().Longest(); long != "\x01\x02\x03\x00" || who != 0 {
		t.Errorf("%q, %d", long, who)
	}
	p = begin(t, g, 0)
	p.opens(g.ofVersion(1, "\x02"))
	p.alarms()
	p.crashes()
	words("", "", "", "")
}

// P18.7: the prober begins anew: at the first tick, with the first turn.
func TestProberBeginsAnew(t *testing.T) {
	for at := range 20 {
		p := begin(t, groupOf(t, 4), 2)
		p.passes(at, at%2 == 0)
		p.opens(p.group.ofVersion(1, "\x01"))
		p.crashes()
		p.passes(3*idle, false)
	}
}

// P18.7: New's errors, ahead of whatever is wrong with the bytes.
func TestReadNobody(t *testing.T) {
	for _, s := range []string{"0;0;0:-1;0:0:0:0;", "", "x", "2;0;0:-1;0:0:0:0;", "0;0;0:-1;0:", "99999:"} {
		for _, me := range append(nobodies(3), 0, 1, 2) {
			if w, e := faust.Read(nil, me, s); w != nil || e != api.ErrNil {
				t.Errorf("%d of a nil ring, %q: %v, %d", me, s, w, int(e))
			}
			if w, e := faust.Read(&ring.Ring{}, me, s); w != nil || e != api.ErrArg {
				t.Errorf("%d of a ring that no call made, %q: %v, %d", me, s, w, int(e))
			}
		}
		for _, clients := range []int{2, 3, 8} {
			g := groupOf(t, clients)
			for _, me := range nobodies(clients) {
				reads(t, g, me, s, api.ErrArg)
			}
		}
	}
}

// P18.7: a text that was cut at each place, and with more behind it, or ahead of it.
func TestCut(t *testing.T) {
	g := groupOf(t, 3)
	for _, s := range states(t) {
		for end := range len(s) {
			reads(t, g, 1, s[:end], api.ErrShort)
		}
		for _, tail := range []string{"0", ";", "0;", "1;", "\x00", " ", s, "0:"} {
			reads(t, g, 1, s+tail, api.ErrForm)
		}
		for _, head := range []string{" ", "0", ";", "-"} {
			if e := judged(t, g, 1, head+s); e != api.ErrForm {
				t.Errorf("%q: %d", head+s, int(e))
			}
		}
	}
}

// P18.7: lay's first error, of what stands ahead of ustor's bytes; behind all of them that of the first two numbers; then ustor's; then what does not fit together.
func TestReadOrder(t *testing.T) {
	g := groupOf(t, 3)
	tag := laid(g.doneBytes(0, "\x00"))
	long := laid(strings.Repeat("v", maxText+1))
	for _, c := range []struct {
		s string
		e api.Errno
	}{
		{"x", api.ErrForm}, {"2", api.ErrShort}, {"99999999999999999999;x", api.ErrBig}, {"2;", api.ErrShort}, {"2;x", api.ErrForm},
		{"0;99999999999999999999;", api.ErrBig}, {"2;0;", api.ErrShort}, {"2;2;" + long, api.ErrBig}, {"2;2;1:\x00", api.ErrShort},
		{"2;2;01:\x00", api.ErrForm}, {"2;2;1:\x0099999999999999999999;", api.ErrBig}, {"2;2;1:\x000;", api.ErrShort}, {"2;2;1:\x00-0;", api.ErrForm},
		{"2;2;1:\x000;" + long, api.ErrBig}, {"2;2;1:\x000;33:x", api.ErrShort},
		// The first two numbers ahead of ustor's bytes.
		{"2;0;1:\x000;" + tag, api.ErrForm}, {"0;2;1:\x000;" + tag, api.ErrForm}, {"2;0;1:\x000;" + tag + long, api.ErrForm}, {"0;-1;0:-1;0:" + long, api.ErrForm},
		// ustor's ahead of what does not fit together.
		{"0;0;1:\x000;" + tag, api.ErrShort}, {"0;0;1:\x000;" + tag + long, api.ErrBig}, {"0;1;0:-1;0:0:0:0", api.ErrShort}, {"1;0;1:\x000;" + tag + "0:" + long, api.ErrBig},
		{"0;0;0:0;0:0:0:", api.ErrShort}, {"0;0;1:\x001;0:0:0:99999999999999999999;", api.ErrBig}, {"0;0;1:\x000;0:1:\x00", api.ErrShort},
		{"0;0;0:7;0:0:0:2;", api.ErrForm}, {"0;0;0:-1;0:1:\x000:0;", api.ErrForm}, {"0;0;0:-1;0:0:0:0;x", api.ErrForm},
	} {
		reads(t, g, 1, c.s, c.e)
		if e := g.wrongOf(1, c.s); e != c.e {
			t.Errorf("%.100q: the second set of rules says %d", c.s, int(e))
		}
	}
}

// P18.7: each ErrForm, by an input of its own, beside one that is well.
func TestReadForms(t *testing.T) {
	g := groupOf(t, 3)
	none, own := "0:0:0;", laid("\x00\x01")+"1:v0;"
	waits := "0:0:1;1;2;0;0:"
	well := stateOf{0, 0, "", -1, "", none}
	behind := g.knowsOf("\x00\x01", own)
	more := g.knowsOf("\x00\x01\x02", own)
	for _, c := range []struct {
		what string
		from stateOf
		turn func(x *stateOf)
	}{
		{"the first number is 2", well, func(x *stateOf) { x.halted = 2 }},
		{"the first number is below 0", well, func(x *stateOf) { x.halted = -1 }},
		{"the second number is 2", stateOf{0, 1, "", -1, "", waits}, func(x *stateOf) { x.dummy = 2 }},
		{"the second number is below 0", well, func(x *stateOf) { x.dummy = -1 }},
		{"the first number is far away", well, func(x *stateOf) { x.halted = 1 << 32 }},
		{"the second number is far away", well, func(x *stateOf) { x.dummy = math.MinInt }},
		{"a dummy, and it does not wait", well, func(x *stateOf) { x.dummy = 1 }},
		{"a dummy, and it does not wait, behind the alarm", stateOf{1, 0, "", -1, "", none}, func(x *stateOf) { x.dummy = 1 }},
		{"a dummy, and it waits for a Write", stateOf{0, 0, "", -1, "", "0:1:v1;1;1;1;1:v"}, func(x *stateOf) { x.dummy = 1 }},
		{"a dummy, and it waits for a read of its own register", stateOf{0, 0, "", -1, "", "0:0:1;1;2;1;0:"}, func(x *stateOf) { x.dummy = 1 }},
		{"the alarm, and a longest view", behind, func(x *stateOf) { x.halted = 1 }},
		{"the alarm, and a longest view, ahead of any operation", g.knowsOf("\x02", none), func(x *stateOf) { x.halted = 1 }},
		{"no longest view, and By is me", well, func(x *stateOf) { x.by = 1 }},
		{"no longest view, and By is another one", well, func(x *stateOf) { x.by = 0 }},
		{"no longest view, and By is below -1", well, func(x *stateOf) { x.by = -2 }},
		{"no longest view, and a tag", well, func(x *stateOf) { x.tag = strings.Repeat("\x00", 32) }},
		{"no longest view, and one byte of a tag", well, func(x *stateOf) { x.tag = "\x00" }},
		{"no longest view, its tag, and who made it", well, func(x *stateOf) { x.by, x.tag = 1, g.doneBytes(1, "") }},
		{"the alarm, and By is me", stateOf{1, 0, "", -1, "", own}, func(x *stateOf) { x.by = 1 }},
		{"the alarm, and a tag", stateOf{1, 0, "", -1, "", own}, func(x *stateOf) { x.tag = g.doneBytes(1, "\x00\x01") }},
		{"a tag with a bit turned", behind, func(x *stateOf) { x.tag = x.tag[:31] + string([]byte{x.tag[31] ^ 1}) }},
		{"a tag of 31 bytes", behind, func(x *stateOf) { x.tag = x.tag[:31] }},
		{"a tag of 33 bytes", behind, func(x *stateOf) { x.tag += "\x00" }},
		{"no tag", behind, func(x *stateOf) { x.tag = "" }},
		{"another one's tag", behind, func(x *stateOf) { x.tag = g.doneBytes(0, x.view) }},
		{"a tag of another view", behind, func(x *stateOf) { x.tag = g.doneBytes(1, "\x01") }},
		{"a tag of another domain", behind, func(x *stateOf) { d := g.version(1, 1, x.view); x.tag = string(d[:]) }},
		{"By is another one", behind, func(x *stateOf) { x.by = 0 }},
		{"By is nobody", behind, func(x *stateOf) { x.by = -1 }},
		{"By is no client", behind, func(x *stateOf) { x.by = 3 }},
		{"By is far away", behind, func(x *stateOf) { x.by = 1<<32 + 1 }},
		{"By is another one, whose tag it is: the view does not end with it", more, func(x *stateOf) { x.by, x.tag = 0, g.doneBytes(0, x.view) }},
		{"a view of no client of the ring, with its tag", g.knowsOf("\x02", none), func(x *stateOf) { *x = g.knowsOf("\x03\x02", none) }},
		{"a view that is too long, with its tag", g.knowsOf(strings.Repeat("\x02", most), none), func(x *stateOf) { *x = g.knowsOf(strings.Repeat("\x02", most+1), none) }},
		{"a view that does not fit the own one", more, func(x *stateOf) { *x = g.knowsOf("\x00\x02\x02", own) }},
		{"a view that does not fit the own one, and is as long", more, func(x *stateOf) { *x = g.knowsOf("\x01\x01", own) }},
		{"a view that does not fit the own one, and is shorter", more, func(x *stateOf) { *x = g.knowsOf("\x02", own) }},
		{"the own one is a longer one", more, func(x *stateOf) { *x = g.knowsOf("\x00", own) }},
		{"the own one is one, and there is no longest view", more, func(x *stateOf) { *x = stateOf{0, 0, "", -1, "", own} }},
		{"ustor's: bytes are left", behind, func(x *stateOf) { x.reg += "0;" }},
		{"ustor's: the view does not end with me", behind, func(x *stateOf) { x.reg = laid("\x00") + "1:v0;" }},
		{"ustor's: a number that is none", behind, func(x *stateOf) { x.reg = laid("\x00\x01") + "1:v3;" }},
	} {
		x := c.from
		reads(t, g, 1, x.String(), api.OK)
		c.turn(&x)
		reads(t, g, 1, x.String(), api.ErrForm)
		if e := g.wrongOf(1, x.String()); e != api.ErrForm {
			t.Errorf("%s: the second set of rules says %d", c.what, int(e))
		}
	}
}

// P18.7: what is well, though it looks odd.
func TestReadWell(t *testing.T) {
	g := groupOf(t, 3)
	own := laid("\x00\x01") + "1:v0;"
	for _, x := range []stateOf{
		{1, 0, "", -1, "", own},
		{1, 1, "", -1, "", laid("\x00\x01") + "1:v1;2;2;0;1:v"},
		{0, 0, "", -1, "", "0:0:1;1;2;0;0:"},
		{0, 1, "", -1, "", "0:0:1;1;2;2;0:"},
		g.knowsOf("\x00\x01\x02", own),
		g.knowsOf("\x00\x01\x01", own), // me's, behind the view that it has
		g.knowsOf("\x00\x01"+strings.Repeat("\x02", most-2), own),
		g.knowsOf("\x01", "0:0:0;"),
	} {
		reads(t, g, 1, x.String(), api.OK)
	}
}

// P18.7: every byte turned into others, one taken away, one put in: judged as the rules say; what is taken is laid as the very bytes.
func TestTurned(t *testing.T) {
	g := groupOf(t, 3)
	seen := map[api.Errno]int{}
	odd := []byte{0, 1, 2, 3, ' ', '-', '/', '0', '1', '2', '3', '4', '9', ':', ';', 0x80, 0xff}
	for i, s := range states(t) {
		if i%3 != 0 {
			continue
		}
		for at := range len(s) {
			for _, b := range append(odd, s[at]+1, s[at]-1, s[at]^4) {
				seen[judged(t, g, 1, s[:at]+string([]byte{b})+s[at+1:])]++
				if b < '4' {
					seen[judged(t, g, 1, s[:at]+string([]byte{b})+s[at:])]++
				}
			}
			seen[judged(t, g, 1, s[:at]+s[at+1:])]++
		}
	}
	for _, e := range []api.Errno{api.OK, api.ErrForm, api.ErrShort} {
		if seen[e] < 50 {
			t.Errorf("%d only %d times", int(e), seen[e])
		}
	}
}

// P18.7: parts put together at random, right ones and wrong ones, of each client.
func TestPutTogether(t *testing.T) {
	g := groupOf(t, 3)
	rnd := rand.New(rand.NewSource(18))
	seen := map[api.Errno]int{}
	views := []string{"", "\x00", "\x01", "\x02", "\x00\x01", "\x00\x02", "\x00\x01\x02", "\x00\x01\x00", "\x00\x01\x02\x00", "\x03"}
	pick := func(l ...int) int { return l[rnd.Intn(len(l))] }
	for range 60000 {
		me := rnd.Intn(3)
		x := stateOf{pick(0, 0, 0, 1, 2), pick(0, 0, 1, 1, 3), views[rnd.Intn(len(views))], pick(-1, -1, 0, 1, 2, 3), "", ""}
		if x.view != "" && rnd.Intn(4) > 0 {
			x.by = last(x.view)
		}
		if x.by >= 0 && x.by < 3 && rnd.Intn(10) > 0 {
			x.tag = g.doneBytes(x.by, x.view)
		}
		own := views[rnd.Intn(len(views))]
		if rnd.Intn(3) > 0 {
			own = upto(x.view, me)
		}
		value := "v"[:rnd.Intn(2)]
		x.reg = laid(own) + laid(value) + "0;"
		if rnd.Intn(2) == 0 {
			x.reg = x.reg[:len(x.reg)-2] + fmt.Sprintf("1;%d;%d;%d;", count(own, me)+1, pick(write, read, read), rnd.Intn(3)) + laid(value)
		}
		seen[judged(t, g, me, x.String())]++
	}
	if seen[api.OK] < 1000 || seen[api.ErrForm] < 1000 {
		t.Errorf("%v", seen)
	}
}

// Two watchers beside each other know nothing of one another, of one ring or of two, be me the same or not.
func TestApart(t *testing.T) {
	for _, other := range []int{0, 1} {
		g := groupOf(t, 3)
		a, b := begin(t, g, 0), begin(t, g, other)
		b.believesNothing()
		a.does(write, 0, "v", "")
		a.opens(g.ofVersion(2, "\x00\x02"))
		a.passes(5, false)
		b.same()
		b.passes(idle, false)
		a.same()
		if b.w.Known().Word(2) != "" || a.w.Dummy() || !b.w.Dummy() {
			t.Errorf("%q", b.w.Known().Word(2))
		}
		b.alarms()
		a.same()
		if a.w.Halted() {
			t.Error("the other one's alarm")
		}
		a.passes(idle, false)
		b.same()
	}
}

// believesNothing asks that it takes nothing that it did not ask for.
func (p *pair) believesNothing() {
	p.t.Helper()
	p.doubts(ofReply(api.Reply{Number: 1, Last: -1}), api.ErrNone, false)
	if l := p.repeats(); !slices.Equal(goesTo(l), nil) {
		p.t.Fatalf("%+v", l)
	}
}
