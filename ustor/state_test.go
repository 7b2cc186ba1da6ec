package ustor_test

import (
	"fmt"
	"math"
	"math/rand"
	"strings"
	"testing"
	"unsafe"

	"affidavit/api"
	"affidavit/hist"
	"affidavit/lay"
	"affidavit/msg"
	"affidavit/ring"
	"affidavit/ustor"
)

// wrongOf tells what is wrong with a state's bytes, by a second set of rules.
func (g group) wrongOf(me int, s string) api.Errno {
	at := 0
	text := func(e *api.Errno) (x string) {
		if *e == api.OK {
			x, at, *e = lay.ReadText(s, at)
		}
		return x
	}
	number := func(e *api.Errno) (x int) {
		if *e == api.OK {
			x, at, *e = lay.ReadNumber(s, at)
		}
		return x
	}
	e := api.OK
	view := text(&e)
	value := text(&e)
	waits := number(&e)
	n, kind, target, asked := 0, 0, 0, ""
	if waits == 1 {
		n = number(&e)
		kind = number(&e)
		target = number(&e)
		asked = text(&e)
	}
	if e != api.OK {
		return e
	}
	wrong := waits < 0 || waits > 1 || at != len(s)
	wrong = wrong || !hist.Right(view, g.clients) || view != "" && int(view[len(view)-1]) != me || len(value) > maxValue
	if waits == 1 {
		m := model{group: g, me: me, view: view, value: value}
		_, refused := m.ask(kind, target, asked)
		wrong = wrong || n != count(view, me)+1 || refused != api.OK || asked != value
	}
	if wrong {
		return api.ErrForm
	}
	return api.OK
}

// reads asks for what Read answers: an error, beside which nothing was tagged, or a client whose bytes are the very ones.
func reads(t testing.TB, g group, me int, s string, e api.Errno) {
	t.Helper()
	tagged := g.ring.Len()
	c, is := ustor.Read(g.ring, me, s)
	if is != e {
		t.Fatalf("Read of %d, %.120q: %d, and not %d", me, s, int(is), int(e))
	}
	if e == api.OK {
		if c == nil || c.Bytes() != s {
			t.Fatalf("Read of %d, %.120q: %.120q", me, s, c.Bytes())
		}
		return
	}
	if c != nil || g.ring.Len() != tagged {
		t.Fatalf("Read of %d, %.120q: a client, or %d tags, beside the error %d", me, s, g.ring.Len()-tagged, int(e))
	}
}

// judged asks that Read judges bytes as the second set of rules does.
func judged(t testing.TB, g group, me int, s string) api.Errno {
	t.Helper()
	e := g.wrongOf(me, s)
	reads(t, g, me, s, e)
	return e
}

// P15.6: bytes, written out: of one that has done nothing, that waits, that has done something.
func TestBytes(t *testing.T) {
	g := groupOf(t, 3)
	p := begin(t, g, 1)
	says := func(what, want string) {
		t.Helper()
		if got := p.c.Bytes(); got != want {
			t.Fatalf("%s: %q, and not %q", what, got, want)
		}
		p.again()
	}
	says("nothing done", "0:0:0;")
	p.waitsFor(write, 1, "a;b")
	says("a Write waits", "0:3:a;b1;1;1;1;3:a;b")
	p.believes(g.reply(1, p.x, "\x00", 2))
	says("one done", "3:\x00\x02\x013:a;b0;")
	p.waitsFor(read, 2, "other")
	says("a Read waits", "3:\x00\x02\x013:a;b1;2;2;2;3:a;b")
	p.believes(g.reply(1, p.x, p.view, 2))
	says("two done", "5:\x00\x02\x01\x02\x013:a;b0;")
	p.waitsFor(write, 1, "")
	says("a Write of nothing waits", "5:\x00\x02\x01\x02\x010:1;3;1;1;0:")
	p.believes(g.reply(1, p.x, p.view))
	says("three done", "6:\x00\x02\x01\x02\x01\x010:0;")
	p.waitsFor(write, 1, strings.Repeat("v", maxValue))
	says("a long one waits", "6:\x00\x02\x01\x02\x01\x01256:"+strings.Repeat("v", maxValue)+"1;4;1;1;256:"+strings.Repeat("v", maxValue))
	p.believes(g.reply(1, p.x, p.view, 0, 2))
	says("four done", "9:\x00\x02\x01\x02\x01\x01\x00\x02\x01256:"+strings.Repeat("v", maxValue)+"0;")
}

// states are a client's, 1 of 3, ahead of and behind each of its operations.
func states(t testing.TB, g group) []look {
	t.Helper()
	p := begin(t, g, 1)
	l := []look{lookOf(t, p.c)}
	note := func() { l = append(l, lookOf(t, p.c)) }
	for i, kind := range []int{write, read, read, write, write, read} {
		target := 1
		if kind == read {
			target = i % 3
		}
		p.waitsFor(kind, target, "va"[:i%3])
		note()
		y := p.group.reply(1, p.x, p.view+"\x02"[:i%2], i%2*2)
		if kind == read && target == 1 {
			y.Value, y.Data = p.value, p.data(1, i, p.value)
		}
		p.believes(y)
		note()
	}
	return l
}

// P15.6, P15.8: what was laid is read: it looks the same, and goes on the same, with the very bytes.
func TestThereAndBack(t *testing.T) {
	for _, was := range states(t, groupOf(t, 3)) {
		// Another ring of the same seed: its book knows nothing yet.
		g := groupOf(t, 3)
		c, e := ustor.Read(g.ring, 1, was.bytes)
		if e != api.OK {
			t.Fatalf("%q: %d", was.bytes, int(e))
		}
		again, waits := c.Again()
		if x := again.Submit; waits && !(g.ring.Len() == 2 && g.ring.Made(1, domAsked, msg.Asked(1, x)) && g.ring.Made(1, domData, msg.Data(x.Number, x.Value))) {
			t.Fatalf("%q: what waits is not tagged anew, once: %d are", was.bytes, g.ring.Len())
		}
		if !waits && g.ring.Len() != 0 {
			t.Fatalf("%q: %d are tagged", was.bytes, g.ring.Len())
		}
		if got := lookOf(t, c); got != was {
			t.Fatalf("%+v, and not %+v", got, was)
		}
	}
}

// P15.8: what waits is asked for with the very bytes, again and again, laid and read or not, by a ring of its own too.
func TestTheVeryBytes(t *testing.T) {
	for me := range 8 {
		p := behind(t, groupOf(t, 8), me, historyOf(8, me, 20), "held")
		for _, step := range []struct {
			kind, target int
			value        string
		}{{write, me, "v"}, {read, (me + 1) % 8, ""}, {read, me, "w"}, {write, me, strings.Repeat("\x00", maxValue)}} {
			m, _ := p.asks(step.kind, step.target, step.value)
			first := put(t, m)
			for range 3 {
				again, is := p.c.Again()
				if !is || put(t, again) != first {
					t.Fatalf("%+v, and not %+v", again, m)
				}
				c, e := ustor.Read(groupOf(t, 8).ring, me, p.c.Bytes())
				if e != api.OK {
					t.Fatal(int(e))
				}
				again, is = c.Again()
				if !is || put(t, again) != first {
					t.Fatalf("%+v, and not %+v", again, m)
				}
				p.again()
				p.refused(write, me, "another", api.ErrBusy)
			}
			y := p.group.reply(me, p.x, p.view, (me+3)%8)
			if step.kind == read && step.target == me {
				y.Value, y.Data = p.value, p.data(me, y.ValueNumber, p.value)
			}
			p.believes(y)
		}
	}
}

// P15.6: New's errors, ahead of whatever is wrong with the bytes.
func TestReadNobody(t *testing.T) {
	for _, s := range []string{"0:0:0;", "", "x", "0:0:2;", "1:\x020:0;", "0:0:0;0;", "99999:"} {
		for _, me := range append(nobodies(3), 0, 1, 2) {
			if c, e := ustor.Read(nil, me, s); c != nil || e != api.ErrNil {
				t.Errorf("%d of a nil ring, %q: %v, %d", me, s, c, int(e))
			}
			if c, e := ustor.Read(&ring.Ring{}, me, s); c != nil || e != api.ErrArg {
				t.Errorf("%d of a ring that no call made, %q: %v, %d", me, s, c, int(e))
			}
		}
		for _, clients := range []int{2, 3, 8} {
			g := groupOf(t, clients)
			for _, me := range nobodies(clients) {
				reads(t, g, me, s, api.ErrArg)
			}
		}
	}
}

// P15.6: bytes cut short at every place, and with bytes behind them.
func TestCut(t *testing.T) {
	g := groupOf(t, 3)
	for _, state := range states(t, g) {
		s := state.bytes
		for end := range len(s) {
			reads(t, g, 1, s[:end], api.ErrShort)
		}
		for _, tail := range []string{"0", ";", "0;", "1;", "\x00", " ", s, "0:"} {
			reads(t, g, 1, s+tail, api.ErrForm)
		}
		reads(t, g, 1, " "+s, api.ErrForm)
	}
}

// P15.6: every byte turned into every other one, one taken away, one put in: judged as the rules say; what is taken is laid as the very bytes.
func TestTurned(t *testing.T) {
	g := groupOf(t, 3)
	seen := map[api.Errno]int{}
	for _, state := range states(t, g) {
		s := state.bytes
		for i := range len(s) {
			for b := range 256 {
				seen[judged(t, g, 1, s[:i]+string([]byte{byte(b)})+s[i+1:])]++
				if b%16 == 0 || b >= '0' && b <= ';' {
					seen[judged(t, g, 1, s[:i]+string([]byte{byte(b)})+s[i:])]++
				}
			}
			seen[judged(t, g, 1, s[:i]+s[i+1:])]++
		}
	}
	for _, e := range []api.Errno{api.OK, api.ErrForm, api.ErrShort} {
		if seen[e] < 50 {
			t.Errorf("%d was answered %d times only", int(e), seen[e])
		}
	}
}

// P15.6: the number behind the value, bytes that are left behind it.
func TestWaitsOrNot(t *testing.T) {
	g := groupOf(t, 2)
	for _, state := range []string{laid("") + laid(""), laid("\x00\x01") + laid("v")} {
		reads(t, g, 1, state+"0;", api.OK)
		for _, n := range []int{2, 3, -1, 10, 11, 256, 257, math.MaxInt, math.MinInt, 1 << 32, 1<<32 + 1} {
			reads(t, g, 1, state+lay.Number(n), api.ErrForm)
			reads(t, g, 1, state+lay.Number(n)+"1;1;1;"+laid("v"), api.ErrForm)
			reads(t, g, 1, state+lay.Number(n)+"x", api.ErrForm)
		}
		reads(t, g, 1, state+"0;1;1;1;"+laid(""), api.ErrForm)
		reads(t, g, 1, state+"1;", api.ErrShort)
		// Nothing at all is waited for by nobody, though it is said.
		reads(t, g, 1, state+"1;0;0;0;0:", api.ErrForm)
	}
}

// P15.6: views that may not be, and such as end with another one.
func TestReadViews(t *testing.T) {
	for _, clients := range []int{2, 3, 7, 8} {
		g := groupOf(t, clients)
		for me := range clients {
			end := by(me)
			for view, e := range map[string]api.Errno{
				"":                                   api.OK,
				end:                                  api.OK,
				end + end:                            api.OK,
				"\x00\x01" + end:                     api.OK,
				by(clients-1) + end:                  api.OK,
				by(clients) + end:                    api.ErrForm,
				end + by(clients):                    api.ErrForm,
				by(clients):                          api.ErrForm,
				"\xff" + end:                         api.ErrForm,
				end + by((me+1)%clients):             api.ErrForm,
				by((me + 1) % clients):               api.ErrForm,
				historyOf(clients, me, most-1):       api.OK,
				historyOf(clients, me, most):         api.OK,
				historyOf(clients, me, most+1):       api.ErrForm,
				strings.Repeat(end, most):            api.OK,
				strings.Repeat(end, most+1):          api.ErrForm,
				strings.Repeat(end, maxText):         api.ErrForm,
				strings.Repeat(end, maxText+1):       api.ErrBig,
				strings.Repeat(end, most) + "\x00":   api.ErrForm,
				strings.Repeat(end, most-2) + "\xfe": api.ErrForm,
			} {
				reads(t, g, me, laid(view)+laid("v")+"0;", e)
				if e == api.ErrForm {
					reads(t, g, me, fmt.Sprintf("%s%s1;%d;1;%d;%s", laid(view), laid("v"), count(view, me)+1, me, laid("v")), e)
				}
			}
		}
	}
}

// P15.6: values that are too long, for the register or for lay.
func TestReadValues(t *testing.T) {
	g := groupOf(t, 2)
	for _, view := range []string{"", "\x01", "\x00\x01"} {
		for size, e := range map[int]api.Errno{0: api.OK, 1: api.OK, 255: api.OK, 256: api.OK, 257: api.ErrForm, 300: api.ErrForm, maxText: api.ErrForm, maxText + 1: api.ErrBig, 1 << 20: api.ErrBig} {
			value := strings.Repeat("\x9c", size)
			reads(t, g, 1, laid(view)+laid(value)+"0;", e)
			for _, kind := range []int{write, read} {
				reads(t, g, 1, fmt.Sprintf("%s%s1;%d;%d;1;%s", laid(view), laid(value), count(view, 1)+1, kind, laid(value)), e)
			}
		}
	}
}

// waitingBytes is a state whose Submit is any.
func waitingBytes(view, value string, number, kind, target int, asked string) string {
	return fmt.Sprintf("%s%s1;%d;%d;%d;%s", laid(view), laid(value), number, kind, target, laid(asked))
}

// P15.6: a Submit's Number that is not the next one.
func TestReadNumbers(t *testing.T) {
	g := groupOf(t, 3)
	for _, view := range []string{"", "\x01", "\x00\x02\x01", "\x01\x00\x01\x01\x02\x01"} {
		next := count(view, 1) + 1
		for _, kind := range []int{write, read} {
			for number := -2; number < 12; number++ {
				e := api.ErrForm
				if number == next {
					e = api.OK
				}
				reads(t, g, 1, waitingBytes(view, "v", number, kind, 1, "v"), e)
			}
			for _, number := range []int{most, most + 1, math.MaxInt, math.MinInt, 1<<32 + next, len(view) + 1} {
				if number != next {
					reads(t, g, 1, waitingBytes(view, "v", number, kind, 1, "v"), api.ErrForm)
				}
			}
		}
	}
}

// P15.6: Submits that Ask would refuse, for each of its reasons.
func TestReadRefused(t *testing.T) {
	for _, clients := range []int{2, 3, 8} {
		g := groupOf(t, clients)
		me := clients - 1
		for _, view := range []string{"", by(me), "\x00" + by(me)} {
			next := count(view, me) + 1
			for _, kind := range []int{0, 3, -1, 4, math.MinInt, math.MaxInt, 1<<32 + 1} {
				reads(t, g, me, waitingBytes(view, "v", next, kind, me, "v"), api.ErrForm)
			}
			for target := range clients {
				reads(t, g, me, waitingBytes(view, "v", next, read, target, "v"), api.OK)
				e := api.ErrForm
				if target == me {
					e = api.OK
				}
				reads(t, g, me, waitingBytes(view, "v", next, write, target, "v"), e)
			}
			for _, target := range nobodies(clients) {
				reads(t, g, me, waitingBytes(view, "v", next, write, target, "v"), api.ErrForm)
				reads(t, g, me, waitingBytes(view, "v", next, read, target, "v"), api.ErrForm)
			}
			long := strings.Repeat("v", maxValue+1)
			reads(t, g, me, waitingBytes(view, "v", next, write, me, long), api.ErrForm)
			reads(t, g, me, waitingBytes(view, long, next, write, me, long), api.ErrForm)
		}
		// With 511 operations there is room for one more, with 512 there is none.
		for _, kind := range []int{write, read} {
			view := historyOf(clients, me, most-1)
			reads(t, g, me, waitingBytes(view, "v", count(view, me)+1, kind, me, "v"), api.OK)
			view = historyOf(clients, me, most)
			reads(t, g, me, waitingBytes(view, "v", count(view, me)+1, kind, me, "v"), api.ErrForm)
			view = strings.Repeat(by(me), most-1)
			reads(t, g, me, waitingBytes(view, "v", most, kind, me, "v"), api.OK)
			view = strings.Repeat(by(me), most)
			reads(t, g, me, waitingBytes(view, "v", most+1, kind, me, "v"), api.ErrForm)
		}
	}
}

// P15.6: a Submit's Value is what the register holds.
func TestReadHeld(t *testing.T) {
	g := groupOf(t, 2)
	values := []string{"", "v", "w", "vv", "\x00", strings.Repeat("v", maxValue)}
	for _, held := range values {
		for _, asked := range values {
			e := api.ErrForm
			if held == asked {
				e = api.OK
			}
			for _, kind := range []int{write, read} {
				reads(t, g, 1, waitingBytes("", held, 1, kind, 1, asked), e)
				reads(t, g, 1, waitingBytes("\x00\x01", held, 2, kind, 1, asked), e)
			}
		}
	}
}

// P15.6: lay's errors, field by field, ahead of what is wrong with the form.
func TestLayErrors(t *testing.T) {
	g := groupOf(t, 2)
	texts := map[string]api.Errno{"": api.ErrShort, "1": api.ErrShort, "3:ab": api.ErrShort, "x": api.ErrForm, "-1:a": api.ErrForm, "01:a": api.ErrForm, "1;a": api.ErrForm, ":": api.ErrForm, "16385:": api.ErrBig, "99999999999999999999:": api.ErrBig}
	numbers := map[string]api.Errno{"": api.ErrShort, "1": api.ErrShort, "-": api.ErrShort, "x": api.ErrForm, "01;": api.ErrForm, "-0;": api.ErrForm, "1:": api.ErrForm, ";": api.ErrForm, "9223372036854775808;": api.ErrBig, "-9223372036854775809;": api.ErrBig}
	for _, fields := range [][]string{
		{"1:\x01", "1:v", "1;", "2;", "1;", "1;", "1:v"}, // right, up to the field
		{"1:\x00", "1:v", "1;", "2;", "1;", "1;", "1:v"}, // a view of another one's
		{"2:\x09\x01", "1:v", "1;", "2;", "1;", "1;", "1:v"},
		{"1:\x01", laid(strings.Repeat("v", 257)), "1;", "2;", "1;", "1;", "1:v"},
		{"1:\x01", "1:v", "1;", "-7;", "9;", "5;", "1:w"},
	} {
		for i, f := range fields {
			wrong := numbers
			if strings.Contains(f, ":") {
				wrong = texts
			}
			for bad, e := range wrong {
				s := strings.Join(fields[:i], "") + bad
				reads(t, g, 1, s, e)
				if e == api.ErrShort {
					continue
				}
				// Whatever stands behind it.
				for _, tail := range []string{"x", "0:", "1;", ":", strings.Join(fields[i+1:], "")} {
					if strings.HasSuffix(bad, "1") && tail[0] >= '0' && tail[0] <= '9' {
						continue
					}
					reads(t, g, 1, s+tail, e)
				}
			}
		}
	}
	// Behind a 0 or a 2 no Submit is read, so what stands there has no error of lay's.
	for _, n := range []string{"0;", "2;"} {
		for bad := range numbers {
			if bad != "" {
				reads(t, g, 1, "1:\x011:v"+n+bad, api.ErrForm)
			}
		}
	}
}

// P15.6: fields of all sorts put together at random are judged as the rules say.
func TestReadJudged(t *testing.T) {
	rnd := rand.New(rand.NewSource(156))
	seen := map[api.Errno]int{}
	pick := func(l ...string) string { return l[rnd.Intn(len(l))] }
	for range 60000 {
		g := groupsOf[rnd.Intn(len(groupsOf))](t)
		me := rnd.Intn(g.clients)
		view := pick("", by(me), by(me), "\x00"+by(me), "\x01\x00"+by(me)+by(me), by(g.clients)+by(me), "\x00")
		value := pick("", "v", "v", strings.Repeat("v", 256), strings.Repeat("v", 257))
		s := laid(view) + laid(value) + pick("0;", "1;", "1;", "1;", "1;", "2;", "01;")
		if strings.HasSuffix(s, "1;") {
			s += lay.Number(count(view, me)+rnd.Intn(5)/2) + lay.Number(rnd.Intn(9)/3) + lay.Number(rnd.Intn(g.clients+1)) + laid(pick(value, value, value, "v"))
		}
		seen[judged(t, g, me, s+pick("", "", "", "", "", "0;"))]++
	}
	for _, e := range []api.Errno{api.OK, api.ErrForm} {
		if seen[e] < 5000 {
			t.Errorf("%d was answered %d times only", int(e), seen[e])
		}
	}
}

// groupsOf are groups that are made anew, so that no book grows over all of a test.
var groupsOf = []func(t testing.TB) group{
	func(t testing.TB) group { return groupOf(t, 2) },
	func(t testing.TB) group { return groupOf(t, 3) },
	func(t testing.TB) group { return groupOf(t, 8) },
}

// R3: bytes that are handed in are not kept.
func TestBytesNotKept(t *testing.T) {
	g := groupOf(t, 2)
	p := behind(t, g, 1, "\x00\x01", "a value")
	p.waitsFor(read, 0, "")
	want := lookOf(t, p.c)
	b := []byte(p.c.Bytes())
	c, e := ustor.Read(g.ring, 1, unsafe.String(&b[0], len(b)))
	for i := range b {
		b[i] = 0x7f
	}
	if e != api.OK || lookOf(t, c) != want {
		t.Errorf("%+v, %d, and not %+v", lookOf(t, c), int(e), want)
	}
}

// P15.6: a value is read as it is, though nothing was done, and goes with the next Read.
func TestHeldByNothing(t *testing.T) {
	p := behind(t, groupOf(t, 2), 1, "", "held")
	if x := p.waitsFor(read, 0, "other"); x.Number != 1 || x.Value != "held" {
		t.Errorf("%+v", x)
	}
}
