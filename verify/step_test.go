package verify_test

import (
	"math"
	"strings"
	"testing"

	"affidavit/api"
	"affidavit/verify"
)

// steps asks Step, twice, for a history or an error, and that the ring's book stays as it is.
func steps(t testing.TB, g group, d string, p api.Pending, want string, e api.Errno) {
	t.Helper()
	for range 2 {
		tagged := g.ring.Len()
		if got, is := verify.Step(g.ring, d, p); got != want || is != e {
			t.Fatalf("Step of %s, %d's %d, kind %d, target %d: %s, %d, and not %s, %d", short(d), p.Client, p.Number, p.Kind, p.Target, short(got), int(is), short(want), int(e))
		}
		if g.ring.Len() != tagged {
			t.Fatalf("the ring has %d in its book, and not %d", g.ring.Len(), tagged)
		}
	}
}

// P14.3: each client that there is, a first operation and later ones, of both kinds, with each target.
func TestStep(t *testing.T) {
	for _, clients := range []int{2, 3, 8} {
		g := groupOf(t, clients)
		for client := range clients {
			for target := range clients {
				for _, kind := range []int{write, read} {
					for _, d := range []string{"", by(client), by(target), "\x00\x01", "\x01\x00\x01\x01", by(client) + by(target) + by(client) + "\x01"} {
						steps(t, g, d, g.waits(d, client, kind, target), d+by(client), api.OK)
					}
				}
			}
		}
	}
}

// P14.3: clients and targets that there are not, though they may be for 8.
func TestStepOfNobody(t *testing.T) {
	for _, clients := range []int{2, 3, 7, 8} {
		g := groupOf(t, clients)
		for _, d := range []string{"", "\x00\x01"} {
			for _, nobody := range nobodies(clients) {
				p := g.waits(d, 1, write, 1)
				p.Client = nobody
				steps(t, g, d, p, "", api.ErrArg)
				p = g.waits(d, 1, read, 0)
				p.Target = nobody
				steps(t, g, d, p, "", api.ErrArg)
			}
		}
	}
}

// P14.3: numbers and kinds that may not be.
func TestStepMayBe(t *testing.T) {
	g := groupOf(t, 3)
	for _, d := range []string{"", "\x01", strings.Repeat("\x01", most), strings.Repeat("\x01", most+1)} {
		for _, number := range []int{0, -1, most + 1, most + 2, math.MinInt, math.MaxInt, 1<<32 + 1, 1 << 32} {
			p := g.waits("", 1, write, 1)
			p.Number = number
			steps(t, g, d, p, "", api.ErrArg)
		}
		for _, kind := range []int{0, -1, 3, 4, math.MinInt, math.MaxInt, 1<<32 + 1} {
			p := g.waits("", 1, write, 1)
			p.Kind = kind
			steps(t, g, d, p, "", api.ErrArg)
		}
	}
}

// P14.3: a number that is not the client's next one, tagged or not.
func TestStepNumber(t *testing.T) {
	g := groupOf(t, 3)
	for _, d := range []string{"", "\x00", "\x01", "\x01\x01\x00", "\x01\x00\x01\x02\x01"} {
		right := count(d, 1) + 1
		for _, number := range []int{1, 2, 3, 4, 5, most - 1, most} {
			p := g.waits(d, 1, read, 2)
			p.Number, p.Asked = number, g.asked(1, number, read, 2)
			if number == right {
				steps(t, g, d, p, d+"\x01", api.OK)
				continue
			}
			steps(t, g, d, p, "", api.ErrFork)
			p.Asked, p.Proof = zero, zero
			steps(t, g, d, p, "", api.ErrFork)
		}
	}
}

// P14.3: Asked is the client's tag of just this operation.
func TestStepAsked(t *testing.T) {
	g := groupOf(t, 4)
	for _, d := range []string{"", "\x01\x02\x01"} {
		p := g.waits(d, 1, read, 2)
		n := p.Number
		steps(t, g, d, p, d+"\x01", api.OK)
		for place := range p.Asked {
			for _, bits := range []byte{1, 0x80, 0xff} {
				lie := p
				lie.Asked = turned(p.Asked, place, bits)
				steps(t, g, d, lie, "", api.ErrTag)
			}
		}
		for what, tag := range map[string]api.Digest{
			"none":              zero,
			"another number's":  g.asked(1, n+1, read, 2),
			"another kind's":    g.asked(1, n, write, 2),
			"another target's":  g.asked(1, n, read, 3),
			"another client's":  g.asked(2, n, read, 2),
			"another's by 1":    g.tag(1, domAsked, askedText(2, n, read, 2)),
			"1's by another":    g.tag(2, domAsked, askedText(1, n, read, 2)),
			"another domain's":  g.tag(1, domData, askedText(1, n, read, 2)),
			"another domain's2": g.tag(1, domView, askedText(1, n, read, 2)),
			"Proof":             p.Proof,
		} {
			lie := p
			lie.Asked = tag
			if d2, e := verify.Step(g.ring, d, lie); d2 != "" || e != api.ErrTag {
				t.Errorf("%s: %q, %d", what, d2, int(e))
			}
		}
	}
}

// P14.3: Proof is the client's tag of the history up to its last operation.
func TestStepProof(t *testing.T) {
	g := groupOf(t, 4)
	d := "\x00\x01\x02\x01\x03\x02"
	p := g.waits(d, 1, write, 1)
	if p.Proof != g.tag(1, domView, "\x00\x01\x02\x01") {
		t.Fatal("the test's Proof is wrong")
	}
	steps(t, g, d, p, d+"\x01", api.OK)
	for place := range p.Proof {
		for _, bits := range []byte{1, 0x80, 0xff} {
			lie := p
			lie.Proof = turned(p.Proof, place, bits)
			steps(t, g, d, lie, "", api.ErrTag)
		}
	}
	for what, tag := range map[string]api.Digest{
		"missing":           zero,
		"old":               g.done(1, "\x00\x01"),
		"of all":            g.done(1, d),
		"of one more":       g.done(1, d[:5]),
		"of one less":       g.done(1, d[:3]),
		"of nothing":        g.done(1, ""),
		"of another story":  g.done(1, "\x01\x00\x02\x01"),
		"another's":         g.done(2, "\x00\x01\x02\x01"),
		"another's own":     g.done(2, d),
		"another domain's":  g.tag(1, domAsked, "\x00\x01\x02\x01"),
		"another domain's2": g.tag(1, api.DVersion, "\x00\x01\x02\x01"),
		"Asked":             p.Asked,
	} {
		lie := p
		lie.Proof = tag
		if got, e := verify.Step(g.ring, d, lie); got != "" || e != api.ErrTag {
			t.Errorf("%s: %q, %d", what, got, int(e))
		}
	}
}

// P14.3: of a first operation Proof plays no part.
func TestStepProofOfTheFirst(t *testing.T) {
	g := groupOf(t, 4)
	for _, d := range []string{"", "\x00", "\x00\x02\x03"} {
		p := g.waits(d, 1, write, 1)
		for _, proof := range []api.Digest{zero, {1}, {31: 0xff}, g.done(1, ""), g.done(1, d), p.Asked, g.done(0, "\x00")} {
			p.Proof = proof
			steps(t, g, d, p, d+"\x01", api.OK)
		}
	}
	// A second one without a Proof is none, though 0 is what a first one has.
	p := g.waits("\x01", 1, write, 1)
	p.Proof = zero
	steps(t, g, "\x01", p, "", api.ErrTag)
}

// P14.3: histories of 510, 511 and 512 operations, and more.
func TestStepFull(t *testing.T) {
	g := groupOf(t, 3)
	for _, size := range []int{most - 2, most - 1, most, most + 1, most + 88, 16000} {
		for _, first := range []string{strings.Repeat("\x00", size), "\x02\x01" + strings.Repeat("\x00", size-2), strings.Repeat("\x00", size-1) + "\x01"} {
			for _, client := range []int{1, 2} {
				p := g.waits(first, client, read, 0)
				if size >= most {
					steps(t, g, first, p, "", api.ErrFull)
				} else {
					steps(t, g, first, p, first+by(client), api.OK)
				}
			}
		}
	}
	// The 512th of one client alone.
	d := strings.Repeat("\x02", most-1)
	steps(t, g, d, g.waits(d, 2, write, 2), d+"\x02", api.OK)
	p := g.waits(d, 2, write, 2)
	steps(t, g, d+"\x00", p, "", api.ErrFull)
	steps(t, g, d+"\x02", p, "", api.ErrFork)
	// Nobody tags a text of more than 16384 bytes.
	d = "\x00" + strings.Repeat("\x01", 1<<14) + "\x00"
	p = g.waits("\x00\x00", 0, write, 0)
	steps(t, g, d, p, "", api.ErrTag)
	steps(t, g, d, g.waits("", 2, write, 0), "", api.ErrFull)
}

// P14.3: a history is taken as it is: who else is in it plays no part.
func TestStepOfAnyHistory(t *testing.T) {
	g := groupOf(t, 2)
	for _, d := range []string{"\x07", "\xff\x00", "é\x01"} {
		for client := range 2 {
			steps(t, g, d, g.waits(d, client, write, client), d+by(client), api.OK)
		}
	}
}

// P14.3: of several errors the first one, in the order of the promise.
func TestStepOrder(t *testing.T) {
	g := groupOf(t, 3)
	full := "\x01" + strings.Repeat("\x00", most-1)
	faults := []struct {
		what   string
		change func(p *api.Pending)
		e      api.Errno
	}{
		{"Client", func(p *api.Pending) { p.Client = 3 }, api.ErrArg},
		{"Target", func(p *api.Pending) { p.Target = 3 }, api.ErrArg},
		{"Kind", func(p *api.Pending) { p.Kind = 3 }, api.ErrArg},
		{"no Number", func(p *api.Pending) { p.Number = most + 1 }, api.ErrArg},
		{"Number", func(p *api.Pending) { p.Number = 3 }, api.ErrFork},
		{"Asked", func(p *api.Pending) { p.Asked = api.Digest{1} }, api.ErrTag},
		{"Proof", func(p *api.Pending) { p.Proof = api.Digest{2} }, api.ErrTag},
		{"full", func(p *api.Pending) {}, api.ErrFull},
	}
	for i, first := range faults {
		for _, later := range faults[i:] {
			p := g.waits(full, 1, write, 1)
			later.change(&p)
			first.change(&p)
			if got, e := verify.Step(g.ring, full, p); got != "" || e != first.e {
				t.Errorf("%s and %s: %s, %d, and not %d", first.what, later.what, short(got), int(e), int(first.e))
			}
		}
	}
	short := full[:most-1]
	for _, f := range faults[:len(faults)-1] {
		p := g.waits(short, 1, write, 1)
		f.change(&p)
		steps(t, g, short, p, "", f.e)
	}
	steps(t, g, short, g.waits(short, 1, write, 1), short+"\x01", api.OK)
}
