package faust_test

import (
	"math/rand"
	"testing"

	"affidavit/api"
)

// deed is something that may be done with a watcher, whatever it is in the midst of.
type deed func(p *pair)

// one is a client beside me.
func (p *pair) one() int { return (p.me + 1) % p.clients }

// answers makes the deed of a reply to what is waited for, if anything is: the truth behind a view, perhaps with another one's operation that is pending, that somebody may turn.
func answers(view func(p *pair) string, pending bool, turn func(y *api.Reply)) deed {
	return func(p *pair) {
		if !p.waits {
			p.takes(ofReply(api.Reply{Number: 1, Last: -1}))
			return
		}
		y := p.truth(view(p))
		if pending {
			y = p.truth(view(p), p.one())
		}
		turn(&y)
		p.takes(ofReply(y))
	}
}

// deeds are all that there are; the first ones fit together, and of the last ones most give the alarm.
func deeds() (l []deed, fit int) {
	asIs := func(*api.Reply) {}
	longest := func(p *pair) string { return p.longest() }
	longer := func(p *pair) string { return p.longest() + by(p.one()) }
	mine := func(p *pair) string { return p.view }
	l = []deed{
		func(p *pair) { p.asks(write, p.me, "v") },
		func(p *pair) { p.asks(read, p.one(), "") },
		answers(longest, false, asIs),
		answers(longer, false, asIs),
		answers(longest, true, asIs),
		func(p *pair) { p.opens(ofProbe(p.one())) },
		func(p *pair) { p.opens(p.ofVersion(p.one(), p.longest()+by(p.one()))) },
		func(p *pair) { p.opens(api.Msg{Kind: isAlarm, Client: p.one()}) },
		func(p *pair) { p.passes(1, false) },
		func(p *pair) { p.passes(every, true) },
		func(p *pair) { p.passes(idle, false) },
		func(p *pair) { p.crashes() },
		func(p *pair) { p.repeats() },
	}
	fit = len(l)
	return append(l,
		answers(mine, false, asIs),
		answers(longest, true, func(y *api.Reply) { y.Pending[0].Asked[3]++ }),
		func(p *pair) { p.opens(p.ofVersion(p.one(), by(p.one()))) },
		func(p *pair) { p.opens(p.ofVersion(p.one(), p.view+by(p.one())+by(p.one()))) },
		func(p *pair) { p.opens(p.group.ofAlarm(p.one())) },
		func(p *pair) { p.alarms() },
	), fit
}

// row is so many deeds, by its number, behind others; and what comes of them.
func row(t *testing.T, g group, me int, first []int, n, steps int) {
	t.Helper()
	l, _ := deeds()
	p := begin(t, g, me)
	for _, i := range first {
		l[i](p)
	}
	for range steps {
		l[n%len(l)](p)
		n /= len(l)
	}
	p.passes(idle, false)
}

// P18.2 to P18.7: all rows of a few deeds, from several beginnings, by each me.
func TestAllRows(t *testing.T) {
	l, _ := deeds()
	count := len(l)
	for me := range 2 {
		g := groupOf(t, 2)
		for n := range count * count {
			for _, first := range [][]int{{}, {0}, {0, 2}, {0, 3, 1}, {6, 1}, {6, 10}, {0, 4, 10}} {
				row(t, g, me, first, n, 2)
			}
		}
	}
	g := groupOf(t, 2)
	for n := range count * count * count {
		row(t, g, n%2, nil, n, 3)
		row(t, g, n%2, []int{0, 2}, n, 3)
	}
}

// P18.2 to P18.7: long rows at random, of all sizes of groups; what may give the alarm is seldom among the deeds.
func TestLongRows(t *testing.T) {
	l, fit := deeds()
	done, halts := 0, 0
	for seed := range 150 {
		rnd := rand.New(rand.NewSource(int64(seed)))
		clients := 2 + seed%7
		p := begin(t, groupOf(t, clients), rnd.Intn(clients))
		for left := 150; left > 0; left-- {
			if rnd.Intn(60) == 0 {
				l[fit+rnd.Intn(len(l)-fit)](p)
			} else {
				l[rnd.Intn(fit)](p)
			}
			// Behind the alarm not much is left to see.
			if p.w.Halted() {
				left -= 7
			}
		}
		done += p.w.Reg().Number()
		halts += bit(p.w.Halted())
	}
	if done < 1000 || halts < 50 || halts > 140 {
		t.Errorf("%d operations, %d alarms", done, halts)
	}
}
