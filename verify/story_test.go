package verify_test

import (
	"fmt"
	"math"
	"math/rand"
	"slices"
	"strings"
	"testing"

	"affidavit/api"
	"affidavit/regs"
)

// person is an honest client: its view, what its register holds, whether it has committed its view, and what it waits for.
type person struct {
	view, value string
	number      int // of its last operation that it asked for
	committed   bool
	waits       bool
	scene       scene
	truth       api.Got // what the reply should tell
}

// story is honest clients of honest registers.
type story struct {
	t      testing.TB
	g      group
	r      *regs.Regs
	people []person
	longBy int
	longV  string
	told   []scene // all that was answered
	full   bool
}

func begin(t testing.TB, clients int) *story {
	t.Helper()
	r, e := regs.New(clients)
	if e != api.OK {
		t.Fatalf("regs of %d: %d", clients, int(e))
	}
	people := make([]person, clients)
	for i := range people {
		people[i].committed = true
	}
	return &story{t: t, g: groupOf(t, clients), r: r, people: people, longBy: -1}
}

// moves has a client do what comes next: it asks, takes the reply, commits.
func (s *story) moves(c, kind, target int, value string) {
	s.t.Helper()
	p := &s.people[c]
	switch {
	case p.waits:
		s.takes(c)
	case !p.committed:
		s.commits(c)
	default:
		s.asks(c, kind, target, value)
	}
}

// asks has a client ask; the truth is what the registers have then.
func (s *story) asks(c, kind, target int, value string) {
	s.t.Helper()
	p := &s.people[c]
	if kind == read {
		value = p.value
	}
	n := p.number + 1
	x := api.Submit{Number: n, Kind: kind, Target: target, Value: value, Asked: s.g.asked(c, n, kind, target), Data: s.g.data(c, n, value)}
	truth := api.Got{View: s.r.Order() + by(c), By: s.longBy, Long: s.longV}
	if s.longV != "" {
		truth.LongTag = s.g.done(s.longBy, s.longV)
	}
	if held := s.people[target]; kind == read && held.number > 0 {
		truth.Number, truth.Value = held.number, held.value
		if view := s.r.View(target); view != "" {
			truth.Seen, truth.SeenTag = view, s.g.done(target, view)
		}
	}
	y, e := s.r.Submit(c, x)
	if e == api.ErrFull && len(s.r.Order()) == most {
		s.full = true
		return
	}
	if e != api.OK {
		s.t.Fatalf("%d's %d is not taken: %d", c, n, int(e))
	}
	p.number, p.value, p.waits, p.truth = n, value, true, truth
	p.scene = scene{group: s.g, me: c, view: p.view, x: x, y: y}
	s.told = append(s.told, p.scene)
}

// takes has a client take its reply, which it believes.
func (s *story) takes(c int) {
	s.t.Helper()
	p := &s.people[c]
	if y, e := s.r.Submit(c, p.scene.x); e != api.OK || fmt.Sprint(y) != fmt.Sprint(p.scene.y) {
		s.t.Fatalf("%s: asked again it is another one: %d", p.scene, int(e))
	}
	got, e := asks(s.t, p.scene)
	if e != api.OK || got != p.truth {
		s.t.Fatalf("%s:\n%+v, %d, and not\n%+v", p.scene, got, int(e), p.truth)
	}
	goesOn(s.t, p.scene, got)
	owned(s.t, p.scene, got)
	p.view, p.waits, p.committed = got.View, false, false
}

// commits has a client say what it has done.
func (s *story) commits(c int) {
	s.t.Helper()
	p := &s.people[c]
	if e := s.r.Commit(c, p.view, s.g.done(c, p.view)); e != api.OK {
		s.t.Fatalf("commit of %d, %s: %d", c, short(p.view), int(e))
	}
	if len(p.view) > len(s.longV) {
		s.longV, s.longBy = p.view, c
	}
	p.committed = true
}

// goesOn asks that what is believed goes on what was known (P14.4).
func goesOn(t testing.TB, s scene, got api.Got) {
	t.Helper()
	if !strings.HasPrefix(got.View, s.view) || !strings.HasSuffix(got.View, by(s.me)) || count(got.View, s.me) != count(s.view, s.me)+1 {
		t.Fatalf("%s: %s does not go on %s", s, short(got.View), short(s.view))
	}
	if !strings.HasPrefix(got.View, s.y.View) || !strings.HasPrefix(got.View, got.Seen) {
		t.Fatalf("%s: %s does not go on what was told", s, short(got.View))
	}
}

// owned asks that all of what is believed was tagged by whoever owns it (P14.6).
func owned(t testing.TB, s scene, got api.Got) {
	t.Helper()
	d := s.y.View
	if d != "" && !s.keys.Made(s.y.Last, domView, d) {
		t.Fatalf("%s: %d never had that view", s, s.y.Last)
	}
	for _, p := range s.y.Pending {
		d += by(p.Client)
		n := count(d, p.Client)
		if !s.keys.Made(p.Client, domAsked, askedText(p.Client, n, p.Kind, p.Target)) {
			t.Fatalf("%s: %d never asked for its %d", s, p.Client, n)
		}
		if n > 1 && !s.keys.Made(p.Client, domView, upto(d[:len(d)-1], p.Client)) {
			t.Fatalf("%s: %d never had a view like that", s, p.Client)
		}
	}
	if got.View != d+by(s.me) {
		t.Fatalf("%s: %s is not what was pending, and me", s, short(got.View))
	}
	if got.Number > 0 && !s.keys.Made(s.x.Target, domData, dataText(got.Number, got.Value)) {
		t.Fatalf("%s: %d never held %q", s, s.x.Target, got.Value)
	}
	if got.Number != 0 && got.Number != count(d, s.x.Target) {
		t.Fatalf("%s: a value of %d", s, got.Number)
	}
	if got.Seen != "" && !s.keys.Made(s.x.Target, domView, got.Seen) {
		t.Fatalf("%s: %d never had %s", s, s.x.Target, short(got.Seen))
	}
}

// P14.4, P14.5, P14.6: two and three clients, all orders in which they can move, however few have moved before.
func TestAllOrders(t *testing.T) {
	for _, c := range []struct{ clients, moves int }{{2, 11}, {3, 8}, {4, 6}} {
		orders := int(math.Pow(float64(c.clients), float64(c.moves)))
		for order := range orders {
			s := begin(t, c.clients)
			for i, rest := 0, order; i < c.moves; i, rest = i+1, rest/c.clients {
				who := rest % c.clients
				s.moves(who, 1+(order+i/2)%2, (order/7+i)%c.clients, fmt.Sprintf("%d", i))
			}
		}
	}
}

// P14.4, P14.5, P14.6: honest clients of honest registers, some of them slow, in orders by chance.
func TestHonest(t *testing.T) {
	for seed := range 60 {
		rnd := rand.New(rand.NewSource(int64(seed)))
		s := begin(t, 2+seed%7)
		tells(s, rnd, 60+rnd.Intn(120))
	}
}

// P14.4, P14.5, P14.6: up to the 512th operation, and all replies that are still on their way then.
func TestHonestToTheEnd(t *testing.T) {
	for seed, clients := range []int{2, 3, 8} {
		rnd := rand.New(rand.NewSource(int64(seed)))
		s := begin(t, clients)
		for !s.full {
			tells(s, rnd, 100)
		}
		for c := range clients {
			if s.people[c].waits {
				s.takes(c)
			}
		}
		longest := 0
		for _, p := range s.people {
			longest = max(longest, len(p.view))
		}
		if longest != most {
			t.Errorf("%d clients: the longest view has %d", clients, longest)
		}
	}
}

// tells has clients move by chance, some of them seldom.
func tells(s *story, rnd *rand.Rand, moves int) {
	s.t.Helper()
	slow := rnd.Intn(len(s.people))
	for range moves {
		c := rnd.Intn(len(s.people))
		if c == slow && rnd.Intn(6) > 0 {
			continue
		}
		s.moves(c, 1+rnd.Intn(2), rnd.Intn(len(s.people)), strings.Repeat("v", rnd.Intn(4))+fmt.Sprint(rnd.Intn(1000)))
	}
}

// rule is one thing that may be wrong.
type rule struct {
	wrong func() bool
	e     api.Errno
}

// owns tells whether a tag is a client's, by tagging anew.
func (s scene) owns(client, domain int, text string, tag api.Digest) bool {
	d, e := s.judge.Tag(client, domain, text)
	return e == api.OK && d == tag
}

func within(n, from, to int) bool { return from <= n && n <= to }

// right tells whether a history may be, for so many clients.
func right(d string, clients int) bool {
	return len(d) <= most && !slices.ContainsFunc([]byte(d), func(b byte) bool { return int(b) >= clients })
}

// isSubmit and isReply are the chapter of msg's words.
func isSubmit(x api.Submit) bool {
	return within(x.Number, 1, most) && within(x.Kind, write, read) && within(x.Target, 0, 7) && len(x.Value) <= maxValue
}

func isReply(y api.Reply) bool {
	for _, p := range y.Pending {
		if !within(p.Client, 0, 7) || !isSubmit(api.Submit{Number: p.Number, Kind: p.Kind, Target: p.Target}) {
			return false
		}
	}
	return within(y.Number, 1, most) && within(y.Last, -1, 7) && right(y.View, 8) && right(y.Seen, 8) && (y.View == "") == (y.Last == -1) &&
		len(y.Pending) <= maxWaits && within(y.ValueNumber, 0, most) && len(y.Value) <= maxValue
}

// rules are all that may be wrong with a scene, in the document's order.
func (s scene) rules() []rule {
	var l []rule
	say := func(e api.Errno, wrong func() bool) { l = append(l, rule{wrong, e}) }
	last, y, x := s.clients-1, s.y, s.x
	say(api.ErrArg, func() bool { return !within(s.me, 0, last) || !isSubmit(x) || !within(x.Target, 0, last) })
	say(api.ErrArg, func() bool { return !right(s.view, s.clients) || x.Number-1 != count(s.view, s.me) })
	say(api.ErrArg, func() bool { return !isReply(y) || x.Number != y.Number })
	if y.View != "" {
		say(api.ErrArg, func() bool { return !within(y.Last, 0, last) || !right(y.View, s.clients) })
		say(api.ErrFork, func() bool { return !strings.HasSuffix(y.View, by(y.Last)) })
		say(api.ErrTag, func() bool { return !s.owns(y.Last, domView, y.View, y.Commit) })
	}
	say(api.ErrFork, func() bool { return !strings.HasPrefix(y.View, s.view) })
	say(api.ErrFork, func() bool { return count(y.View, s.me) != x.Number-1 })
	for i, p := range y.Pending {
		d := scene{y: api.Reply{View: y.View, Pending: y.Pending[:i]}}.ahead()
		say(api.ErrFork, func() bool { return p.Client == s.me })
		l = append(l, s.stepRules(d, p)...)
	}
	d := s.ahead()
	say(api.ErrFull, func() bool { return len(d) >= most })
	if x.Kind == read {
		l = append(l, s.valueRules(d)...)
	}
	return l
}

// stepRules are all that may be wrong with one that is pending.
func (s scene) stepRules(d string, p api.Pending) []rule {
	x := api.Submit{Number: p.Number, Kind: p.Kind, Target: p.Target}
	last := s.clients - 1
	return []rule{
		{func() bool { return !within(p.Client, 0, last) || !within(p.Target, 0, last) || !isSubmit(x) }, api.ErrArg},
		{func() bool { return count(d, p.Client) != p.Number-1 }, api.ErrFork},
		{func() bool {
			return !s.owns(p.Client, domAsked, askedText(p.Client, p.Number, p.Kind, p.Target), p.Asked)
		}, api.ErrTag},
		{func() bool { return p.Number > 1 && !s.owns(p.Client, domView, upto(d, p.Client), p.Proof) }, api.ErrTag},
		{func() bool { return len(d) >= most }, api.ErrFull},
	}
}

// valueRules are all that may be wrong with what a Read is told.
func (s scene) valueRules(d string) []rule {
	y, t := s.y, s.x.Target
	n := y.ValueNumber
	return []rule{
		{func() bool { return n != count(d, t) }, api.ErrFork},
		{func() bool { return n == 0 && y.Value+y.Seen != "" }, api.ErrFork},
		{func() bool { return n > 0 && !s.owns(t, domData, dataText(n, y.Value), y.Data) }, api.ErrTag},
		{func() bool { return n > 1 && y.Seen == "" }, api.ErrFork},
		{func() bool {
			less := n - count(y.Seen, t)
			return y.Seen != "" && (!strings.HasSuffix(y.Seen, by(t)) || !strings.HasPrefix(d, y.Seen) || !within(less, 0, 1))
		}, api.ErrFork},
		{func() bool { return y.Seen != "" && !s.owns(t, domView, y.Seen, y.SeenTag) }, api.ErrTag},
	}
}

// judged is what the document says of a scene: the first of the rules that is broken, or what is told.
func (s scene) judged() (api.Got, api.Errno) {
	for _, r := range s.rules() {
		if r.wrong() {
			return api.Got{}, r.e
		}
	}
	return s.told(), api.OK
}

// liar changes scenes by chance, with pieces of others; one that has keys makes tags, too.
type liar struct {
	rnd  *rand.Rand
	pool []scene
	keys bool
}

func (l liar) other() scene { return l.pool[l.rnd.Intn(len(l.pool))] }

// number is one near another one, or at an edge.
func (l liar) number(n int) int {
	edges := []int{-2, -1, 0, 1, 2, 3, 5, 6, 7, 8, most - 1, most, most + 1, math.MinInt, math.MaxInt}
	switch l.rnd.Intn(4) {
	case 0:
		return edges[l.rnd.Intn(len(edges))]
	case 1:
		return n - 1
	case 2:
		return n + 1
	}
	return l.rnd.Intn(8)
}

// history is another one than d, or a part of it.
func (l liar) history(d string) string {
	o := l.other()
	switch l.rnd.Intn(7) {
	case 0:
		return ""
	case 1:
		return d[:l.rnd.Intn(len(d)+1)]
	case 2:
		return d + by(l.rnd.Intn(8))
	case 3:
		if d != "" {
			return put(d, l.rnd.Intn(len(d)), by(l.rnd.Intn(9)))
		}
	case 4:
		return o.y.View
	case 5:
		return o.y.Seen
	}
	return o.view
}

// tag is another one, from somewhere.
func (l liar) tag(d api.Digest) api.Digest {
	o := l.other()
	switch l.rnd.Intn(6) {
	case 0:
		return zero
	case 1:
		return turned(d, l.rnd.Intn(32), 1<<l.rnd.Intn(8))
	case 2:
		return o.y.Commit
	case 3:
		return o.y.SeenTag
	case 4:
		return o.y.Data
	}
	return o.x.Asked
}

// more has one more pending: the next one of a client that there is, or whatever another scene has.
func (l liar) more(s *scene) {
	if l.keys && l.rnd.Intn(2) == 0 {
		s.y.Pending = append(s.y.Pending, s.waits(s.ahead(), l.rnd.Intn(s.clients), write, 0))
	} else {
		s.y.Pending = append(s.y.Pending, l.other().y.Pending...)
	}
}

// liesPending changes one thing of what is pending.
func (l liar) liesPending(s *scene) {
	n := len(s.y.Pending)
	if n == 0 || l.rnd.Intn(4) == 0 {
		l.more(s)
		return
	}
	i, j := l.rnd.Intn(n), l.rnd.Intn(n)
	p := &s.y.Pending[i]
	switch l.rnd.Intn(10) {
	case 0:
		p.Client = l.number(p.Client)
	case 1:
		p.Number = l.number(p.Number)
	case 2:
		p.Kind = l.number(p.Kind)
	case 3:
		p.Target = l.number(p.Target)
	case 4:
		p.Asked = l.tag(p.Asked)
	case 5:
		p.Proof = l.tag(p.Proof)
	case 6:
		s.y.Pending = slices.Delete(s.y.Pending, i, i+1)
	case 7:
		s.y.Pending[i], s.y.Pending[j] = s.y.Pending[j], s.y.Pending[i]
	case 8:
		s.y.Pending = slices.Insert(s.y.Pending, i, s.y.Pending[j])
	case 9:
		s.y.Pending = s.y.Pending[:i]
	}
}

// lies changes one thing of what was answered.
func (l liar) lies(s *scene) {
	y, o := &s.y, l.other()
	switch l.rnd.Intn(14) {
	case 0:
		y.Number = l.number(y.Number)
	case 1:
		y.Last = l.number(y.Last)
	case 2:
		y.View = l.history(y.View)
	case 3:
		y.Commit = l.tag(y.Commit)
	case 4:
		y.ValueNumber = l.number(y.ValueNumber)
	case 5:
		y.Value = o.y.Value
	case 6:
		y.Data = l.tag(y.Data)
	case 7:
		y.Seen = l.history(y.Seen)
	case 8:
		y.SeenTag = l.tag(y.SeenTag)
	case 9:
		y.Last, y.View, y.Commit = o.y.Last, o.y.View, o.y.Commit
	case 10:
		y.ValueNumber, y.Value, y.Data = o.y.ValueNumber, o.y.Value, o.y.Data
	case 11:
		y.Seen, y.SeenTag = o.y.Seen, o.y.SeenTag
	default:
		l.liesPending(s)
	}
}

// mistakes changes one thing of what is asked.
func (l liar) mistakes(s *scene) {
	switch l.rnd.Intn(7) {
	case 0:
		s.me = l.number(s.me)
	case 1:
		s.view = l.history(s.view)
	case 2:
		s.x.Number = l.number(s.x.Number)
	case 3:
		s.x.Kind = l.number(s.x.Kind)
	case 4:
		s.x.Target = l.number(s.x.Target)
	case 5:
		s.x.Number, s.y.Number = count(s.view, s.me)+1, count(s.view, s.me)+1
	case 6:
		s.x.Value = strings.Repeat("v", maxValue+l.rnd.Intn(2))
	}
}

// tagsAnew has whoever is named tag what is told, so that what is wrong behind a tag is found, too.
func (s *scene) tagsAnew() {
	y := &s.y
	can := func(client int) bool { return within(client, 0, s.clients-1) }
	if y.View != "" && can(y.Last) {
		y.Commit = s.done(y.Last, y.View)
	}
	d := y.View
	for i := range y.Pending {
		if p := &y.Pending[i]; can(p.Client) {
			p.Asked, p.Proof = s.asked(p.Client, p.Number, p.Kind, p.Target), s.done(p.Client, upto(d, p.Client))
		}
		d += by(y.Pending[i].Client)
	}
	if can(s.x.Target) {
		y.Data, y.SeenTag = s.data(s.x.Target, y.ValueNumber, y.Value), s.done(s.x.Target, y.Seen)
	}
}

// P14.1, P14.2: scenes that are changed by chance, once and often, are judged as the document says.
func TestJudged(t *testing.T) {
	seen := map[api.Errno]int{}
	for seed := range 40 {
		rnd := rand.New(rand.NewSource(int64(1000 + seed)))
		s := begin(t, 2+seed%7)
		tells(s, rnd, 40+rnd.Intn(200))
		l := liar{rnd, append(slices.Clone(s.told), brimful(t), busy(t, 1), busy(t, 3)), true}
		for range 400 {
			lie := l.other().with()
			if rnd.Intn(4) == 0 {
				lie = l.pool[len(s.told)].with()
			}
			for range rnd.Intn(4) {
				if rnd.Intn(6) == 0 {
					l.mistakes(&lie)
				} else {
					l.lies(&lie)
				}
			}
			if rnd.Intn(2) == 0 {
				lie.tagsAnew()
			}
			got, e := asks(t, lie)
			if want, right := lie.judged(); got != want || e != right {
				t.Fatalf("%s:\n%+v, %d, and not\n%+v, %d", lie, got, int(e), want, int(right))
			}
			seen[e]++
		}
	}
	for _, e := range []api.Errno{api.OK, api.ErrArg, api.ErrTag, api.ErrFork, api.ErrFull} {
		if seen[e] < 20 {
			t.Errorf("%d was answered %d times only", int(e), seen[e])
		}
	}
}

// P14.3: so are steps.
func TestStepJudged(t *testing.T) {
	for seed := range 20 {
		rnd := rand.New(rand.NewSource(int64(2000 + seed)))
		s := begin(t, 2+seed%7)
		tells(s, rnd, 150)
		l := liar{rnd, append(slices.Clone(s.told), brimful(t)), true}
		for range 300 {
			lie := l.other().with()
			if len(lie.y.Pending) == 0 {
				continue
			}
			for range rnd.Intn(3) {
				l.liesPending(&lie)
			}
			if rnd.Intn(2) == 0 {
				lie.tagsAnew()
			}
			d := lie.y.View
			for _, p := range lie.y.Pending {
				want, e := d+by(p.Client), api.OK
				for _, r := range lie.stepRules(d, p) {
					if r.wrong() {
						want, e = "", r.e
						break
					}
				}
				steps(t, lie.group, d, p, want, e)
				d += by(p.Client)
			}
		}
	}
}

// P14.4, P14.6: a server that has no key puts together what clients once said: what is believed of it goes on, and everything in it is its owner's.
func TestLiars(t *testing.T) {
	believed, doubted := 0, 0
	for seed := range 60 {
		rnd := rand.New(rand.NewSource(int64(3000 + seed)))
		s := begin(t, 2+seed%4)
		tells(s, rnd, 30+rnd.Intn(60))
		l := liar{rnd, s.told, false}
		for range 300 {
			lie := l.other().with()
			for range 1 + rnd.Intn(3) {
				l.lies(&lie)
			}
			lie.y.Number = lie.x.Number
			got, e := asks(t, lie)
			if e != api.OK {
				doubted++
				continue
			}
			believed++
			goesOn(t, lie, got)
			owned(t, lie, got)
		}
	}
	if believed < 500 || doubted < 500 {
		t.Errorf("%d believed, %d doubted", believed, doubted)
	}
}

// P14.2: a server that forks: whoever has done something on one side believes nothing of the other one, once that has gone on.
func TestForkedServers(t *testing.T) {
	for seed := range 20 {
		g := groupOf(t, 4)
		var sides [2]*story
		for i := range sides {
			sides[i] = begin(t, 4)
			sides[i].g = g
			tells(sides[i], rand.New(rand.NewSource(int64(seed))), 80)
			// From here on 0 and 1 are served by one, 2 and 3 by the other.
			for c := range 4 {
				for sides[i].people[c].waits || !sides[i].people[c].committed {
					sides[i].moves(c, write, c, "")
				}
			}
			for range 6 {
				sides[i].moves(2*i, write, 2*i, "apart")
				sides[i].moves(2*i+1, read, 2*i, "")
			}
		}
		for i, side := range sides {
			other := sides[1-i]
			for _, c := range []int{2 * i, 2*i + 1} {
				p := side.people[c]
				for _, kind := range []int{write, read} {
					// What the other side answers its own clients last, as an answer to me.
					asker := 2 * (1 - i)
					y := other.people[asker].scene.y
					lie := scene{group: g, me: c, view: p.view, x: g.submit(c, p.view, kind, asker), y: y}
					lie.y.Number = lie.x.Number
					doubts(t, lie, api.ErrFork)
				}
			}
		}
	}
}
