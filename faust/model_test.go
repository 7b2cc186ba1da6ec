package faust_test

import (
	"cmp"
	"fmt"
	"slices"

	"affidavit/api"
	"affidavit/msg"
	"affidavit/verify"
)

// told is a view that came from a client, committed by whoever it ends with.
type told struct {
	from int
	view string
}

// model is the second set of rules: what a watcher of me's has to be, and to answer. It has all views that it was told, and tells everything from them anew.
type model struct {
	group
	me                   int
	view, value          string
	waits, dummy, halted bool
	x                    api.Submit // what is waited for
	told                 []told
	now, readDue, reads  int
	due                  [8]int
}

// begins is one that has done nothing.
func begins(g group, me int) model {
	m := model{group: g, me: me}
	m.startsProber()
	return m
}

func (m *model) startsProber() {
	m.now, m.readDue, m.reads = 0, idle, 0
	for client := range m.due {
		m.due[client] = every
	}
}

// longest is the longest view that it was told.
func (m *model) longest() string {
	view := ""
	for _, x := range m.told {
		if len(x.view) > len(view) {
			view = x.view
		}
	}
	return view
}

// word is the longest view that came from a client; own the longest one that it committed, too.
func (m *model) word(client int) (word, own string) {
	for _, x := range m.told {
		if x.from != client {
			continue
		}
		if len(x.view) > len(word) {
			word = x.view
		}
		if len(x.view) > len(own) && last(x.view) == client {
			own = x.view
		}
	}
	return word, own
}

// learns is layer 16's Learn.
func (m *model) learns(from, by int, view string) api.Errno {
	if by >= m.clients || view == "" || !right(view, m.clients) || last(view) != by {
		return api.ErrArg
	}
	for _, x := range m.told {
		if !fit(x.view, view) {
			return api.ErrFork
		}
	}
	if x := (told{from, view}); !slices.Contains(m.told, x) {
		m.told = append(m.told, x)
	}
	return api.OK
}

// toServer is what goes to the server.
func toServer(m api.Msg) api.Send { return api.Send{To: -1, M: m} }

// waitsFor is the message of what is waited for.
func (m *model) waitsFor() api.Msg { return api.Msg{Kind: isSubmit, Client: m.me, Submit: m.x} }

// ask is what P18.2 says.
func (m *model) ask(kind, target int, value string) ([]api.Send, api.Errno) {
	switch {
	case m.halted:
		return nil, api.ErrHalt
	case m.waits:
		return nil, api.ErrBusy
	case kind != write && kind != read, target < 0, target >= m.clients, kind == write && target != m.me, len(value) > maxValue:
		return nil, api.ErrArg
	case len(m.view) == most:
		return nil, api.ErrFull
	}
	if kind == write {
		m.value = value
	}
	m.waits, m.dummy, m.x = true, false, m.submit(m.me, count(m.view, m.me)+1, kind, target, m.value)
	m.readDue = m.now + idle
	return []api.Send{toServer(m.waitsFor())}, api.OK
}

// again is what P18.2 says.
func (m *model) again() []api.Send {
	var l []api.Send
	if m.view != "" && !m.halted {
		l = append(l, toServer(m.ofCommit(m.me, m.view)))
	}
	if m.waits && !m.halted {
		l = append(l, toServer(m.waitsFor()))
	}
	return l
}

// gives is what P18.5 says of the alarm.
func (m *model) gives() []api.Send {
	if m.halted {
		return nil
	}
	m.halted = true
	var l []api.Send
	for _, client := range others(m.clients, m.me) {
		l = append(l, api.Send{To: client, M: m.ofAlarm(m.me)})
	}
	return l
}

// server is what P18.3 says; layer 14 says what is believed.
func (m *model) server(y api.Msg) (api.Got, []api.Send, api.Errno) {
	if m.halted {
		return api.Got{}, nil, api.ErrHalt
	}
	if _, e := msg.Put(y); e != api.OK || y.Kind != isReply {
		return api.Got{}, nil, api.ErrArg
	}
	if !m.waits || y.Reply.Number != m.x.Number {
		return api.Got{}, nil, api.ErrNone
	}
	got, e := verify.Check(m.keys, m.me, m.view, m.x, y.Reply)
	if e != api.OK {
		return api.Got{}, m.gives(), e
	}
	m.view, m.waits, m.dummy = got.View, false, false
	for _, x := range []told{{m.me, got.View}, {got.By, got.Long}, {m.x.Target, got.Seen}} {
		if x.view == "" {
			continue
		}
		if e := m.learns(x.from, x.from, x.view); e != api.OK {
			return api.Got{}, m.gives(), e
		}
	}
	return got, []api.Send{toServer(m.ofCommit(m.me, m.view))}, api.OK
}

// offline is what P18.4 says.
func (m *model) offline(y api.Msg) ([]api.Send, api.Errno) {
	_, e := msg.Put(y)
	isOne := y.Kind == isProbe || y.Kind == isVersion || y.Kind == isAlarm
	if e != api.OK || !isOne || y.Client == m.me || y.Client >= m.clients {
		return nil, api.ErrArg
	}
	if m.halted {
		if y.Kind == isProbe {
			return []api.Send{{To: y.Client, M: m.ofAlarm(m.me)}}, api.OK
		}
		return nil, api.ErrHalt
	}
	switch y.Kind {
	case isProbe:
		return m.tells(y.Client), api.OK
	case isVersion:
		return m.hears(y)
	}
	if y.Own != m.alarm(y.Client) {
		return nil, api.ErrTag
	}
	return m.gives(), api.ErrHalt
}

// tells is what me tells a client.
func (m *model) tells(client int) []api.Send {
	var l []api.Send
	if m.view != "" {
		l = append(l, api.Send{To: client, M: m.ofVersion(m.me, m.view)})
	}
	if long := m.longest(); long != "" && long != m.view {
		l = append(l, api.Send{To: client, M: m.ofVersion(m.me, long)})
	}
	return l
}

// hears takes a view.
func (m *model) hears(y api.Msg) ([]api.Send, api.Errno) {
	if y.By >= m.clients || y.Own != m.version(y.Client, y.By, y.View) || y.Tag != m.done(y.By, y.View) {
		return nil, api.ErrTag
	}
	switch e := m.learns(y.Client, y.By, y.View); e {
	case api.ErrFork:
		return m.gives(), e
	case api.OK:
		m.due[y.Client] = m.now + every
		return nil, e
	default:
		return nil, e
	}
}

// tick is what P18.5 says.
func (m *model) tick(busy bool) []api.Send {
	m.now++
	asked := slices.DeleteFunc(others(m.clients, m.me), func(client int) bool { return m.due[client] > m.now })
	slices.SortFunc(asked, func(a, b int) int { return cmp.Or(m.due[a]-m.due[b], a-b) })
	var l []api.Send
	for _, client := range asked {
		m.due[client] = m.now + every
		if m.halted {
			l = append(l, api.Send{To: client, M: m.ofAlarm(m.me)})
		} else {
			l = append(l, api.Send{To: client, M: ofProbe(m.me)})
		}
	}
	if busy || m.waits || m.halted || m.now < m.readDue {
		return l
	}
	target := (m.me + 1 + m.reads%(m.clients-1)) % m.clients
	m.reads++
	m.readDue = m.now + idle
	ask, e := m.ask(read, target, "")
	m.dummy = e == api.OK
	return append(l, ask...)
}

// laid is a text as layer 1 lays it.
func laid(s string) string { return fmt.Sprintf("%d:%s", len(s), s) }

// bit is 1 for true.
func bit(is bool) int {
	if is {
		return 1
	}
	return 0
}

// regBytes are ustor's.
func (m *model) regBytes() string {
	s := laid(m.view) + laid(m.value)
	if !m.waits {
		return s + "0;"
	}
	return s + fmt.Sprintf("1;%d;%d;%d;", m.x.Number, m.x.Kind, m.x.Target) + laid(m.x.Value)
}

// bytes is what P18.7 says.
func (m *model) bytes() string {
	s := fmt.Sprintf("%d;%d;", bit(m.halted), bit(m.dummy))
	if long := m.longest(); long != "" && !m.halted {
		d := m.done(last(long), long)
		return s + laid(long) + fmt.Sprintf("%d;", last(long)) + laid(string(d[:])) + m.regBytes()
	}
	return s + "0:-1;0:" + m.regBytes()
}

// forgets is what is left of it, once it is laid and read.
func (m *model) forgets() {
	long := m.longest()
	m.told = nil
	if m.view != "" {
		m.told = append(m.told, told{m.me, m.view})
	}
	if long != "" && !m.halted {
		m.told = append(m.told, told{last(long), long})
	}
	m.startsProber()
}

// look is all that can be seen of a watcher.
type look struct {
	halted, dummy, busy     bool
	bytes, reg, view, value string
	words, owns             [8]string
	stable                  [8]int
	number, cut, seen       int
	longest                 string
	by                      int
	tag                     api.Digest
}

// look is what is to be seen of a watcher.
func (m *model) look() look {
	l := look{halted: m.halted, dummy: m.dummy, busy: m.waits, bytes: m.bytes(), reg: m.regBytes(), view: m.view, value: m.value}
	l.number, l.cut, l.seen = count(m.view, m.me), most, most
	for client := range m.clients {
		l.words[client], l.owns[client] = m.word(client)
		l.stable[client] = count(l.words[client], m.me)
		l.cut = min(l.cut, l.stable[client])
		if client != m.me {
			l.seen = min(l.seen, count(l.owns[client], m.me))
		}
	}
	l.longest, l.by = m.longest(), -1
	if l.longest != "" {
		l.by = last(l.longest)
		l.tag = m.done(l.by, l.longest)
	}
	return l
}
