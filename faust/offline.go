package faust

import (
	"affidavit/api"
	"affidavit/msg"
)

// version is a view, who has committed it, and that one's tag of it.
type version struct {
	by   int
	view string
	tag  api.Digest
}

// taker takes a message that may be, from another client; what it sends goes to that one, or to all others.
type taker func(m api.Msg) ([]api.Send, api.Errno)

// Offline takes what another client tells.
func (w *Watcher) Offline(m api.Msg) ([]api.Send, api.Errno) {
	if !w.made() {
		return nil, api.ErrNil
	}
	take := w.takerOf(m.Kind)
	if take == nil || !mayBe(m) || m.Client == w.me || m.Client >= w.ring.Clients() {
		return nil, api.ErrArg
	}
	if w.halted {
		take = w.takeHalted
	}
	return take(m)
}

// takerOf is what a kind of messages is taken by; none takes those that clients do not tell each other.
func (w *Watcher) takerOf(kind int) taker {
	switch kind {
	case api.MProbe:
		return w.takeProbe
	case api.MVersion:
		return w.takeVersion
	case api.MAlarm:
		return w.takeAlarm
	}
	return nil
}

// takeHalted takes any message, when the alarm was given: whoever asks is told so.
func (w *Watcher) takeHalted(m api.Msg) ([]api.Send, api.Errno) {
	if m.Kind != api.MProbe {
		return nil, api.ErrHalt
	}
	send := senderTo(m.Client)
	return send(w.alarm()), api.OK
}

// takeProbe tells what me tells.
func (w *Watcher) takeProbe(m api.Msg) ([]api.Send, api.Errno) {
	send := senderTo(m.Client)
	return send(w.tells()...), api.OK
}

// takeVersion learns a view.
func (w *Watcher) takeVersion(m api.Msg) ([]api.Send, api.Errno) {
	own := w.ring.Check(m.Client, api.DVersion, msg.Version(m.By, m.View), m.Own)
	if !own || !w.ring.Check(m.By, api.DCommit, m.View, m.Tag) {
		return nil, api.ErrTag
	}
	switch e := w.known.Learn(m.Client, m.By, m.View, m.Tag); e {
	case api.OK:
		w.prober.Heard(m.Client)
		return nil, api.OK
	case api.ErrFork:
		return w.Alarm(), e
	default:
		return nil, e
	}
}

// takeAlarm joins in another one's alarm.
func (w *Watcher) takeAlarm(m api.Msg) ([]api.Send, api.Errno) {
	if !w.ring.Check(m.Client, api.DAlarm, "", m.Own) {
		return nil, api.ErrTag
	}
	return w.Alarm(), api.ErrHalt
}

// tells is what me tells another client: the view that it has committed, and the longest one that is known.
func (w *Watcher) tells() []api.Msg {
	var l []api.Msg
	own := w.own()
	if own.view != "" {
		l = append(l, w.told(own))
	}
	// Of one that has done nothing, and knows nothing, both are empty.
	if view, by, tag := w.known.Longest(); view != own.view {
		l = append(l, w.told(version{by, view, tag}))
	}
	return l
}

// told is the message that tells a view.
func (w *Watcher) told(v version) api.Msg {
	own := w.tag(api.DVersion, msg.Version(v.by, v.view))
	return api.Msg{Kind: api.MVersion, Client: w.me, By: v.by, View: v.view, Tag: v.tag, Own: own}
}
