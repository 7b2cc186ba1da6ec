package msg

import (
	"strings"

	"affidavit/api"
	"affidavit/lay"
	"affidavit/mac"
)

// field is what can be done with one field of a message: the functions are made for that message, and know where the field stands.
type field struct {
	lay   func() string
	read  func(s string, at int) (int, api.Errno)
	empty func()
}

// fieldOf makes a field of any type, lists of all sorts too, by functions that lay and read such a thing.
func fieldOf[T any](x *T, layOne func(T) string, readOne func(s string, at int) (T, int, api.Errno)) field {
	return field{
		lay: func() string { return layOne(*x) },
		read: func(s string, at int) (int, api.Errno) {
			one, next, e := readOne(s, at)
			*x = one
			return next, e
		},
		empty: func() {
			var nothing T
			*x = nothing
		},
	}
}

func number(n *int) field { return fieldOf(n, lay.Number, lay.ReadNumber) }

func text(s *string) field { return fieldOf(s, layText, lay.ReadText) }

func digest(d *api.Digest) field { return fieldOf(d, layDigest, readDigest) }

func numbers(l *[]int) field { return fieldOf(l, layNumbers, lay.ReadNumbers) }

func pending(l *[]api.Pending) field { return fieldOf(l, layPending, readPending) }

// fieldsOf tells the fields that a message's kind has, in the order of their bytes; of a kind that is none there are none. It is the one place that says which field belongs where, for whoever lays, reads or empties them.
func fieldsOf(m *api.Msg) []field {
	client := number(&m.Client)
	switch m.Kind {
	case api.MSubmit:
		x := &m.Submit
		return []field{client, number(&x.Number), number(&x.Kind), number(&x.Target), text(&x.Value), digest(&x.Asked), digest(&x.Data)}
	case api.MReply:
		return replyFields(&m.Reply)
	case api.MCommit:
		return []field{client, text(&m.View), digest(&m.Tag)}
	case api.MPut, api.MBlob:
		b := &m.Blob
		return []field{number(&b.Owner), number(&b.Number), text(&b.Cipher), digest(&b.Tag)}
	case api.MGet, api.MNone, api.MPrune:
		return []field{client, numbers(&m.Numbers)}
	case api.MProbe:
		return []field{client}
	case api.MVersion:
		return []field{client, number(&m.By), text(&m.View), digest(&m.Tag), digest(&m.Own)}
	case api.MAlarm:
		return []field{client, digest(&m.Own)}
	}
	return nil
}

func replyFields(r *api.Reply) []field {
	return []field{
		number(&r.Number), number(&r.Last), text(&r.View), digest(&r.Commit), pending(&r.Pending),
		number(&r.ValueNumber), text(&r.Value), digest(&r.Data), text(&r.Seen), digest(&r.SeenTag),
	}
}

func pendingFields(p *api.Pending) []field {
	return []field{number(&p.Client), number(&p.Number), number(&p.Kind), number(&p.Target), digest(&p.Asked), digest(&p.Proof)}
}

// layAll lays fields one behind the other.
func layAll(l []field) string {
	var b strings.Builder
	for _, f := range l {
		b.WriteString(f.lay())
	}
	return b.String()
}

// readAll reads fields one behind the other, up to the first one's error.
func readAll(l []field, s string, at int) (int, api.Errno) {
	for _, f := range l {
		next, e := f.read(s, at)
		if e != api.OK {
			return 0, e
		}
		at = next
	}
	return at, api.OK
}

// layText lays a text; one that is too long as if it were empty.
func layText(s string) string {
	laid, e := lay.Text(s)
	if e != api.OK {
		laid, _ = lay.Text("")
	}
	return laid
}

func layDigest(d api.Digest) string { return layText(mac.Bytes(d)) }

func readDigest(s string, at int) (api.Digest, int, api.Errno) {
	bytes, next, e := lay.ReadText(s, at)
	if e != api.OK {
		return api.Digest{}, 0, e
	}
	d, e := mac.Digest(bytes)
	if e != api.OK {
		// Of a text that is short, too: the message's bytes do not end there.
		return api.Digest{}, 0, api.ErrForm
	}
	return d, next, api.OK
}

// layNumbers lays a list that may be, which is never too long for lay.
func layNumbers(l []int) string {
	laid, _ := lay.Numbers(l)
	return laid
}

// layPending lays how many there are, and each one's fields.
func layPending(l []api.Pending) string {
	laid := lay.Number(len(l))
	for _, p := range l {
		laid += layAll(pendingFields(&p))
	}
	return laid
}

func readPending(s string, at int) ([]api.Pending, int, api.Errno) {
	many, at, e := lay.ReadNumber(s, at)
	if e != api.OK {
		return nil, 0, e
	}
	if many < 0 || many > api.MaxClients {
		return nil, 0, api.ErrForm
	}
	l := make([]api.Pending, many)
	for i := range l {
		at, e = readAll(pendingFields(&l[i]), s, at)
		if e != api.OK {
			return nil, 0, e
		}
	}
	return l, at, api.OK
}
