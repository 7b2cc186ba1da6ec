package msg_test

import (
	"fmt"
	"math"
	"math/rand"
	"reflect"
	"slices"
	"strconv"
	"strings"
	"testing"
	"unsafe"

	"affidavit/api"
	"affidavit/msg"
)

const (
	most     = 512     // the greatest number of an operation, and the longest view
	farthest = 1 << 40 // the greatest number of a blob
	longest  = 16384   // the longest text that lay lays
)

// kinds is how many kinds of messages there are.
const kinds = 11

// digestOf is a digest that no other number has.
func digestOf(n int) api.Digest {
	var d api.Digest
	for i := range d {
		d[i] = byte(n + i*7)
	}
	d[31] = ';'
	return d
}

// view is a history of n bytes, all below 8.
func view(n int) string {
	b := make([]byte, n)
	for i := range b {
		b[i] = byte((i*i + i/3) % 8)
	}
	return string(b)
}

// rising is n numbers of blobs.
func rising(n int) []int {
	l := make([]int, n)
	for i := range l {
		l[i] = i*i + i
	}
	return l
}

// waiting is n pending ones.
func waiting(n int) []api.Pending {
	l := make([]api.Pending, n)
	for i := range l {
		l[i] = api.Pending{Client: i % 8, Number: 511 - i, Kind: 1 + i%2, Target: 7 - i%8, Asked: digestOf(40 + i), Proof: digestOf(60 + i)}
	}
	return l
}

// ordinary is a message of a kind, all of whose fields are something.
func ordinary(kind int) api.Msg {
	m := api.Msg{Kind: kind, Client: 3}
	switch kind {
	case 1:
		m.Submit = api.Submit{Number: 12, Kind: 2, Target: 5, Value: "a;2:b", Asked: digestOf(1), Data: digestOf(2)}
	case 2:
		m.Client = 0
		m.Reply = api.Reply{Number: 9, Last: 1, View: "\x00\x02\x01", Commit: digestOf(3), Pending: waiting(2), ValueNumber: 7, Value: "3:", Data: digestOf(4), Seen: "\x00\x02", SeenTag: digestOf(5)}
	case 3:
		m.View, m.Tag = "\x03\x07\x03", digestOf(6)
	case 4, 6:
		m.Client = 0
		m.Blob = api.Blob{Owner: 6, Number: 1234567, Cipher: "veiled(1;)", Tag: digestOf(7)}
	case 5, 7, 8:
		m.Numbers = []int{2, 3, 500}
	case 10:
		m.By, m.View, m.Tag, m.Own = 4, "\x04\x00\x04", digestOf(8), digestOf(9)
	case 11:
		m.Own = digestOf(10)
	}
	return m
}

// bare is a message of a kind with as little as may be.
func bare(kind int) api.Msg {
	m := api.Msg{Kind: kind}
	switch kind {
	case 1:
		m.Submit.Number, m.Submit.Kind = 1, 1
	case 2:
		m.Reply.Number, m.Reply.Last = 1, -1
	case 3, 10:
		m.View = "\x00"
	case 5, 7, 8:
		m.Numbers = []int{0}
	}
	return m
}

// full is a message of a kind with as much as may be.
func full(kind int) api.Msg {
	m := ordinary(kind)
	m.Client = 7
	switch kind {
	case 1:
		m.Submit.Number, m.Submit.Target, m.Submit.Value = most, 7, strings.Repeat("\xff", 256)
	case 2:
		m.Client = 0
		m.Reply.Number, m.Reply.Last, m.Reply.View, m.Reply.Pending = most, 7, view(most), waiting(8)
		m.Reply.ValueNumber, m.Reply.Value, m.Reply.Seen = most, strings.Repeat("\x00", 256), view(most)
	case 3, 10:
		m.View = view(most)
	case 4, 6:
		m.Client = 0
		m.Blob = api.Blob{Owner: 7, Number: farthest, Cipher: strings.Repeat(")", 4096), Tag: digestOf(255)}
	case 5, 7, 8:
		m.Numbers = rising(64)
		m.Numbers[63] = farthest
	}
	return m
}

// messages are those of each kind, with little, something and much.
func messages() []api.Msg {
	var l []api.Msg
	for kind := 1; kind <= kinds; kind++ {
		l = append(l, bare(kind), ordinary(kind), full(kind))
	}
	return l
}

func number(n int) string { return fmt.Sprintf("%d;", n) }

func text(s string) string { return fmt.Sprintf("%d:%s", len(s), s) }

func tag(d api.Digest) string { return "32:" + string(d[:]) }

func list(l []int) string {
	s := "("
	for _, n := range l {
		s += number(n)
	}
	return s + ")"
}

// part is the bytes of a field, and of what sort it is: a number (n), a text (t), a digest (d), a list (l), how many are pending (p).
type part struct {
	sort  byte
	bytes string
}

// partsOf is a message's bytes, part by part, as somebody else lays them.
func partsOf(m api.Msg) []part {
	n := func(x int) part { return part{'n', number(x)} }
	t := func(x string) part { return part{'t', text(x)} }
	d := func(x api.Digest) part { return part{'d', tag(x)} }
	l := []part{n(m.Kind)}
	if m.Kind != 2 && m.Kind != 4 && m.Kind != 6 {
		l = append(l, n(m.Client))
	}
	switch m.Kind {
	case 1:
		x := m.Submit
		l = append(l, n(x.Number), n(x.Kind), n(x.Target), t(x.Value), d(x.Asked), d(x.Data))
	case 2:
		x := m.Reply
		l = append(l, n(x.Number), n(x.Last), t(x.View), d(x.Commit), part{'p', number(len(x.Pending))})
		for _, p := range x.Pending {
			l = append(l, n(p.Client), n(p.Number), n(p.Kind), n(p.Target), d(p.Asked), d(p.Proof))
		}
		l = append(l, n(x.ValueNumber), t(x.Value), d(x.Data), t(x.Seen), d(x.SeenTag))
	case 3:
		l = append(l, t(m.View), d(m.Tag))
	case 4, 6:
		x := m.Blob
		l = append(l, n(x.Owner), n(x.Number), t(x.Cipher), d(x.Tag))
	case 5, 7, 8:
		l = append(l, part{'l', list(m.Numbers)})
	case 10:
		l = append(l, n(m.By), t(m.View), d(m.Tag), d(m.Own))
	case 11:
		l = append(l, d(m.Own))
	}
	return l
}

// joined is the bytes of parts.
func joined(l []part) string {
	s := ""
	for _, p := range l {
		s += p.bytes
	}
	return s
}

// bytesOf is a message's bytes, as somebody else lays them.
func bytesOf(m api.Msg) string { return joined(partsOf(m)) }

// reader reads bytes as somebody else does: of the first error it makes a panic.
type reader struct{ rest string }

// digits takes all digits that stand there, and what must be behind them.
func (r *reader) digits(stop byte) string {
	n := 0
	for n < len(r.rest) && strings.IndexByte("0123456789", r.rest[n]) >= 0 {
		n++
	}
	if n == len(r.rest) {
		panic(api.ErrShort)
	}
	l := r.rest[:n]
	if n == 0 || r.rest[n] != stop || len(l) > 1 && l[0] == '0' {
		panic(api.ErrForm)
	}
	r.rest = r.rest[n+1:]
	return l
}

func (r *reader) number() int {
	below := strings.HasPrefix(r.rest, "-")
	r.rest = strings.TrimPrefix(r.rest, "-")
	digits := r.digits(';')
	if below {
		if digits == "0" {
			panic(api.ErrForm)
		}
		digits = "-" + digits
	}
	n, err := strconv.ParseInt(digits, 10, 64)
	if err != nil {
		panic(api.ErrBig)
	}
	return int(n)
}

func (r *reader) text() string {
	n, err := strconv.ParseInt(r.digits(':'), 10, 64)
	if err != nil || n > longest {
		panic(api.ErrBig)
	}
	if int(n) > len(r.rest) {
		panic(api.ErrShort)
	}
	s := r.rest[:n]
	r.rest = r.rest[n:]
	return s
}

func (r *reader) digest() api.Digest {
	s := r.text()
	if len(s) != 32 {
		panic(api.ErrForm)
	}
	return api.Digest([]byte(s))
}

func (r *reader) list() []int {
	if r.rest == "" {
		panic(api.ErrShort)
	}
	if r.rest[0] != '(' {
		panic(api.ErrForm)
	}
	r.rest = r.rest[1:]
	var l []int
	for r.rest == "" || r.rest[0] != ')' {
		if len(l) == 512 {
			panic(api.ErrBig)
		}
		l = append(l, r.number())
	}
	r.rest = r.rest[1:]
	return l
}

func (r *reader) reply() api.Reply {
	var x api.Reply
	x.Number, x.Last, x.View, x.Commit = r.number(), r.number(), r.text(), r.digest()
	many := r.number()
	if many < 0 || many > 8 {
		panic(api.ErrForm)
	}
	for range many {
		var p api.Pending
		p.Client, p.Number, p.Kind, p.Target, p.Asked, p.Proof = r.number(), r.number(), r.number(), r.number(), r.digest(), r.digest()
		x.Pending = append(x.Pending, p)
	}
	x.ValueNumber, x.Value, x.Data, x.Seen, x.SeenTag = r.number(), r.text(), r.digest(), r.text(), r.digest()
	return x
}

func (r *reader) message() api.Msg {
	m := api.Msg{Kind: r.number()}
	if m.Kind < 1 || m.Kind > kinds {
		panic(api.ErrForm)
	}
	if m.Kind != 2 && m.Kind != 4 && m.Kind != 6 {
		m.Client = r.number()
	}
	switch m.Kind {
	case 1:
		x := &m.Submit
		x.Number, x.Kind, x.Target, x.Value, x.Asked, x.Data = r.number(), r.number(), r.number(), r.text(), r.digest(), r.digest()
	case 2:
		m.Reply = r.reply()
	case 3:
		m.View, m.Tag = r.text(), r.digest()
	case 4, 6:
		x := &m.Blob
		x.Owner, x.Number, x.Cipher, x.Tag = r.number(), r.number(), r.text(), r.digest()
	case 5, 7, 8:
		m.Numbers = r.list()
	case 10:
		m.By, m.View, m.Tag, m.Own = r.number(), r.text(), r.digest(), r.digest()
	case 11:
		m.Own = r.digest()
	}
	return m
}

// getOf is what Get answers, as somebody else reads.
func getOf(s string) (m api.Msg, e api.Errno) {
	defer func() {
		if x := recover(); x != nil {
			m, e = api.Msg{}, x.(api.Errno)
		}
	}()
	r := &reader{s}
	m = r.message()
	if r.rest != "" || !mayOf(m) {
		panic(api.ErrForm)
	}
	return m, api.OK
}

// within tells whether all numbers are from one to another.
func within(low, high int, l ...int) bool { return slices.Min(l) >= low && slices.Max(l) <= high }

// viewOf tells whether a view may be, as somebody else looks at it.
func viewOf(s string) bool {
	return len(s) <= most && strings.Trim(s, "\x00\x01\x02\x03\x04\x05\x06\x07") == "" && !strings.ContainsFunc(s, func(r rune) bool { return r > 7 })
}

// mayOf tells whether a message of a kind that is one may be, as somebody else asks; its other fields are nothing.
func mayOf(m api.Msg) bool {
	if !within(0, 7, m.Client, m.By) {
		return false
	}
	switch m.Kind {
	case 1:
		x := m.Submit
		return within(1, 512, x.Number) && within(1, 2, x.Kind) && within(0, 7, x.Target) && len(x.Value) < 257
	case 2:
		x := m.Reply
		for _, p := range x.Pending {
			if !within(0, 7, p.Client, p.Target) || !within(1, 512, p.Number) || !within(1, 2, p.Kind) {
				return false
			}
		}
		if !within(1, 512, x.Number) || !within(-1, 7, x.Last) || !within(0, 512, x.ValueNumber) {
			return false
		}
		return (len(x.View) == 0) == (x.Last < 0) && viewOf(x.View) && viewOf(x.Seen) && len(x.Pending) < 9 && len(x.Value) < 257
	case 3, 10:
		return m.View != "" && viewOf(m.View)
	case 4, 6:
		return within(0, 7, m.Blob.Owner) && within(0, 1<<40, m.Blob.Number) && len(m.Blob.Cipher) < 4097
	case 5, 7, 8:
		l := slices.Compact(slices.Sorted(slices.Values(m.Numbers)))
		return len(l) > 0 && len(l) < 65 && slices.Equal(l, m.Numbers) && within(0, 1<<40, l...)
	}
	return true
}

// puts asks for a message's bytes.
func puts(t *testing.T, what string, m api.Msg, s string) {
	t.Helper()
	got, e := msg.Put(m)
	if got != s || e != api.OK {
		t.Fatalf("%s: put %.60q, %d, and not %.60q", what, got, int(e), s)
	}
}

// putNot asks for a Put that refuses a message.
func putNot(t *testing.T, what string, m api.Msg) {
	t.Helper()
	if got, e := msg.Put(m); got != "" || e != api.ErrArg {
		t.Fatalf("%s: put %.60q, %d, and not ErrArg", what, got, int(e))
	}
}

// like tells whether two messages are the same, as reflection tells: lists without an element are.
func like(a, b api.Msg) bool {
	for _, m := range []*api.Msg{&a, &b} {
		if len(m.Numbers) == 0 {
			m.Numbers = nil
		}
		if len(m.Reply.Pending) == 0 {
			m.Reply.Pending = nil
		}
	}
	return reflect.DeepEqual(a, b)
}

// gets asks for the message that bytes are.
func gets(t *testing.T, what, s string, m api.Msg) {
	t.Helper()
	got, e := msg.Get(s)
	if e != api.OK || !like(got, m) {
		t.Fatalf("%s: got %+v, %d, of %.60q", what, got, int(e), s)
	}
}

// getNot asks for a Get that answers an error, and nothing beside it.
func getNot(t *testing.T, what, s string, e api.Errno) {
	t.Helper()
	got, x := msg.Get(s)
	if x != e || !reflect.DeepEqual(got, api.Msg{}) {
		t.Fatalf("%s: got %+v, %d, and not %d, of %.60q", what, got, int(x), int(e), s)
	}
}

// leaf is a field that has no fields of its own.
type leaf struct {
	name  string
	index []int
}

// leavesOf are those of a type.
func leavesOf(t reflect.Type, name string, index []int) []leaf {
	if t.Kind() != reflect.Struct {
		return []leaf{{strings.TrimPrefix(name, "."), index}}
	}
	var l []leaf
	for i := range t.NumField() {
		l = append(l, leavesOf(t.Field(i).Type, name+"."+t.Field(i).Name, append(slices.Clone(index), i))...)
	}
	return l
}

// change makes a value another one: what was nothing is something then.
func change(v reflect.Value) {
	switch v.Kind() {
	case reflect.Int:
		v.SetInt(v.Int() + 1)
	case reflect.String:
		v.SetString(v.String() + "\x00")
	case reflect.Array:
		x := v.Index(v.Len() - 1)
		x.SetUint(x.Uint() ^ 1)
	case reflect.Slice:
		v.Set(reflect.Append(v, reflect.Zero(v.Type().Elem())))
	}
}

// belongs tells whether a kind has a field.
func belongs(kind int, name string) bool {
	has := [kinds + 1]string{
		1: "Client Submit.", 2: "Reply.", 3: "Client View Tag", 4: "Blob.", 5: "Client Numbers", 6: "Blob.", 7: "Client Numbers", 8: "Client Numbers",
		9: "Client", 10: "Client By View Tag Own", 11: "Client Own",
	}
	for _, x := range strings.Fields("Kind " + has[kind]) {
		if name == x || strings.HasSuffix(x, ".") && strings.HasPrefix(name, x) {
			return true
		}
	}
	return false
}

// P10.1: the chapter's example, and others, byte by byte.
func TestExamples(t *testing.T) {
	zero := "32:" + strings.Repeat("\x00", 32)
	for _, x := range []struct {
		m api.Msg
		s string
	}{
		{api.Msg{Kind: api.MProbe, Client: 3}, "9;3;"},
		{api.Msg{Kind: api.MSubmit, Client: 1, Submit: api.Submit{Number: 2, Kind: api.Read, Target: 3, Value: "ab"}}, "1;1;2;2;3;2:ab" + zero + zero},
		{api.Msg{Kind: api.MReply, Reply: api.Reply{Number: 1, Last: -1}}, "2;1;-1;0:" + zero + "0;0;0:" + zero + "0:" + zero},
		{api.Msg{Kind: api.MReply, Reply: api.Reply{Number: 5, Last: 2, View: "\x02", Pending: []api.Pending{{Client: 6, Number: 7, Kind: 1, Target: 4}}, ValueNumber: 8, Value: "v", Seen: "\x01\x00"}},
			"2;5;2;1:\x02" + zero + "1;6;7;1;4;" + zero + zero + "8;1:v" + zero + "2:\x01\x00" + zero},
		{api.Msg{Kind: api.MCommit, Client: 2, View: "\x02"}, "3;2;1:\x02" + zero},
		{api.Msg{Kind: api.MPut, Blob: api.Blob{Owner: 4, Number: 40, Cipher: "xyz"}}, "4;4;40;3:xyz" + zero},
		{api.Msg{Kind: api.MGet, Client: 0, Numbers: []int{7}}, "5;0;(7;)"},
		{api.Msg{Kind: api.MBlob, Blob: api.Blob{}}, "6;0;0;0:" + zero},
		{api.Msg{Kind: api.MNone, Client: 7, Numbers: []int{0, 1 << 40}}, "7;7;(0;1099511627776;)"},
		{api.Msg{Kind: api.MPrune, Client: 1, Numbers: []int{4, 9}}, "8;1;(4;9;)"},
		{api.Msg{Kind: api.MVersion, Client: 2, By: 1, View: "\x00\x01"}, "10;2;1;2:\x00\x01" + zero + zero},
		{api.Msg{Kind: api.MAlarm, Client: 6}, "11;6;" + zero},
	} {
		puts(t, "an example", x.m, x.s)
		gets(t, "an example", x.s, x.m)
	}
}

// P10.1, P10.2, P10.5: messages of each kind, with little, something and much, there and back.
func TestEachKind(t *testing.T) {
	for _, m := range messages() {
		what := fmt.Sprint("kind ", m.Kind)
		puts(t, what, m, bytesOf(m))
		gets(t, what, bytesOf(m), m)
	}
}

// P10.1, P10.2: kinds that are none, whatever else there is.
func TestNoKind(t *testing.T) {
	for _, kind := range []int{math.MinInt, -11, -1, 0, 12, 13, 255, 256, 257, 1 << 32, 1<<32 + 9, math.MaxInt} {
		what := fmt.Sprint("kind ", kind)
		putNot(t, what, api.Msg{Kind: kind})
		putNot(t, what, api.Msg{Kind: kind, Client: 3})
		getNot(t, what, number(kind), api.ErrForm)
		for _, m := range messages() {
			rest := strings.TrimPrefix(bytesOf(m), number(m.Kind))
			getNot(t, what, number(kind)+rest, api.ErrForm)
			m.Kind = kind
			putNot(t, what, m)
		}
		// What stands behind it is not read.
		getNot(t, what, number(kind)+"01;", api.ErrForm)
		getNot(t, what, number(kind)+"99999999999999999999;", api.ErrForm)
	}
}

// clients are those that may be, and those that may not.
func clients() []int {
	return []int{math.MinInt, math.MinInt + 1, -256, -8, -2, -1, 0, 1, 6, 7, 8, 9, 255, 256, 257, 1 << 32, math.MaxInt - 1, math.MaxInt}
}

// P10.1, P10.2: clients of each kind at the ends and beyond them; of MReply, MPut and MBlob 0 alone, which is not laid.
func TestClients(t *testing.T) {
	for kind := 1; kind <= kinds; kind++ {
		for _, client := range clients() {
			what := fmt.Sprint("kind ", kind, ", client ", client)
			m := ordinary(kind)
			m.Client = client
			if !belongs(kind, "Client") {
				if client == 0 {
					puts(t, what, m, bytesOf(m))
				} else {
					putNot(t, what, m)
				}
				continue
			}
			if client >= 0 && client <= 7 {
				puts(t, what, m, bytesOf(m))
				gets(t, what, bytesOf(m), m)
			} else {
				putNot(t, what, m)
				getNot(t, what, bytesOf(m), api.ErrForm)
			}
		}
	}
}

// edge is a value of a field of a kind: whether it may be.
type edge struct {
	name string
	kind int
	set  func(m *api.Msg)
	may  bool
}

// ends are edges of a number that is from one to another.
func ends(name string, kind, low, high int, of func(m *api.Msg) *int) []edge {
	var l []edge
	for _, n := range []int{math.MinInt, math.MinInt + 1, -1 << 40, -2, -1, low - 1, low, low + 1, 0, 1, 2, 3, 7, 8, high - 1, high, high + 1, 256 + high, 1<<32 + low, 1<<40 + 2, math.MaxInt - 1, math.MaxInt} {
		l = append(l, edge{fmt.Sprint(name, " ", n), kind, func(m *api.Msg) { *of(m) = n }, n >= low && n <= high})
	}
	return l
}

// sizes are edges of a text that has at most so many bytes, of any value.
func sizes(name string, kind, high int, of func(m *api.Msg) *string) []edge {
	var l []edge
	for _, n := range []int{0, 1, 255, 256, 257, 4095, 4096, 4097, high - 1, high, high + 1, longest} {
		for _, b := range []string{"\x00", "a", "\xff"} {
			l = append(l, edge{fmt.Sprintf("%s of %d bytes %q", name, n, b), kind, func(m *api.Msg) { *of(m) = strings.Repeat(b, n) }, n <= high})
		}
	}
	return l
}

// views are edges of a history; whether it may be empty is told.
func views(name string, kind int, empty bool, of func(m *api.Msg) *string) []edge {
	l := []edge{{name + " that is empty", kind, func(m *api.Msg) { *of(m) = "" }, empty}}
	for _, x := range []struct {
		view string
		may  bool
	}{
		{"\x00", true}, {"\x07", true}, {"\x08", false}, {"\xff", false}, {"\x00\x07\x08", false}, {"\x08\x07\x00", false}, {"\x01\x08\x01", false}, {"0", false}, {"ä", false},
		{view(511), true}, {view(512), true}, {view(513), false}, {view(511) + "\x07", true}, {view(511) + "\x08", false}, {"\x08" + view(511), false}, {view(1024), false}, {view(longest), false},
	} {
		l = append(l, edge{fmt.Sprintf("%s of %d bytes, %.5q", name, len(x.view), x.view), kind, func(m *api.Msg) { *of(m) = x.view }, x.may})
	}
	return l
}

// submitEdges are those of a submit's fields.
func submitEdges() []edge {
	return slices.Concat(
		ends("Submit.Number", 1, 1, most, func(m *api.Msg) *int { return &m.Submit.Number }),
		ends("Submit.Kind", 1, 1, 2, func(m *api.Msg) *int { return &m.Submit.Kind }),
		ends("Submit.Target", 1, 0, 7, func(m *api.Msg) *int { return &m.Submit.Target }),
		sizes("Submit.Value", 1, 256, func(m *api.Msg) *string { return &m.Submit.Value }),
	)
}

// replyEdges are those of a reply's fields, but for how Last and View hang together.
func replyEdges() []edge {
	l := slices.Concat(
		ends("Reply.Number", 2, 1, most, func(m *api.Msg) *int { return &m.Reply.Number }),
		ends("Reply.Last", 2, 0, 7, func(m *api.Msg) *int { return &m.Reply.Last }),
		views("Reply.View", 2, false, func(m *api.Msg) *string { return &m.Reply.View }),
		ends("Reply.ValueNumber", 2, 0, most, func(m *api.Msg) *int { return &m.Reply.ValueNumber }),
		sizes("Reply.Value", 2, 256, func(m *api.Msg) *string { return &m.Reply.Value }),
		views("Reply.Seen", 2, true, func(m *api.Msg) *string { return &m.Reply.Seen }),
	)
	for _, n := range []int{0, 1, 2, 7, 8, 9, 10, 64, 513} {
		l = append(l, edge{fmt.Sprint(n, " pending"), 2, func(m *api.Msg) { m.Reply.Pending = waiting(n) }, n <= 8})
	}
	for place := range 8 {
		at := func(m *api.Msg) *api.Pending {
			m.Reply.Pending = waiting(8)
			return &m.Reply.Pending[place]
		}
		name := fmt.Sprint("Pending ", place)
		l = slices.Concat(l,
			ends(name+".Client", 2, 0, 7, func(m *api.Msg) *int { return &at(m).Client }),
			ends(name+".Number", 2, 1, most, func(m *api.Msg) *int { return &at(m).Number }),
			ends(name+".Kind", 2, 1, 2, func(m *api.Msg) *int { return &at(m).Kind }),
			ends(name+".Target", 2, 0, 7, func(m *api.Msg) *int { return &at(m).Target }),
		)
	}
	return l
}

// numberEdges are lists of numbers.
func numberEdges(kind int) []edge {
	var l []edge
	for _, x := range []struct {
		numbers []int
		may     bool
	}{
		{nil, false}, {[]int{}, false}, {[]int{0}, true}, {[]int{1}, true}, {[]int{-1}, false}, {[]int{farthest}, true}, {[]int{farthest + 1}, false},
		{[]int{math.MinInt}, false}, {[]int{math.MaxInt}, false}, {[]int{0, 1}, true}, {[]int{1, 0}, false}, {[]int{2, 1}, false}, {[]int{5, 5}, false}, {[]int{0, 0}, false},
		{[]int{1, 2, 2}, false}, {[]int{1, 1, 2}, false}, {[]int{1, 3, 2}, false}, {[]int{3, 1, 2}, false}, {[]int{1, 2, 1}, false}, {[]int{-1, 0, 1}, false}, {[]int{0, farthest, farthest + 1}, false},
		{[]int{math.MinInt, 0, math.MaxInt}, false}, {[]int{farthest - 1, farthest}, true}, {rising(63), true}, {rising(64), true}, {rising(65), false}, {rising(66), false}, {rising(512), false},
		{append(rising(63), 0), false}, {append(rising(63), rising(63)[62]), false}, {append(rising(63), farthest), true}, {append(rising(63), farthest+1), false},
	} {
		l = append(l, edge{fmt.Sprintf("kind %d, %d numbers, %.3v", kind, len(x.numbers), x.numbers[:min(3, len(x.numbers))]), kind, func(m *api.Msg) { m.Numbers = slices.Clone(x.numbers) }, x.may})
	}
	return l
}

// edges are those of all kinds.
func edges() []edge {
	l := slices.Concat(submitEdges(), replyEdges(), numberEdges(5), numberEdges(7), numberEdges(8))
	for _, kind := range []int{3, 10} {
		l = append(l, views("View", kind, false, func(m *api.Msg) *string { return &m.View })...)
	}
	l = append(l, ends("By", 10, 0, 7, func(m *api.Msg) *int { return &m.By })...)
	for _, kind := range []int{4, 6} {
		l = append(l, ends("Blob.Owner", kind, 0, 7, func(m *api.Msg) *int { return &m.Blob.Owner })...)
		l = append(l, ends("Blob.Number", kind, 0, farthest, func(m *api.Msg) *int { return &m.Blob.Number })...)
		l = append(l, sizes("Blob.Cipher", kind, 4096, func(m *api.Msg) *string { return &m.Blob.Cipher })...)
	}
	return l
}

// P10.1, P10.2, P10.5: each field at its ends, and beyond them.
func TestEdges(t *testing.T) {
	for _, x := range edges() {
		for _, m := range []api.Msg{ordinary(x.kind), full(x.kind)} {
			x.set(&m)
			if x.may {
				puts(t, x.name, m, bytesOf(m))
				gets(t, x.name, bytesOf(m), m)
				continue
			}
			putNot(t, x.name, m)
			getNot(t, x.name, bytesOf(m), api.ErrForm)
		}
	}
}

// P10.1, P10.2: a reply's view is empty just if nobody was the last.
func TestLastAndView(t *testing.T) {
	for _, last := range []int{math.MinInt, -2, -1, 0, 1, 6, 7, 8, math.MaxInt} {
		for _, v := range []string{"", "\x00", "\x07", view(512)} {
			m := ordinary(2)
			m.Reply.Last, m.Reply.View = last, v
			what := fmt.Sprintf("last %d, a view of %d", last, len(v))
			if last == -1 && v == "" || last >= 0 && last <= 7 && v != "" {
				puts(t, what, m, bytesOf(m))
				gets(t, what, bytesOf(m), m)
			} else {
				putNot(t, what, m)
				getNot(t, what, bytesOf(m), api.ErrForm)
			}
		}
	}
}

// P10.1: what else might seem wrong may be: a last one whose view another one ends, what was seen without a value, a write of somebody else's register, pending ones of one client.
func TestMayBe(t *testing.T) {
	reply := ordinary(2)
	reply.Reply.Last, reply.Reply.View, reply.Reply.ValueNumber, reply.Reply.Seen = 7, "\x00\x01", 0, "\x05\x05"
	reply.Reply.Pending = []api.Pending{waiting(1)[0], waiting(1)[0], waiting(1)[0]}
	nobody := ordinary(2)
	nobody.Reply.Last, nobody.Reply.View = -1, ""
	write := ordinary(1)
	write.Client, write.Submit.Kind, write.Submit.Target = 0, 1, 7
	commit := ordinary(3)
	commit.Client, commit.View = 0, "\x07\x06"
	for _, m := range []api.Msg{reply, nobody, write, commit} {
		puts(t, "a message", m, bytesOf(m))
		gets(t, "a message", bytesOf(m), m)
	}
}

// P10.1: each field that a kind has not, set to something.
func TestNothingElse(t *testing.T) {
	for _, x := range leavesOf(reflect.TypeFor[api.Msg](), "", nil) {
		for _, m := range messages() {
			if belongs(m.Kind, x.name) {
				continue
			}
			what := fmt.Sprint("kind ", m.Kind, " with ", x.name)
			was := m
			change(reflect.ValueOf(&m).Elem().FieldByIndex(x.index))
			putNot(t, what, m)
			if v := reflect.ValueOf(&m).Elem().FieldByIndex(x.index); v.Kind() == reflect.Int {
				for _, n := range []int64{-1, 1 << 32, math.MinInt64} {
					v.SetInt(n)
					putNot(t, what, m)
				}
			}
			puts(t, what, was, bytesOf(was))
		}
	}
}

// P10.1: of a digest that a kind has not each byte counts.
func TestNoOtherDigest(t *testing.T) {
	for i := range 32 {
		m := ordinary(3)
		m.Own[i] = 1
		putNot(t, "Own of a commit", m)
		m = ordinary(11)
		m.Tag[i] = 128
		putNot(t, "Tag of an alarm", m)
	}
}

// P10.1, R3: lists that a kind has not may be nil or empty.
func TestEmptyLists(t *testing.T) {
	for _, m := range messages() {
		if len(m.Numbers) == 0 {
			m.Numbers = []int{}
		}
		if len(m.Reply.Pending) == 0 {
			m.Reply.Pending = make([]api.Pending, 0, 3)
		}
		puts(t, "empty lists", m, bytesOf(m))
	}
}

// P10.2: bytes that end, at every place: what is not all there is short.
func TestCut(t *testing.T) {
	for _, m := range messages() {
		s := bytesOf(m)
		for i := range len(s) {
			getNot(t, fmt.Sprint("kind ", m.Kind, " cut at ", i), s[:i], api.ErrShort)
		}
	}
}

// P10.2: bytes behind a message, whichever.
func TestMore(t *testing.T) {
	for _, m := range messages() {
		for b := range 256 {
			getNot(t, fmt.Sprint("kind ", m.Kind, " and ", b), bytesOf(m)+string([]byte{byte(b)}), api.ErrForm)
		}
		getNot(t, "twice", bytesOf(m)+bytesOf(m), api.ErrForm)
	}
}

// asReference asks Get for what somebody else reads; what was got is put as the very bytes.
func asReference(t *testing.T, what, s string) {
	t.Helper()
	m, e := getOf(s)
	if e != api.OK {
		getNot(t, what, s, e)
		return
	}
	gets(t, what, s, m)
	puts(t, what, m, s)
}

// P10.2, P10.5: one byte turned, at every place: one bit of it, or into one that lay lays; and one taken out, and one put in.
func TestTurned(t *testing.T) {
	for kind := 1; kind <= kinds; kind++ {
		for _, m := range []api.Msg{bare(kind), ordinary(kind)} {
			s := bytesOf(m)
			for i := range len(s) {
				for bit := range 8 {
					asReference(t, "turned", s[:i]+string([]byte{s[i] ^ 1<<bit})+s[i+1:])
				}
				asReference(t, "without one", s[:i]+s[i+1:])
				for _, b := range []string{"0", "1", "2", "3", "4", "5", "6", "7", "8", "9", "-", ";", ":", "(", ")", "\x00", " "} {
					asReference(t, "turned", s[:i]+b+s[i+1:])
					asReference(t, "with one more", s[:i]+b+s[i:])
				}
			}
		}
	}
}

// P10.2: of the longest messages some bytes turned.
func TestTurnedFull(t *testing.T) {
	for kind := 1; kind <= kinds; kind++ {
		s := bytesOf(full(kind))
		for i := 0; i < len(s); i += 1 + i/40 {
			for _, b := range []string{"0", "7", "9", "-", ";", ":", ")", "\x08"} {
				asReference(t, "turned", s[:i]+b+s[i+1:])
			}
		}
	}
}

// P10.2: nothing is short.
func TestNoBytes(t *testing.T) {
	getNot(t, "nothing", "", api.ErrShort)
	for s, e := range map[string]api.Errno{"-": api.ErrShort, "9": api.ErrShort, "-9": api.ErrShort, ";": api.ErrForm, "x": api.ErrForm, "9:": api.ErrForm, "09;3;": api.ErrForm, "-0;": api.ErrForm, "+9;3;": api.ErrForm, " 9;3;": api.ErrForm,
		"9;": api.ErrShort, "9;3": api.ErrShort, "9;3:": api.ErrForm, "9;03;": api.ErrForm, "9;-0;": api.ErrForm, "9;-": api.ErrShort, "9;3;;": api.ErrForm, "9223372036854775808;": api.ErrBig, "9;9223372036854775808;": api.ErrBig, "9;-9223372036854775809;": api.ErrBig} {
		getNot(t, "bytes", s, e)
	}
}

// bad is bytes that are no field of a sort, and the error: with nothing behind them, and with the rest of a message.
type bad struct {
	bytes       string
	alone, with api.Errno
}

// badOnes are bytes that lay does not read, of a sort; what is read but may not be a digest, or so many, too.
func badOnes(sort byte) []bad {
	digits := strings.Repeat("9", 20)
	switch sort {
	case 'n', 'p':
		l := []bad{{"01;", 6, 6}, {"00;", 6, 6}, {"-0;", 6, 6}, {"-01;", 6, 6}, {"x;", 6, 6}, {";", 6, 6}, {"1:", 6, 6}, {"--1;", 6, 6}, {"+1;", 6, 6}, {"1.;", 6, 6}, {digits + ";", 4, 4}, {"-" + digits + ";", 4, 4}, {"0" + digits + ";", 6, 6},
			{digits + ":", 6, 6}, {"9223372036854775808;", 4, 4}, {"-9223372036854775809;", 4, 4}, {"\xff", 6, 6}, {"(1;)", 6, 6}}
		if sort == 'p' {
			for _, n := range []int{math.MinInt, math.MinInt + 1, -9, -2, -1, 9, 10, 255, 256, 257, 264, 1 << 32, math.MaxInt - 1, math.MaxInt} {
				l = append(l, bad{number(n), 6, 6})
			}
		}
		return l
	case 't', 'd':
		l := []bad{{"01:x", 6, 6}, {"00:", 6, 6}, {"-1:", 6, 6}, {"-", 6, 6}, {":", 6, 6}, {"x", 6, 6}, {"1;x", 6, 6}, {"16385:", 4, 4}, {digits + ":", 4, 4}, {digits + ";", 6, 6}, {"032:", 6, 6}, {"(1:a)", 6, 6}}
		if sort == 'd' {
			for _, n := range []int{0, 1, 16, 31, 33, 34, 64, 256, 288, longest} {
				l = append(l, bad{text(strings.Repeat("d", n)), 6, 6})
			}
		}
		return l
	}
	many := strings.Repeat("1;", 512)
	return []bad{{"1;", 6, 6}, {")", 6, 6}, {"[1;]", 6, 6}, {"(01;)", 6, 6}, {"(1;2:)", 6, 6}, {"(x)", 6, 6}, {"(1;;)", 6, 6}, {"((1;))", 6, 6}, {"(1;-0;)", 6, 6}, {"(" + digits + ";)", 4, 4}, {"(" + many + "1;)", 4, 4}, {"(" + many + "x", 4, 4}, {"(" + many, 4, 4},
		{"(", 5, 5}, {"(1;", 5, 5}, {"(1;2", 5, 5}, {"(1;-", 5, 5}}
}

// P10.2: of each field of each kind bytes that lay does not read, texts for digests that have not 32 bytes, numbers of pending ones that may not be: the error is theirs, whatever stands behind them.
func TestBadFields(t *testing.T) {
	for _, m := range messages() {
		parts := partsOf(m)
		for i, p := range parts {
			before, behind := joined(parts[:i]), joined(parts[i+1:])
			for _, x := range badOnes(p.sort) {
				what := fmt.Sprintf("kind %d, part %d, %.20q", m.Kind, i, x.bytes)
				if x.bytes == "-" {
					getNot(t, what, before+x.bytes+"1:", x.with)
					continue
				}
				getNot(t, what, before+x.bytes, x.alone)
				if x.with != api.ErrShort {
					getNot(t, what, before+x.bytes+behind, x.with)
					getNot(t, what, before+x.bytes+"x", x.with)
				}
			}
		}
	}
}

// P10.2: a digest whose bytes end is short, and not of a wrong form.
func TestShortDigest(t *testing.T) {
	for _, s := range []string{"11;6;32:" + strings.Repeat("d", 31), "11;6;31:" + strings.Repeat("d", 30), "11;6;33:" + strings.Repeat("d", 32), "11;6;32:", "11;6;32", "11;6;0"} {
		getNot(t, "a digest", s, api.ErrShort)
	}
	getNot(t, "a digest", "11;6;31:"+strings.Repeat("d", 31), api.ErrForm)
	getNot(t, "a digest", "11;6;0:", api.ErrForm)
}

// P10.2: what was read may not be only when all was read: a later field's own error is ahead of it.
func TestOrderOfErrors(t *testing.T) {
	zero := tag(api.Digest{})
	for s, e := range map[string]api.Errno{
		"9;8;":                                  api.ErrForm,
		"9;8":                                   api.ErrShort,
		"11;8;":                                 api.ErrShort,
		"11;-1;16385:":                          api.ErrBig,
		"11;8;" + zero:                          api.ErrForm,
		"1;8;0;0;8;":                            api.ErrShort,
		"1;8;0;0;8;99999:":                      api.ErrBig,
		"3;0;0:":                                api.ErrShort,
		"3;0;0:" + zero:                         api.ErrForm,
		"3;0;1:\x0816385:":                      api.ErrBig,
		"5;8;(2;1;":                             api.ErrShort,
		"5;8;(2;1;)":                            api.ErrForm,
		"5;8;()":                                api.ErrForm,
		"5;8;(" + strings.Repeat("0;", 512):     api.ErrBig,
		"5;8;(" + strings.Repeat("0;", 511):     api.ErrShort,
		"5;0;" + list(make([]int, 512)):         api.ErrForm,
		"5;0;" + list(make([]int, 513)):         api.ErrBig,
		"2;0;-2;1:\x08" + zero + "9;":           api.ErrForm,
		"2;0;-2;1:\x08" + zero + "9":            api.ErrShort,
		"2;0;-2;1:\x08" + zero + "8;":           api.ErrShort,
		"2;0;-2;1:\x08" + zero + "1;8;8;8;8;1:": api.ErrShort,
		"2;0;-2;1:\x08" + zero + "1;8;8;8;8;0:": api.ErrForm,
		"4;8;-1;16384:":                         api.ErrShort,
		"4;8;-1;16385:":                         api.ErrBig,
		"12;16385:":                             api.ErrForm,
		"10;8;8;0:":                             api.ErrShort,
		"10;8;8;0:0:":                           api.ErrForm,
	} {
		getNot(t, "errors", s, e)
	}
}

// messageWithAll is a message all of whose fields are something, whether one may be or not.
func messageWithAll() api.Msg {
	return api.Msg{
		Kind: 5, Client: 1, Submit: ordinary(1).Submit, Reply: ordinary(2).Reply, View: "\x01\x02", By: 2, Tag: digestOf(20), Own: digestOf(21), Blob: ordinary(4).Blob, Numbers: []int{4, 8, 9},
	}
}

// sames asks for Same, both ways.
func sames(t *testing.T, what string, a, b api.Msg, want bool) {
	t.Helper()
	if msg.Same(a, b) != want || msg.Same(b, a) != want {
		t.Fatalf("%s: %v, %v, and not %v", what, msg.Same(a, b), msg.Same(b, a), want)
	}
}

// P10.3: messages that differ in one field alone, of each field.
func TestSameFields(t *testing.T) {
	for _, from := range append(messages(), messageWithAll(), api.Msg{}) {
		sames(t, "itself", from, from, true)
		for _, x := range leavesOf(reflect.TypeFor[api.Msg](), "", nil) {
			m := from
			m.Numbers, m.Reply.Pending = slices.Clone(from.Numbers), slices.Clone(from.Reply.Pending)
			sames(t, x.name, from, m, true)
			change(reflect.ValueOf(&m).Elem().FieldByIndex(x.index))
			sames(t, x.name, from, m, false)
		}
	}
}

// P10.3: each byte of each digest, and of texts, and each sort of number counts.
func TestSameParts(t *testing.T) {
	from := messageWithAll()
	for _, x := range leavesOf(reflect.TypeFor[api.Msg](), "", nil) {
		m := from
		v := reflect.ValueOf(&m).Elem().FieldByIndex(x.index)
		switch v.Kind() {
		case reflect.Array:
			for i := range v.Len() {
				m = from
				v.Index(i).SetUint(v.Index(i).Uint() ^ 128)
				sames(t, x.name, from, m, false)
			}
		case reflect.String:
			s := v.String()
			for i := range len(s) {
				v.SetString(s[:i] + string([]byte{s[i] ^ 1}) + s[i+1:])
				sames(t, x.name, from, m, false)
			}
			v.SetString("")
			sames(t, x.name, from, m, false)
		case reflect.Int:
			for _, n := range []int64{0, -1, math.MinInt64, math.MaxInt64} {
				v.SetInt(n)
				sames(t, x.name, from, m, false)
			}
		}
	}
}

// P10.3: each field of each pending one counts, and their order.
func TestSamePending(t *testing.T) {
	from := messageWithAll()
	from.Reply.Pending = waiting(3)
	for place := range 3 {
		for _, x := range leavesOf(reflect.TypeFor[api.Pending](), "", nil) {
			m := from
			m.Reply.Pending = waiting(3)
			sames(t, x.name, from, m, true)
			change(reflect.ValueOf(&m.Reply.Pending[place]).Elem().FieldByIndex(x.index))
			sames(t, x.name, from, m, false)
		}
	}
	for _, l := range [][]api.Pending{nil, {}, waiting(1), waiting(2), waiting(4), {waiting(3)[1], waiting(3)[0], waiting(3)[2]}, {waiting(3)[0], waiting(3)[0], waiting(3)[2]}} {
		m := from
		m.Reply.Pending = l
		sames(t, "pending", from, m, false)
	}
}

// P10.3: lists of numbers; nil is like an empty one.
func TestSameLists(t *testing.T) {
	lists := [][]int{nil, {0}, {1}, {0, 1}, {1, 0}, {0, 0}, {0, 1, 2}, {math.MinInt}, {math.MaxInt}, rising(64), rising(65)}
	for i, a := range lists {
		for j, b := range lists {
			sames(t, "numbers", api.Msg{Kind: 5, Numbers: a}, api.Msg{Kind: 5, Numbers: slices.Clone(b)}, i == j)
		}
	}
	none := api.Msg{Kind: 2}
	empty := none
	empty.Numbers, empty.Reply.Pending = []int{}, []api.Pending{}
	spare := none
	spare.Numbers, spare.Reply.Pending = rising(5)[:0], waiting(5)[:0]
	for _, a := range []api.Msg{none, empty, spare} {
		for _, b := range []api.Msg{none, empty, spare} {
			sames(t, "nothing", a, b, true)
		}
	}
}

// P10.3: messages of each kind are like themselves alone.
func TestSameOfKinds(t *testing.T) {
	l := messages()
	for i, a := range l {
		for j, b := range l {
			sames(t, fmt.Sprint(i, ", ", j), a, b, i == j)
		}
	}
}

// numbersOf are numbers in their whole range.
func numbersOf() []int {
	return []int{math.MinInt, math.MinInt + 1, -farthest, -513, -10, -1, 0, 1, 2, 7, 8, 9, 10, 11, 12, 100, 511, 512, 513, 1 << 32, farthest, farthest + 1, math.MaxInt - 1, math.MaxInt}
}

// P10.4: what is tagged of a submit: four numbers, and nothing else of it.
func TestAsked(t *testing.T) {
	if got := msg.Asked(1, api.Submit{Number: 2, Kind: 1, Target: 1}); got != "1;2;1;1;" {
		t.Errorf("%q", got)
	}
	if got := msg.Asked(math.MinInt, api.Submit{Number: math.MaxInt, Kind: -1, Target: 0}); got != "-9223372036854775808;9223372036854775807;-1;0;" {
		t.Errorf("%q", got)
	}
	for _, client := range numbersOf() {
		for _, n := range numbersOf() {
			for _, x := range []api.Submit{{Number: n, Kind: 1, Target: 3}, {Number: 4, Kind: n, Target: 3}, {Number: 4, Kind: 2, Target: n}, {Number: n, Kind: n, Target: n, Value: "value", Asked: digestOf(1), Data: digestOf(2)}} {
				want := fmt.Sprintf("%d;%d;%d;%d;", client, x.Number, x.Kind, x.Target)
				if got := msg.Asked(client, x); got != want {
					t.Fatalf("%q, and not %q", got, want)
				}
				x.Value, x.Asked, x.Data = strings.Repeat("v", 20000), digestOf(3), api.Digest{}
				if got := msg.Asked(client, x); got != want {
					t.Fatalf("%q, and not %q, of a value", got, want)
				}
			}
		}
	}
}

// P10.4: what is tagged of a value, a blob and a view: a number and a text, one that is too long for lay as if it were empty.
func TestTexts(t *testing.T) {
	calls := map[string]func(int, string) string{"Data": msg.Data, "BlobText": msg.BlobText, "Version": msg.Version}
	for name, call := range calls {
		if got := call(5, "ab"); got != "5;2:ab" {
			t.Errorf("%s: %q", name, got)
		}
		for _, n := range numbersOf() {
			for _, s := range []string{"", "a", "5;2:ab", "\x00\x01", "ä\xff", view(512), view(513), strings.Repeat("c", 4096), strings.Repeat("c", 4097), strings.Repeat("x", longest-1), strings.Repeat("\xff", longest)} {
				if got, want := call(n, s), fmt.Sprintf("%d;%d:%s", n, len(s), s); got != want {
					t.Fatalf("%s of %d, %.20q: %.40q", name, n, s, got)
				}
			}
			for _, size := range []int{longest + 1, longest + 2, 2 * longest, 1 << 20} {
				if got, want := call(n, strings.Repeat("x", size)), fmt.Sprintf("%d;0:", n); got != want {
					t.Fatalf("%s of %d, %d bytes: %.40q", name, n, size, got)
				}
			}
		}
	}
}

// P10.4, P10.1: the texts are of the very numbers and texts that a message has.
func TestTextsOfMessages(t *testing.T) {
	for _, m := range []api.Msg{bare(1), ordinary(1), full(1)} {
		s, _ := msg.Put(m)
		if asked := msg.Asked(m.Client, m.Submit); !strings.HasPrefix(s, "1;"+asked) {
			t.Errorf("%q: %q", s, asked)
		}
	}
	for _, m := range []api.Msg{bare(4), ordinary(4), full(4)} {
		s, _ := msg.Put(m)
		if laid := msg.BlobText(m.Blob.Number, m.Blob.Cipher); !strings.Contains(s, laid) {
			t.Errorf("%.40q: %.40q", s, laid)
		}
	}
	for _, m := range []api.Msg{bare(10), ordinary(10), full(10)} {
		s, _ := msg.Put(m)
		if laid := msg.Version(m.By, m.View); !strings.Contains(s, laid) {
			t.Errorf("%.40q: %.40q", s, laid)
		}
	}
}

// chance makes a message of a kind that may be.
func chance(r *rand.Rand, kind int) api.Msg {
	m := bare(kind)
	some := func(most int) string {
		b := make([]byte, r.Intn(most+1))
		r.Read(b)
		return string(b)
	}
	seen := func(least int) string { return view(most)[:least+r.Intn(most+1-least)] }
	digest := func() (d api.Digest) {
		r.Read(d[:])
		return d
	}
	if belongs(kind, "Client") {
		m.Client = r.Intn(8)
	}
	switch kind {
	case 1:
		m.Submit = api.Submit{Number: 1 + r.Intn(most), Kind: 1 + r.Intn(2), Target: r.Intn(8), Value: some(256), Asked: digest(), Data: digest()}
	case 2:
		x := &m.Reply
		*x = api.Reply{Number: 1 + r.Intn(most), Last: -1, Commit: digest(), ValueNumber: r.Intn(most + 1), Value: some(256), Data: digest(), Seen: seen(0), SeenTag: digest()}
		if r.Intn(4) > 0 {
			x.Last, x.View = r.Intn(8), seen(1)
		}
		for range r.Intn(9) {
			x.Pending = append(x.Pending, api.Pending{Client: r.Intn(8), Number: 1 + r.Intn(most), Kind: 1 + r.Intn(2), Target: r.Intn(8), Asked: digest(), Proof: digest()})
		}
	case 3:
		m.View, m.Tag = seen(1), digest()
	case 4, 6:
		m.Blob = api.Blob{Owner: r.Intn(8), Number: r.Intn(farthest + 1), Cipher: some(4096), Tag: digest()}
	case 5, 7, 8:
		m.Numbers = nil
		for range 1 + r.Intn(64) {
			m.Numbers = append(m.Numbers, r.Intn(farthest+1))
		}
		slices.Sort(m.Numbers)
		m.Numbers = slices.Compact(m.Numbers)
	case 10:
		m.By, m.View, m.Tag, m.Own = r.Intn(8), seen(1), digest(), digest()
	case 11:
		m.Own = digest()
	}
	return m
}

// P10.5: messages by chance, there and back, and told apart.
func TestThereAndBack(t *testing.T) {
	r := rand.New(rand.NewSource(10))
	bytes := map[string]api.Msg{}
	for i := range 3000 {
		m := chance(r, 1+i%kinds)
		s, e := msg.Put(m)
		if e != api.OK || s != bytesOf(m) {
			t.Fatalf("%+v: put %.60q, %d", m, s, int(e))
		}
		got, e := msg.Get(s)
		if e != api.OK || !msg.Same(got, m) || !like(got, m) {
			t.Fatalf("%+v: got %+v, %d", m, got, int(e))
		}
		if again, e := msg.Put(got); e != api.OK || again != s {
			t.Fatalf("%+v: put again %.60q, %d", m, again, int(e))
		}
		if other, ok := bytes[s]; ok && !msg.Same(other, m) {
			t.Fatalf("%+v, %+v have the same bytes", other, m)
		}
		bytes[s] = m
	}
}

// P10.2, P10.5: bytes by chance, and messages by chance that were spoilt: as somebody else reads them.
func TestSpoilt(t *testing.T) {
	r := rand.New(rand.NewSource(11))
	const letters = "0123456789;:()-\x00\x07\x08x"
	for i := range 20000 {
		s := []byte(bytesOf(chance(r, 1+i%kinds)))
		if i%4 == 0 {
			s = make([]byte, r.Intn(30))
			for j := range s {
				s[j] = letters[r.Intn(len(letters))]
			}
		}
		for range r.Intn(3) {
			at := 0
			if len(s) > 0 {
				at = r.Intn(min(len(s), 1+r.Intn(len(s))))
			}
			b := letters[r.Intn(len(letters))]
			switch {
			case len(s) == 0 || r.Intn(3) == 0:
				s = slices.Insert(s, at, b)
			case r.Intn(2) == 0:
				s = slices.Delete(s, at, at+1)
			default:
				s[at] = b
			}
		}
		asReference(t, "spoilt", string(s))
	}
}

// P10.6: unlike things have unlike texts, and none of a kind's texts begins another one.
func TestApart(t *testing.T) {
	asked := map[string][4]int{}
	few := []int{math.MinInt, -11, -1, 0, 1, 2, 11, 12, 112, math.MaxInt}
	for _, a := range few {
		for _, b := range few {
			for _, c := range few {
				for _, d := range few {
					x := [4]int{a, b, c, d}
					s := msg.Asked(a, api.Submit{Number: b, Kind: c, Target: d})
					if other, ok := asked[s]; ok {
						t.Fatalf("%v, %v: both %q", x, other, s)
					}
					asked[s] = x
				}
			}
		}
	}
	texts := []string{"", "0", "1", ";", ":", "1;", "1:", "0:", "2:ab", "ab", "a", "b", "\x00", "\x00\x00", "\x01", "1;1:1", "\xff", "ä", view(9), view(10), strings.Repeat("x", longest), strings.Repeat("x", longest-1), strings.Repeat("x", longest-1) + "y"}
	for name, call := range map[string]func(int, string) string{"Data": msg.Data, "BlobText": msg.BlobText, "Version": msg.Version} {
		var l []string
		for _, n := range few {
			for _, s := range texts {
				l = append(l, call(n, s))
			}
		}
		slices.Sort(l)
		for i := range l[1:] {
			if strings.HasPrefix(l[i+1], l[i]) {
				t.Fatalf("%s: %.40q begins %.40q", name, l[i], l[i+1])
			}
		}
	}
}

// shares tells whether two texts have a byte of memory in common.
func shares(a, b string) bool {
	if a == "" || b == "" {
		return false
	}
	from, to := uintptr(unsafe.Pointer(unsafe.StringData(a))), uintptr(unsafe.Pointer(unsafe.StringData(b)))
	return from < to+uintptr(len(b)) && to < from+uintptr(len(a))
}

// textsOf are a message's texts.
func textsOf(m api.Msg) []string {
	return []string{m.Submit.Value, m.Reply.View, m.Reply.Value, m.Reply.Seen, m.View, m.Blob.Cipher}
}

// R3: what is answered is new memory.
func TestAnswersNew(t *testing.T) {
	for _, m := range messages() {
		s, _ := msg.Put(m)
		got, _ := msg.Get(s)
		other, _ := msg.Get(s)
		for _, x := range textsOf(got) {
			if shares(x, s) {
				t.Fatalf("kind %d: a text of what was got", m.Kind)
			}
		}
		for _, x := range textsOf(m) {
			if shares(x, s) {
				t.Fatalf("kind %d: a text of what was put", m.Kind)
			}
		}
		for i := range got.Numbers {
			got.Numbers[i] = -1
		}
		for i := range got.Reply.Pending {
			got.Reply.Pending[i] = api.Pending{}
		}
		if !like(other, m) {
			t.Fatalf("kind %d: lists of two answers", m.Kind)
		}
	}
	b := []byte("abcdefgh")
	s := unsafe.String(&b[0], len(b))
	for _, got := range []string{msg.Data(1, s), msg.BlobText(1, s), msg.Version(1, s)} {
		if got != "1;8:abcdefgh" || shares(got, s) {
			t.Errorf("%q", got)
		}
	}
}

// R3: bytes that are handed in are not kept.
func TestNotKept(t *testing.T) {
	for _, m := range messages() {
		b := []byte(bytesOf(m))
		got, e := msg.Get(unsafe.String(&b[0], len(b)))
		for i := range b {
			b[i] = 'z'
		}
		if e != api.OK || !like(got, m) {
			t.Fatalf("kind %d: %+v, %d", m.Kind, got, int(e))
		}
	}
}

// R3: a message's lists are not changed, their spare room neither.
func TestUnchanged(t *testing.T) {
	numbers, pend := rising(6), waiting(6)
	for kind := 1; kind <= kinds; kind++ {
		for n := range 5 {
			m := ordinary(kind)
			m.Numbers, m.Reply.Pending = numbers[:n], pend[:n]
			msg.Put(m)
			msg.Same(m, m)
			if kind == 2 {
				m.Numbers = nil
				puts(t, "a reply", m, bytesOf(m))
			}
			if belongs(kind, "Numbers") && n > 0 {
				m.Reply.Pending = nil
				puts(t, "numbers", m, bytesOf(m))
			}
		}
	}
	if !slices.Equal(numbers, rising(6)) || !slices.Equal(pend, waiting(6)) {
		t.Errorf("%v, %v", numbers, pend)
	}
}

// R4: asked again they answer the same.
func TestAgain(t *testing.T) {
	for range 20 {
		for _, m := range messages() {
			puts(t, "again", m, bytesOf(m))
			gets(t, "again", bytesOf(m), m)
		}
	}
}
