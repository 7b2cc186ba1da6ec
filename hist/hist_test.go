package hist_test

import (
	"math"
	"math/rand"
	"slices"
	"strings"
	"testing"
	"unsafe"

	"affidavit/hist"
)

// most is how many operations a history may have.
const most = 512

// op is an operation, as Ops tells it.
type op struct{ client, number int }

// clients are those that a byte tells, and those that none tells.
func clients() []int {
	return []int{math.MinInt, math.MinInt + 1, -257, -256, -255, -1, 0, 1, 2, 7, 8, 254, 255, 256, 257, 258, 511, 512, math.MaxInt - 1, math.MaxInt}
}

// long is a history of n bytes, all below clients.
func long(n, clients int) string {
	b := make([]byte, n)
	for i := range b {
		b[i] = byte((i*i + i/3) % clients)
	}
	return string(b)
}

// histories are ordinary ones, the ends, and those that no number of clients may have.
func histories() []string {
	return []string{
		"", "\x00", "\x01", "\x07", "\x08", "\xff", "\x00\x01", "\x00\x01\x00", "\x00\x01\x00\x02", "\x01\x00\x00", "\x00\x00\x00", "\xff\x00\xff",
		"\x00\x07\x08\xff", "\xff\x08\x07\x00", "\x07\x07\x08\x07\xff\xff", "ab", "ä", "\xc3", "\xe2\x82\xac\xe2",
		long(511, 2), long(512, 3), long(513, 8), long(512, 256), long(513, 256), strings.Repeat("\x00", 600), strings.Repeat("\xff", 1000), long(5000, 256),
	}
}

// small are all histories of so many clients with at most n operations.
func small(clients, n int) []string {
	all := []string{""}
	for from := 0; n > 0; n-- {
		end := len(all)
		for _, h := range all[from:end] {
			for c := range clients {
				all = append(all, h+string([]byte{byte(c)}))
			}
		}
		from = end
	}
	return all
}

// countOf is how many operations a client has, as somebody else counts them.
func countOf(h string, client int) int {
	n := 0
	for _, b := range []byte(h) {
		if int(b) == client {
			n++
		}
	}
	return n
}

// uptoOf is a beginning, as somebody else cuts it: from behind.
func uptoOf(h string, client int) string {
	for len(h) > 0 && int(h[len(h)-1]) != client {
		h = h[:len(h)-1]
	}
	return h
}

// placeOf is a place, as somebody else looks for it: the beginning with so many operations.
func placeOf(h string, client, number int) int {
	for i := range len(h) {
		if int(h[i]) == client && countOf(h[:i+1], client) == number {
			return i
		}
	}
	return -1
}

// goesOf tells whether one goes on another one, byte by byte.
func goesOf(long, short string) bool {
	if len(short) > len(long) {
		return false
	}
	for i := range len(short) {
		if long[i] != short[i] {
			return false
		}
	}
	return true
}

// forkOf is the first two of a list that do not fit, as somebody else looks for them: pair by pair.
func forkOf(l []string) (int, int) {
	for second := range l {
		for first := range second {
			if !goesOf(l[first], l[second]) && !goesOf(l[second], l[first]) {
				return first, second
			}
		}
	}
	return -1, -1
}

// opsOf is all operations of a history, as somebody else counts them.
func opsOf(h string) []op {
	var l []op
	for i := range len(h) {
		l = append(l, op{int(h[i]), countOf(h[:i+1], int(h[i]))})
	}
	return l
}

// gone is what a function goes through, up to n operations.
func gone(ops func(yield func(client, number int) bool), n int) []op {
	var l []op
	for client, number := range ops {
		if len(l) == n {
			break
		}
		l = append(l, op{client, number})
	}
	return l
}

// forks asks for what Fork answers.
func forks(t *testing.T, l []string, first, second int) {
	t.Helper()
	if a, b := hist.Fork(l); a != first || b != second {
		t.Errorf("Fork of %d histories: %d, %d, and not %d, %d", len(l), a, b, first, second)
	}
}

// shares tells whether two texts share memory.
func shares(a, b string) bool {
	from := func(s string) uintptr { return uintptr(unsafe.Pointer(unsafe.StringData(s))) }
	return len(a) > 0 && len(b) > 0 && from(a) < from(b)+uintptr(len(b)) && from(b) < from(a)+uintptr(len(a))
}

// The chapter's example.
func TestExample(t *testing.T) {
	const h = "\x00\x01\x00"
	if n := hist.Count(h, 0); n != 2 {
		t.Error(n)
	}
	if s := hist.Upto(h, 1); s != "\x00\x01" {
		t.Errorf("%q", s)
	}
	if n := hist.Place(h, 0, 2); n != 2 {
		t.Error(n)
	}
	if hist.Fit("\x00\x01", "\x00\x00") {
		t.Error("they fit")
	}
}

// P9.1: a history may be for each number of clients that is above all its bytes, up to 256, and for none besides.
func TestRightBytes(t *testing.T) {
	for _, x := range []struct {
		h     string
		least int // the least number of clients for which it may be
	}{
		{"", 1}, {"\x00", 1}, {"\x01", 2}, {"\x06", 7}, {"\x07", 8}, {"\x08", 9}, {"\xfe", 255}, {"\xff", 256},
		{"\x00\x00\x00", 1}, {"\x00\x01\x00", 2}, {"\x01\x00\x00", 2}, {"\x00\x00\x01", 2}, {"\x07\x00\x01", 8}, {"\x00\x07\x01", 8}, {"\x00\x01\x08", 9},
		{"\xff\x00\x00", 256}, {"\x00\xff\x00", 256}, {"\x00\x00\xff", 256}, {"\x00\xfe\xff\x00", 256}, {"ä", 0xc4},
	} {
		for n := -3; n <= 300; n++ {
			if got, want := hist.Right(x.h, n), n >= x.least && n <= 256; got != want {
				t.Errorf("Right(%q, %d): %v", x.h, n, got)
			}
		}
		for _, n := range []int{math.MinInt, math.MinInt + 1, math.MinInt + 256, -1 << 32, -257, -256, -255, 257, 258, 511, 512, 1 << 32, 1<<32 + 8, math.MaxInt - 1, math.MaxInt} {
			if hist.Right(x.h, n) {
				t.Errorf("Right(%q, %d)", x.h, n)
			}
		}
	}
}

// P9.1: a history may have 512 operations, and no more.
func TestRightLength(t *testing.T) {
	for n, want := range map[int]bool{0: true, 1: true, 255: true, 256: true, 257: true, 511: true, 512: true, 513: false, 514: false, 1024: false, 1 << 16: false} {
		for _, number := range []int{1, 2, 8, 255, 256} {
			if got := hist.Right(long(n, number), number); got != want {
				t.Errorf("%d bytes for %d clients: %v", n, number, got)
			}
		}
		for _, number := range []int{math.MinInt, -1, 0, 257, math.MaxInt} {
			if hist.Right(strings.Repeat("\x00", n), number) {
				t.Errorf("%d bytes for %d clients", n, number)
			}
		}
	}
}

// P9.1: one byte that is too great is enough, wherever it stands, in the longest history too.
func TestRightOneByte(t *testing.T) {
	for _, n := range []int{1, 2, 511, 512} {
		for place := range n {
			b := make([]byte, n)
			for _, x := range []struct {
				byte    byte
				clients int
				right   bool
			}{{0, 1, true}, {1, 1, false}, {1, 2, true}, {2, 2, false}, {7, 8, true}, {8, 8, false}, {9, 8, false}, {255, 8, false}, {254, 255, true}, {255, 255, false}, {255, 256, true}} {
				b[place] = x.byte
				if hist.Right(string(b), x.clients) != x.right {
					t.Fatalf("%d bytes, %d at %d, for %d clients: %v", n, x.byte, place, x.clients, !x.right)
				}
			}
		}
	}
}

// P9.1: how many operations each client has.
func TestCount(t *testing.T) {
	for _, x := range []struct {
		h         string
		client, n int
	}{
		{"", 0, 0}, {"", 255, 0}, {"\x00", 0, 1}, {"\x00", 1, 0}, {"\x00\x01\x00", 0, 2}, {"\x00\x01\x00", 1, 1}, {"\x00\x01\x00", 2, 0}, {"\x00\x01\x00\x02", 2, 1},
		{"\x07\x08\x07\x07", 7, 3}, {"\x07\x08\x07\x07", 8, 1}, {"\xff\x00\xff", 255, 2}, {"\xff\x00\xff", -1, 0}, {"\xff\x00\xff", 256, 0}, {"\xff\x00\xff", 511, 0},
		{strings.Repeat("\x00", 511), 0, 511}, {strings.Repeat("\x00", 512), 0, 512}, {strings.Repeat("\x00", 513), 0, 513}, {strings.Repeat("\xff", 70000), 255, 70000}, {"ä", 0xc3, 1}, {"ä", 0xe4, 0},
	} {
		if got := hist.Count(x.h, x.client); got != x.n {
			t.Errorf("%d bytes: Count of %d: %d, and not %d", len(x.h), x.client, got, x.n)
		}
	}
}

// P9.1: all clients of all histories; those that no byte tells have nothing, though their last bits are a byte's.
func TestCountAll(t *testing.T) {
	for _, h := range histories() {
		sum := 0
		for client := range 256 {
			n := hist.Count(h, client)
			if n != countOf(h, client) {
				t.Errorf("%.20q: Count of %d: %d", h, client, n)
			}
			sum += n
		}
		if sum != len(h) {
			t.Errorf("%.20q: %d operations of all", h, sum)
		}
		for _, client := range clients() {
			if n := hist.Count(h, client); n != countOf(h, client) {
				t.Errorf("%.20q: Count of %d: %d", h, client, n)
			}
		}
	}
}

// P9.2: the beginning up to a client's last operation, that one too.
func TestUpto(t *testing.T) {
	for _, x := range []struct {
		h      string
		client int
		want   string
	}{
		{"", 0, ""}, {"\x00", 0, "\x00"}, {"\x00", 1, ""}, {"\x00", 256, ""}, {"\x00", -256, ""},
		{"\x00\x01\x00\x02", 0, "\x00\x01\x00"}, {"\x00\x01\x00\x02", 1, "\x00\x01"}, {"\x00\x01\x00\x02", 2, "\x00\x01\x00\x02"}, {"\x00\x01\x00\x02", 3, ""},
		{"\x01\x00\x00", 1, "\x01"}, {"\x07\x08\xff", 255, "\x07\x08\xff"}, {"\x07\x08\xff", 8, "\x07\x08"}, {"\x07\x08\xff", 7, "\x07"}, {"\x07\x08\xff", -1, ""},
		{long(511, 1), 0, long(511, 1)}, {long(512, 1), 0, long(512, 1)}, {long(513, 1), 0, long(513, 1)}, {long(513, 1), 1, ""},
		{"\x01" + long(511, 1), 1, "\x01"}, {long(511, 1) + "\x01", 0, long(511, 1)}, {long(511, 1) + "\x01", 1, long(511, 1) + "\x01"},
	} {
		if got := hist.Upto(x.h, x.client); got != x.want {
			t.Errorf("%.20q: Upto of %d: %.20q, and not %.20q", x.h, x.client, got, x.want)
		}
	}
	for _, h := range histories() {
		for _, client := range clients() {
			if got := hist.Upto(h, client); got != uptoOf(h, client) {
				t.Errorf("%.20q: Upto of %d: %d bytes", h, client, len(got))
			}
		}
	}
}

// P9.2: the place of each operation; of those that there are not -1.
func TestPlace(t *testing.T) {
	for _, x := range []struct {
		h                     string
		client, number, place int
	}{
		{"", 0, 1, -1}, {"", 0, 0, -1}, {"\x00", 0, 1, 0}, {"\x00", 0, 2, -1}, {"\x00", 0, 0, -1}, {"\x00", 0, -1, -1}, {"\x00", 1, 1, -1}, {"\x00", 1, 0, -1},
		{"\x00\x01\x00\x02", 0, 1, 0}, {"\x00\x01\x00\x02", 0, 2, 2}, {"\x00\x01\x00\x02", 0, 3, -1}, {"\x00\x01\x00\x02", 1, 1, 1}, {"\x00\x01\x00\x02", 2, 1, 3}, {"\x00\x01\x00\x02", 2, 2, -1},
		{"\x08\x07\xff\x07", 7, 2, 3}, {"\x08\x07\xff\x07", 8, 1, 0}, {"\x08\x07\xff\x07", 255, 1, 2}, {"\x08\x07\xff\x07", -1, 1, -1}, {"\x08\x07\xff\x07", 256 + 7, 1, -1},
		{long(511, 1), 0, 511, 510}, {long(511, 1), 0, 512, -1}, {long(512, 1), 0, 512, 511}, {long(513, 1), 0, 513, 512}, {long(513, 1), 0, 1, 0}, {strings.Repeat("\xff", 70000), 255, 70000, 69999},
	} {
		if got := hist.Place(x.h, x.client, x.number); got != x.place {
			t.Errorf("%.20q: Place of %d, %d: %d, and not %d", x.h, x.client, x.number, got, x.place)
		}
	}
}

// P9.2: numbers at the ends, below 1, the last one and one more, of all clients of all histories.
func TestPlaceEnds(t *testing.T) {
	for _, h := range histories() {
		for _, client := range clients() {
			last := countOf(h, client)
			for _, number := range []int{math.MinInt, math.MinInt + 1, -257, -256, -1, 0, 1, 2, last - 1, last, last + 1, last + 256, 257, 513, math.MaxInt - 1, math.MaxInt} {
				if got, want := hist.Place(h, client, number), placeOf(h, client, number); got != want {
					t.Errorf("%.20q: Place of %d, %d: %d, and not %d", h, client, number, got, want)
				}
			}
		}
	}
}

// P9.2: each operation of a history stands at one place, and each place is one operation's.
func TestPlacesOfOps(t *testing.T) {
	for _, h := range append(small(3, 5), histories()...) {
		for i, x := range opsOf(h)[:min(len(h), most)] {
			if got := hist.Place(h, x.client, x.number); got != i {
				t.Fatalf("%.20q: Place of %d, %d: %d, and not %d", h, x.client, x.number, got, i)
			}
		}
	}
}

// P9.3: one goes on another one, the other way round, and the longer one.
func TestTwo(t *testing.T) {
	same := long(512, 8)
	for _, x := range []struct {
		a, b string
		a1   bool // does a go on b?
		b1   bool // does b go on a?
		long string
	}{
		{"", "", true, true, ""},
		{"\x00", "", true, false, "\x00"},
		{"", "\x00", false, true, "\x00"},
		{"\x00", "\x00", true, true, "\x00"},
		{"\x00\x01", "\x00\x01", true, true, "\x00\x01"},
		{"\x00\x01\x00", "\x00\x01", true, false, "\x00\x01\x00"},
		{"\x00", "\x00\x01\x00\x02", false, true, "\x00\x01\x00\x02"},
		{"\x00\x01", "\x00\x00", false, false, "\x00\x01"},
		{"\x00\x00", "\x00\x01", false, false, "\x00\x00"},
		{"\x00", "\x01", false, false, "\x00"},
		{"\x01", "\x00\x01", false, false, "\x01"},
		{"\x00\x01", "\x01", false, false, "\x00\x01"},
		{"\x00\x01\x00", "\x01\x01\x00", false, false, "\x00\x01\x00"},
		{"\x01\x00\x01", "\x00\x01\x01\x01", false, false, "\x01\x00\x01"},
		{"\xff", "\xff\xff", false, true, "\xff\xff"},
		{"\xff", "\x7f\xff", false, false, "\xff"},
		{same, same, true, true, same},
		{same, same[:511], true, false, same},
		{same[:1], same, false, true, same},
		{same, same + "\x00", false, true, same + "\x00"},
		{same + "\x01", same + "\x00", false, false, same + "\x01"},
		{same[:511] + "\xff", same, false, false, same[:511] + "\xff"},
		{"\xff" + same[1:], same, false, false, "\xff" + same[1:]},
		{same[:511] + "\xff", same + "\x00\x00", false, false, same[:511] + "\xff"},
		{same[:200], same[:300], false, true, same[:300]},
		{same[:200] + "\xff", same[:300], false, false, same[:200] + "\xff"},
	} {
		if hist.Goes(x.a, x.b) != x.a1 || hist.Goes(x.b, x.a) != x.b1 {
			t.Errorf("%.20q, %.20q: Goes: %v, %v", x.a, x.b, !x.a1, !x.b1)
		}
		if fit := x.a1 || x.b1; hist.Fit(x.a, x.b) != fit || hist.Fit(x.b, x.a) != fit {
			t.Errorf("%.20q, %.20q: Fit: not %v", x.a, x.b, fit)
		}
		if got := hist.Longer(x.a, x.b); got != x.long {
			t.Errorf("%.20q, %.20q: Longer: %.20q", x.a, x.b, got)
		}
	}
}

// P9.3: all pairs of small histories, and of the others.
func TestAllPairs(t *testing.T) {
	all := append(small(3, 5), histories()...)
	for _, a := range all {
		for _, b := range all {
			goes, back := goesOf(a, b), goesOf(b, a)
			if hist.Goes(a, b) != goes || hist.Fit(a, b) != (goes || back) {
				t.Fatalf("%.20q, %.20q: Goes: %v, Fit: %v", a, b, hist.Goes(a, b), hist.Fit(a, b))
			}
			want := a
			if back {
				want = b
			}
			if got := hist.Longer(a, b); got != want {
				t.Fatalf("%.20q, %.20q: Longer: %.20q", a, b, got)
			}
		}
	}
}

// P9.4: all operations, in order, whichever bytes there are and however many.
func TestOps(t *testing.T) {
	if got := gone(hist.Ops("\x00\x01\x00\x02"), most); !slices.Equal(got, []op{{0, 1}, {1, 1}, {0, 2}, {2, 1}}) {
		t.Error(got)
	}
	if got := gone(hist.Ops("\xff\x00\xff\x08\x07"), most); !slices.Equal(got, []op{{255, 1}, {0, 1}, {255, 2}, {8, 1}, {7, 1}}) {
		t.Error(got)
	}
	for _, h := range append(small(3, 5), histories()...) {
		if got := gone(hist.Ops(h), math.MaxInt); !slices.Equal(got, opsOf(h)) {
			t.Fatalf("%.20q: %d operations", h, len(got))
		}
	}
}

// P9.4: an empty history has none, but there is a function.
func TestOpsEmpty(t *testing.T) {
	ops := hist.Ops("")
	if ops == nil {
		t.Fatal("there is none")
	}
	ops(func(client, number int) bool {
		t.Error(client, number)
		return true
	})
}

// P9.4: as long as they are wanted: whoever says no is asked no more, and who goes on behind that begins anew.
func TestOpsLeft(t *testing.T) {
	for _, h := range []string{"\x00", "\x00\x01\x00\x02", "\x07\x07\x07", long(511, 2), long(512, 8), long(513, 256)} {
		all := opsOf(h)
		ops := hist.Ops(h)
		for _, wanted := range []int{1, 2, len(h) / 2, len(h) - 1, len(h)} {
			if wanted < 1 || wanted > len(h) {
				continue
			}
			var got []op
			ops(func(client, number int) bool {
				got = append(got, op{client, number})
				return len(got) < wanted
			})
			if !slices.Equal(got, all[:wanted]) {
				t.Errorf("%.20q: %d, and not the first %d", h, len(got), wanted)
			}
			if got := gone(ops, wanted); !slices.Equal(got, all[:wanted]) {
				t.Errorf("%.20q: again, %d, and not the first %d", h, len(got), wanted)
			}
		}
		if got := gone(ops, math.MaxInt); !slices.Equal(got, all) {
			t.Errorf("%.20q: whole: %d", h, len(got))
		}
	}
}

// P9.4: whoever returns out of a range has left it.
func TestOpsReturn(t *testing.T) {
	first := func(h string, client int) int {
		for by, number := range hist.Ops(h) {
			if by == client {
				return number
			}
		}
		return 0
	}
	if first("\x00\x01\x01", 1) != 1 || first("\x00\x01\x01", 2) != 0 || first("", 0) != 0 {
		t.Error("another one")
	}
}

// P9.4: gone through twice it tells the same.
func TestOpsTwice(t *testing.T) {
	for _, h := range histories() {
		ops := hist.Ops(h)
		for range 3 {
			if got := gone(ops, math.MaxInt); !slices.Equal(got, opsOf(h)) {
				t.Errorf("%.20q: %d operations", h, len(got))
			}
		}
	}
}

// P9.4: two, one within the other, know nothing of one another, be they one function or two.
func TestOpsWithin(t *testing.T) {
	const h, other = "\x00\x01\x00\xff", "\x00\x00\x01"
	ops := hist.Ops(h)
	for _, inner := range []struct {
		ops  func(yield func(client, number int) bool)
		want []op
	}{{ops, opsOf(h)}, {hist.Ops(h), opsOf(h)}, {hist.Ops(other), opsOf(other)}} {
		var out []op
		for client, number := range ops {
			out = append(out, op{client, number})
			if got := gone(inner.ops, most); !slices.Equal(got, inner.want) {
				t.Error("within:", got)
			}
			if got := gone(inner.ops, 2); !slices.Equal(got, inner.want[:2]) {
				t.Error("within, left:", got)
			}
		}
		if !slices.Equal(out, opsOf(h)) {
			t.Error("without:", out)
		}
	}
}

// R1: whoever hands in no function is told nothing.
func TestOpsNil(t *testing.T) {
	for _, h := range histories() {
		hist.Ops(h)(nil)
	}
}

// P9.5: lists in which all fit.
func TestForkNone(t *testing.T) {
	h := long(512, 8)
	many := make([]string, 513)
	for i := range many {
		many[i] = h[:i]
	}
	forks(t, nil, -1, -1)
	forks(t, []string{}, -1, -1)
	forks(t, []string{""}, -1, -1)
	forks(t, []string{"\x00"}, -1, -1)
	forks(t, []string{"\xff\x00"}, -1, -1)
	forks(t, []string{"", ""}, -1, -1)
	forks(t, []string{"\x00", "\x00"}, -1, -1)
	forks(t, []string{"", "\x00", ""}, -1, -1)
	forks(t, []string{"\x00", "\x00\x01"}, -1, -1)
	forks(t, []string{"\x00\x01", "\x00"}, -1, -1)
	forks(t, []string{"\x00\x01", "", "\x00", "\x00\x01\x00", "\x00\x01"}, -1, -1)
	forks(t, many, -1, -1)
	slices.Reverse(many)
	forks(t, many, -1, -1)
	rand.New(rand.NewSource(9)).Shuffle(len(many), func(i, j int) { many[i], many[j] = many[j], many[i] })
	forks(t, many, -1, -1)
}

// P9.5: lists with two that do not fit, next to each other and far apart.
func TestForkTwo(t *testing.T) {
	forks(t, []string{"\x00", "\x01"}, 0, 1)
	forks(t, []string{"\x01", "\x00"}, 0, 1)
	forks(t, []string{"\x00\x01", "\x00\x00"}, 0, 1)
	forks(t, []string{"\x00\x01", "\x00\x00\x01\x01"}, 0, 1)
	forks(t, []string{"\x00", "\x00", "\x01"}, 0, 2)
	forks(t, []string{"", "\x00", "\x01"}, 1, 2)
	forks(t, []string{"\x00", "", "\x01"}, 0, 2)
	forks(t, []string{"\x00\x01", "\x00", "\x00", "", "\x00\x02"}, 0, 4)
	forks(t, []string{"\x00", "\x00\x01", "\x00", "\x00\x02"}, 1, 3)
	forks(t, []string{"", "\x00", "\x00\x01", "\x00\x01\x02", "\x00\x01\x03"}, 3, 4)
	forks(t, []string{"", "\x00", "\x00\x01", "\x00\x01\x02", "\x01\x01\x03"}, 1, 4)
	h := long(512, 8)
	for _, between := range []int{0, 1, 100, 1000} {
		l := append([]string{"", h[:3], h}, slices.Repeat([]string{h[:511]}, between)...)
		forks(t, append(slices.Clone(l), h[:511]+"\xff"), 2, 3+between)
		forks(t, append(slices.Clone(l), "\xff"), 1, 3+between)
		forks(t, append(slices.Clone(l), h+"\x00", h+"\x01"), 3+between, 4+between)
	}
}

// P9.5: several pairs that do not fit: the lesser place of the second decides, then that of the first.
func TestForkSeveral(t *testing.T) {
	forks(t, []string{"\x00", "\x01", "\x02"}, 0, 1)
	forks(t, []string{"\x00", "\x00", "\x01", "\x01"}, 0, 2)
	forks(t, []string{"\x00", "\x00\x01", "\x00\x02", "\x01"}, 1, 2)
	forks(t, []string{"\x00\x01", "\x00", "\x00\x02", "\x01"}, 0, 2)
	forks(t, []string{"", "\x00", "\x00\x01", "\x00\x02", "\x01", "\x03"}, 2, 3)
	forks(t, []string{"\x00\x01\x02", "\x00\x01", "\x00\x01\x03", "\x00\x01\x02"}, 0, 2)
	forks(t, []string{"\x00", "\x00\x01", "\x00\x01\x02", "\x00\x03"}, 1, 3)
	forks(t, []string{"\x00\x01\x02", "\x00\x01", "\x00", "\x00\x03"}, 0, 3)
}

// P9.5: all lists of up to four small histories.
func TestForkAll(t *testing.T) {
	all := small(2, 3)
	for _, a := range all {
		for _, b := range all {
			for _, c := range all {
				for _, d := range all {
					l := []string{a, b, c, d}
					first, second := forkOf(l)
					forks(t, l, first, second)
					first, second = forkOf(l[:3])
					forks(t, l[:3], first, second)
				}
			}
		}
	}
}

// P9.5: lists of many histories that mostly fit.
func TestForkMany(t *testing.T) {
	r := rand.New(rand.NewSource(95))
	for range 2000 {
		h := long(60, 1+r.Intn(8))
		l := make([]string, r.Intn(60))
		for i := range l {
			l[i] = h[:r.Intn(61)]
			if r.Intn(30) == 0 {
				l[i] += string([]byte{byte(r.Intn(256))})
			}
		}
		first, second := forkOf(l)
		forks(t, l, first, second)
	}
}

// P9.6: each goes on itself; two that go on each other are the same; going on goes on over a third one; two that one history goes on fit.
func TestOrder(t *testing.T) {
	all := append(small(3, 4), histories()...)
	for _, a := range all {
		if !hist.Goes(a, a) || !hist.Fit(a, a) || hist.Longer(a, a) != a {
			t.Fatalf("%.20q: not with itself", a)
		}
		for _, b := range all {
			if hist.Goes(a, b) && hist.Goes(b, a) && a != b {
				t.Fatalf("%.20q, %.20q go on each other", a, b)
			}
			if hist.Fit(a, b) != hist.Fit(b, a) {
				t.Fatalf("%.20q, %.20q fit one way alone", a, b)
			}
			for _, c := range all {
				if hist.Goes(a, b) && hist.Goes(b, c) && !hist.Goes(a, c) {
					t.Fatalf("%.20q, %.20q, %.20q: not over the third", a, b, c)
				}
				if hist.Goes(a, b) && hist.Goes(a, c) && !hist.Fit(b, c) {
					t.Fatalf("%.20q goes on %.20q and %.20q, which do not fit", a, b, c)
				}
			}
		}
	}
}

// P9.6: beginnings of the longest history, each held against each.
func TestOrderOfBeginnings(t *testing.T) {
	h := long(512, 256)
	for i := range 513 {
		for j := range 513 {
			if hist.Goes(h[:i], h[:j]) != (i >= j) || !hist.Fit(h[:i], h[:j]) {
				t.Fatalf("beginnings of %d and %d", i, j)
			}
		}
	}
}

// goesOn asks what P9.7 says of a history and a beginning of it, for some clients.
func goesOn(t *testing.T, long, short string, clients []int) {
	t.Helper()
	for _, client := range clients {
		more, fewer := hist.Count(long, client), hist.Count(short, client)
		if more < fewer {
			t.Fatalf("%.20q, %.20q: client %d has %d, and %d", long, short, client, more, fewer)
		}
		for number := 1; number <= fewer; number++ {
			if p := hist.Place(long, client, number); p != hist.Place(short, client, number) || p < 0 {
				t.Fatalf("%.20q, %.20q: operation %d of %d: at %d", long, short, number, client, p)
			}
		}
		ends := len(short) > 0 && int(short[len(short)-1]) == client
		if ends && hist.Place(long, client, fewer) != len(short)-1 {
			t.Fatalf("%.20q, %.20q: the last one of %d: at %d", long, short, client, hist.Place(long, client, fewer))
		}
		if ends && more == fewer && hist.Upto(long, client) != short {
			t.Fatalf("%.20q, %.20q: up to the last one of %d: %.20q", long, short, client, hist.Upto(long, client))
		}
	}
}

// P9.7: a history that goes on another one has at least as many operations of each client, and the other one's at their places.
func TestCounts(t *testing.T) {
	all := small(3, 5)
	for _, long := range all {
		for _, short := range all {
			if hist.Goes(long, short) {
				goesOn(t, long, short, []int{-1, 0, 1, 2, 3, 256})
			}
		}
	}
	h := long(512, 8)
	for i := 0; i <= 512; i += 7 {
		goesOn(t, h, h[:i], []int{-1, 0, 1, 4, 7, 8, 255, 256})
		goesOn(t, h[:i], h[:i/2], []int{0, 1, 7})
	}
	goesOn(t, "\xff\x08\xff\x00", "\xff\x08\xff", []int{0, 7, 8, 255, 256})
}

// P9.2, P9.3: a history goes on each beginning that Upto tells, which ends with the client and has all its operations.
func TestUptoIsBeginning(t *testing.T) {
	for _, h := range append(small(3, 5), histories()...) {
		for _, client := range clients() {
			up := hist.Upto(h, client)
			if !hist.Goes(h, up) || hist.Count(up, client) != hist.Count(h, client) {
				t.Fatalf("%.20q: Upto of %d: %.20q", h, client, up)
			}
			if place := hist.Place(h, client, hist.Count(h, client)); place != len(up)-1 {
				t.Fatalf("%.20q: the last one of %d: at %d, and not %d", h, client, place, len(up)-1)
			}
		}
	}
}

// R3: what is answered is new memory.
func TestAnswersNew(t *testing.T) {
	h := strings.Clone(long(100, 3))
	for client := range 3 {
		if up := hist.Upto(h, client); up == "" || shares(up, h) {
			t.Errorf("Upto of %d shares memory, or is nothing", client)
		}
	}
	other := strings.Clone("\xff\xff")
	for _, x := range [][2]string{{h, h}, {h, h[:50]}, {h[:50], h}, {h, other}, {other, h}, {h, ""}, {"", h}} {
		if got := hist.Longer(x[0], x[1]); shares(got, x[0]) || shares(got, x[1]) {
			t.Error("Longer shares memory")
		}
	}
}

// R3: a history that is handed in is not kept as it is.
func TestNotKept(t *testing.T) {
	const h = "\x00\x01\x00\x02"
	b := []byte(h)
	s := unsafe.String(&b[0], len(b))
	ops, up, longer := hist.Ops(s), hist.Upto(s, 0), hist.Longer(s, "\x00")
	for i := range b {
		b[i] = 9
	}
	if got := gone(ops, most); !slices.Equal(got, opsOf(h)) || up != "\x00\x01\x00" || longer != h {
		t.Errorf("%v, %q, %q", got, up, longer)
	}
}

// R3: neither histories nor a list that are handed in are changed, the list's spare room neither.
func TestUnchanged(t *testing.T) {
	b := []byte("\x00\x01\x00\x02")
	s := unsafe.String(&b[0], len(b))
	hist.Right(s, 8)
	hist.Count(s, 0)
	hist.Upto(s, 0)
	hist.Place(s, 0, 2)
	hist.Goes(s, s[:2])
	hist.Fit(s, s[:2])
	hist.Longer(s, s[:2])
	gone(hist.Ops(s), most)
	l := []string{s, s[:2], "\x01", "\x02", "spare"}
	was := []string{"\x00\x01\x00\x02", "\x00\x01", "\x01", "\x02", "spare"}
	forks(t, l[:4], 0, 2)
	forks(t, l[:2], -1, -1)
	if string(b) != "\x00\x01\x00\x02" || !slices.Equal(l, was) {
		t.Errorf("%q, %q", b, l)
	}
}

// R4: asked again they answer the same.
func TestAgain(t *testing.T) {
	l := []string{"\x00\x01", "\x00", "\x00\x02", "\x01"}
	for range 100 {
		forks(t, l, 0, 2)
		if hist.Count("\x00\x01\x00", 0) != 2 || hist.Place("\x00\x01\x00", 0, 2) != 2 || hist.Upto("\x00\x01\x00", 1) != "\x00\x01" || !hist.Right("\x00\x01\x00", 2) {
			t.Fatal("another answer")
		}
	}
}
