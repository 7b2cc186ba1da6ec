package ring_test

import (
	"crypto/hmac"
	"crypto/sha256"
	"math"
	"math/rand"
	"strconv"
	"strings"
	"testing"
	"unsafe"

	"affidavit/api"
	"affidavit/ring"
)

// made is what stands in a book.
type made struct {
	client, domain int
	text           string
}

// hmacOf is a tag as somebody else makes it.
func hmacOf(key, text string) api.Digest {
	h := hmac.New(sha256.New, []byte(key))
	h.Write([]byte(text))
	return api.Digest(h.Sum(nil))
}

// keyOf is a key that a seed makes, as somebody else makes it.
func keyOf(seed, label string, n int) string {
	d := hmacOf(seed, strconv.Itoa(len(label))+":"+label+strconv.Itoa(n)+";")
	return string(d[:])
}

// right is a client's tag, as somebody else makes it, whether there is such a client and domain or not.
func right(seed string, x made) api.Digest {
	return hmacOf(keyOf(seed, "client", x.client), strconv.Itoa(x.domain)+";"+x.text)
}

// ringOf is a ring that there may be.
func ringOf(t *testing.T, seed string, clients int) *ring.Ring {
	t.Helper()
	r, e := ring.New(seed, clients)
	if e != api.OK || r == nil {
		t.Fatalf("a seed of %d bytes, %d clients: a ring: %v, %d", len(seed), clients, r != nil, int(e))
	}
	return r
}

// tagged is a tag that may be made.
func tagged(t *testing.T, r *ring.Ring, x made) api.Digest {
	t.Helper()
	d, e := r.Tag(x.client, x.domain, x.text)
	if e != api.OK {
		t.Fatalf("%d, %d, %.20q: %d", x.client, x.domain, x.text, int(e))
	}
	return d
}

// seeds are none, short ones, such with bytes that are no runes, and the longest ones.
func seeds() []string {
	return []string{"", "s", "seed", "\x00", "\xff\xfe;:", strings.Repeat("s", 32), strings.Repeat("s", 63), strings.Repeat("s", 64)}
}

// texts are none, such that look like what is laid, bytes that are no runes, and the longest ones.
func texts() []string {
	return []string{"", "a", "b", "ab", "a\x00", "1;a", "2;a", "1;", ";", "\x00", "\xff", "\xfe", "\xef\xbf\xbd", "ä", strings.Repeat("x", 16383), strings.Repeat("x", 16384)}
}

// all are all that may be tagged of these texts.
func all(clients int, texts []string) []made {
	var l []made
	for c := range clients {
		for d := api.DSubmit; d <= api.DAlarm; d++ {
			for _, s := range texts {
				l = append(l, made{c, d, s})
			}
		}
	}
	return l
}

// wrong are some that may not be tagged by a ring of so many clients.
func wrong(clients int) []made {
	var l []made
	for _, c := range []int{-1, clients, clients + 1, -clients, 1 << 32, math.MaxInt, math.MinInt} {
		l = append(l, made{c, api.DData, "a"})
	}
	for _, d := range []int{0, 7, -1, 8, -6, 1 << 32, 1<<32 + 1, math.MaxInt, math.MinInt} {
		l = append(l, made{1, d, "a"})
	}
	for _, n := range []int{16385, 16386, 1 << 15, 1 << 20} {
		l = append(l, made{1, api.DData, strings.Repeat("a", n)})
	}
	return append(l, made{-1, 0, ""}, made{clients, 7, strings.Repeat("a", 16385)})
}

// P4.1: so many clients and such seeds there may be, and a new ring's book is empty.
func TestNew(t *testing.T) {
	for clients := 2; clients <= 8; clients++ {
		for _, seed := range seeds() {
			r := ringOf(t, seed, clients)
			if r.Clients() != clients || r.Len() != 0 {
				t.Errorf("a seed of %d bytes, %d clients: %d, %d in the book", len(seed), clients, r.Clients(), r.Len())
			}
			for _, x := range all(clients, []string{"", "a"}) {
				if r.Made(x.client, x.domain, x.text) {
					t.Errorf("%d clients: a new ring has %v", clients, x)
				}
			}
		}
	}
}

// P4.1: fewer or more clients, and longer seeds.
func TestNewRefused(t *testing.T) {
	for _, clients := range []int{1, 9, 0, -1, -2, -8, 10, 1 << 32, 1<<32 + 2, math.MaxInt, math.MinInt} {
		for _, seed := range seeds() {
			if r, e := ring.New(seed, clients); r != nil || e != api.ErrArg {
				t.Errorf("a seed of %d bytes, %d clients: a ring: %v, %d", len(seed), clients, r != nil, int(e))
			}
		}
	}
	for _, size := range []int{65, 66, 128, 1 << 17} {
		for _, clients := range []int{1, 2, 3, 8, 9} {
			if r, e := ring.New(strings.Repeat("s", size), clients); r != nil || e != api.ErrArg {
				t.Errorf("a seed of %d bytes, %d clients: a ring: %v, %d", size, clients, r != nil, int(e))
			}
		}
	}
}

// The chapter's example.
func TestExample(t *testing.T) {
	r := ringOf(t, "seed", 3)
	d := tagged(t, r, made{1, api.DData, "a"})
	if !r.Check(1, api.DData, "a", d) || !r.Made(1, api.DData, "a") || r.Made(2, api.DData, "a") || r.Len() != 1 {
		t.Errorf("%v, %v, %v, %d", r.Check(1, api.DData, "a", d), r.Made(1, api.DData, "a"), r.Made(2, api.DData, "a"), r.Len())
	}
}

// P4.2, P4.4: each tag is that by its client's key of its domain's bytes and its text; it checks, and is in the book.
func TestTag(t *testing.T) {
	for _, seed := range seeds() {
		for _, clients := range []int{2, 3, 8} {
			r := ringOf(t, seed, clients)
			for i, x := range all(clients, texts()) {
				if r.Made(x.client, x.domain, x.text) {
					t.Errorf("%d, %d, %.20q: made ahead of its time", x.client, x.domain, x.text)
				}
				d := tagged(t, r, x)
				if d != right(seed, x) {
					t.Errorf("%.10q, %d, %d, %.20q: %x", seed, x.client, x.domain, x.text, d)
				}
				if !r.Check(x.client, x.domain, x.text, d) || !r.Made(x.client, x.domain, x.text) || r.Len() != i+1 {
					t.Errorf("%.10q, %d, %d, %.20q: checks or is made not; %d in the book, not %d", seed, x.client, x.domain, x.text, r.Len(), i+1)
				}
			}
		}
	}
}

// P4.2: what may not be tagged has no tag, not even that which would be right, and comes not into the book.
func TestTagRefused(t *testing.T) {
	for clients := 2; clients <= 8; clients++ {
		r := ringOf(t, "seed", clients)
		tagged(t, r, made{1, api.DData, "a"})
		for _, x := range wrong(clients) {
			if d, e := r.Tag(x.client, x.domain, x.text); d != (api.Digest{}) || e != api.ErrArg {
				t.Errorf("%d of %d, %d, %d bytes: %x, %d", x.client, clients, x.domain, len(x.text), d, int(e))
			}
			if r.Check(x.client, x.domain, x.text, right("seed", x)) || r.Check(x.client, x.domain, x.text, api.Digest{}) {
				t.Errorf("%d of %d, %d, %d bytes: checks", x.client, clients, x.domain, len(x.text))
			}
			if r.Made(x.client, x.domain, x.text) || r.Len() != 1 {
				t.Errorf("%d of %d, %d, %d bytes: in the book, of %d", x.client, clients, x.domain, len(x.text), r.Len())
			}
		}
	}
}

// P4.2: the first and the last client, domain and length that there are.
func TestTagAtTheEdges(t *testing.T) {
	for clients := 2; clients <= 8; clients++ {
		r := ringOf(t, "seed", clients)
		for _, x := range []made{{0, 1, ""}, {clients - 1, 6, strings.Repeat("a", 16384)}, {0, 6, "a"}, {clients - 1, 1, strings.Repeat("a", 16383)}} {
			if d, e := r.Tag(x.client, x.domain, x.text); e != api.OK || d != right("seed", x) {
				t.Errorf("%d of %d, %d, %d bytes: %x, %d", x.client, clients, x.domain, len(x.text), d, int(e))
			}
		}
		if r.Len() != 4 {
			t.Errorf("%d clients: %d in the book", clients, r.Len())
		}
	}
}

// P4.2: what is right checks though nobody has tagged it, and is not in the book because of that.
func TestCheckOutsideTheBook(t *testing.T) {
	r := ringOf(t, "seed", 4)
	for _, x := range all(4, texts()) {
		if !r.Check(x.client, x.domain, x.text, right("seed", x)) {
			t.Errorf("%d, %d, %.20q: does not check", x.client, x.domain, x.text)
		}
		if r.Made(x.client, x.domain, x.text) || r.Len() != 0 {
			t.Errorf("%d, %d, %.20q: in the book, of %d", x.client, x.domain, x.text, r.Len())
		}
	}
}

// P4.2: a tag that is changed in one byte is none, in the book or not.
func TestCheckOfAChangedTag(t *testing.T) {
	r := ringOf(t, "seed", 3)
	in, out := made{2, api.DCommit, "text"}, made{2, api.DCommit, "other"}
	tagged(t, r, in)
	for _, x := range []made{in, out} {
		for i := range len(api.Digest{}) {
			for _, bit := range []byte{1, 16, 128, 255} {
				d := right("seed", x)
				d[i] ^= bit
				if r.Check(x.client, x.domain, x.text, d) {
					t.Errorf("%q: byte %d changed by %d", x.text, i, bit)
				}
			}
		}
		if r.Check(x.client, x.domain, x.text, api.Digest{}) || !r.Check(x.client, x.domain, x.text, right("seed", x)) {
			t.Errorf("%q: a tag of zero bytes, or its own", x.text)
		}
	}
	if r.Len() != 1 {
		t.Errorf("%d in the book", r.Len())
	}
}

// P4.2: a tag is of one client, one domain and one text.
func TestCheckOfOthersTags(t *testing.T) {
	r := ringOf(t, "seed", 3)
	l := all(3, []string{"", "a", "b", "1;a", "\x00"})
	for _, x := range l {
		d := tagged(t, r, x)
		for _, y := range l {
			if got := r.Check(y.client, y.domain, y.text, d); got != (x == y) {
				t.Errorf("%v's tag as %v's: %v", x, y, got)
			}
		}
	}
}

// P4.3: the key that all share is made of the seed alone, whatever is tagged.
func TestSecret(t *testing.T) {
	for _, seed := range seeds() {
		want := keyOf(seed, "secret", 0)
		for clients := 2; clients <= 8; clients++ {
			r := ringOf(t, seed, clients)
			first := r.Secret()
			tagged(t, r, made{1, api.DBlob, "a"})
			if first != want || r.Secret() != want {
				t.Errorf("%.10q, %d clients: %x, then %x, not %x", seed, clients, first, r.Secret(), want)
			}
		}
	}
}

// P4.2, P4.3: of a nil ring.
func TestNilRing(t *testing.T) {
	var r *ring.Ring
	for _, x := range append(wrong(2), made{0, api.DSubmit, ""}, made{1, api.DData, "a"}) {
		if d, e := r.Tag(x.client, x.domain, x.text); d != (api.Digest{}) || e != api.ErrNil {
			t.Errorf("Tag of %d, %d, %d bytes: %x, %d", x.client, x.domain, len(x.text), d, int(e))
		}
		if r.Check(x.client, x.domain, x.text, right("", x)) || r.Check(x.client, x.domain, x.text, api.Digest{}) {
			t.Errorf("Check of %d, %d, %d bytes", x.client, x.domain, len(x.text))
		}
		if r.Made(x.client, x.domain, x.text) {
			t.Errorf("Made of %d, %d, %d bytes", x.client, x.domain, len(x.text))
		}
	}
	if r.Clients() != 0 || r.Len() != 0 || r.Secret() != "" {
		t.Errorf("%d, %d, %x", r.Clients(), r.Len(), r.Secret())
	}
}

// P4.4: what is tagged again and again is in the book once, with one tag.
func TestTagAgain(t *testing.T) {
	r := ringOf(t, "seed", 2)
	x, y := made{0, api.DVersion, "a"}, made{1, api.DVersion, "a"}
	first := tagged(t, r, x)
	for i := range 100 {
		if d := tagged(t, r, x); d != first || r.Len() != 1 {
			t.Fatalf("time %d: %x, not %x; %d in the book", i, d, first, r.Len())
		}
	}
	tagged(t, r, y)
	if d := tagged(t, r, x); d != first || r.Len() != 2 || !r.Made(0, api.DVersion, "a") || !r.Made(1, api.DVersion, "a") {
		t.Errorf("behind another one: %x, %d in the book", d, r.Len())
	}
}

// P4.5: what one tagged is nobody else's, of no other domain and no other text.
func TestApart(t *testing.T) {
	l := all(8, []string{"", "a", "b", "ab", "1;a", "a\x00", "\xff", "\xfe", "\xef\xbf\xbd"})
	for _, x := range l {
		r := ringOf(t, "seed", 8)
		tagged(t, r, x)
		for _, y := range append(wrong(8), l...) {
			if r.Made(y.client, y.domain, y.text) != (x == y) {
				t.Errorf("%v tagged: %d, %d, %.20q is made, or not", x, y.client, y.domain, y.text)
			}
		}
		if r.Len() != 1 {
			t.Errorf("%v tagged: %d in the book", x, r.Len())
		}
	}
}

// P4.4, P4.5: two rings of one seed make the same tags, and have each a book of its own.
func TestTwoRingsOfOneSeed(t *testing.T) {
	few, many := ringOf(t, "seed", 2), ringOf(t, "seed", 8)
	x := made{1, api.DAlarm, "a"}
	d := tagged(t, few, x)
	if many.Made(x.client, x.domain, x.text) || many.Len() != 0 || !many.Check(x.client, x.domain, x.text, d) {
		t.Errorf("the other ring has it, of %d, or does not check it", many.Len())
	}
	if tagged(t, many, x) != d || few.Secret() != many.Secret() {
		t.Error("tags or secrets differ")
	}
	tagged(t, many, made{7, api.DAlarm, "a"})
	if few.Len() != 1 || many.Len() != 2 || few.Made(7, api.DAlarm, "a") {
		t.Errorf("%d and %d in the books", few.Len(), many.Len())
	}
	if few.Check(7, api.DAlarm, "a", right("seed", made{7, api.DAlarm, "a"})) {
		t.Error("a client that there is in the other ring alone")
	}
}

// P4.2: a ring of another seed takes none of the tags.
func TestRingOfAnotherSeed(t *testing.T) {
	r := ringOf(t, "seed", 3)
	for _, seed := range []string{"", "see", "seeds", "Seed", "\x00seed", strings.Repeat("s", 64)} {
		other := ringOf(t, seed, 3)
		for _, x := range all(3, []string{"", "a"}) {
			d := tagged(t, r, x)
			if other.Check(x.client, x.domain, x.text, d) || other.Secret() == r.Secret() {
				t.Errorf("%.10q: %v", seed, x)
			}
		}
	}
}

// P4.2 to P4.5: whatever is asked in whatever order, the book is what was tagged.
func TestBookIsWhatWasTagged(t *testing.T) {
	chance := rand.New(rand.NewSource(4))
	some := []string{"", "a", "b", "1;a", strings.Repeat("x", 16384), strings.Repeat("x", 16385)}
	for clients := 2; clients <= 8; clients++ {
		r := ringOf(t, "seed", clients)
		book := map[made]int{}
		for range 2000 {
			x := made{chance.Intn(clients+2) - 1, chance.Intn(8), some[chance.Intn(len(some))]}
			may := x.client >= 0 && x.client < clients && x.domain >= 1 && x.domain <= 6 && len(x.text) <= 16384
			if got := r.Made(x.client, x.domain, x.text); got != (book[x] > 0) {
				t.Fatalf("%d, %d, %.10q: made: %v", x.client, x.domain, x.text, got)
			}
			if chance.Intn(2) == 0 {
				if got := r.Check(x.client, x.domain, x.text, right("seed", x)); got != may {
					t.Fatalf("%d, %d, %.10q: checks: %v", x.client, x.domain, x.text, got)
				}
			} else if _, e := r.Tag(x.client, x.domain, x.text); (e == api.OK) != may {
				t.Fatalf("%d, %d, %.10q: %d", x.client, x.domain, x.text, int(e))
			} else if may {
				book[x]++
			}
			if r.Len() != len(book) {
				t.Fatalf("%d in the book, not %d", r.Len(), len(book))
			}
		}
	}
}

// R3: neither a seed nor a text is kept as it is, however often it comes.
func TestNothingIsKeptAsItIs(t *testing.T) {
	seed, text := []byte("seed"), []byte("text")
	r := ringOf(t, unsafe.String(&seed[0], len(seed)), 2)
	for range 2 {
		tagged(t, r, made{1, api.DData, unsafe.String(&text[0], len(text))})
	}
	seed[0], text[0] = 'x', 'x'
	x := made{1, api.DData, "text"}
	if !r.Made(1, api.DData, "text") || r.Made(1, api.DData, "xext") || tagged(t, r, x) != right("seed", x) || r.Len() != 1 {
		t.Errorf("the book changed with what was handed in: %d", r.Len())
	}
	if r.Secret() != keyOf("seed", "secret", 0) {
		t.Error("the keys changed with the seed")
	}
}
