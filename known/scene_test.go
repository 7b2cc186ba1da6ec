package known_test

import (
	"math"
	"strings"
	"testing"

	"affidavit/api"
	"affidavit/known"
)

// The document's numbers, written out: a limit that were another one in the program would be found.
const (
	fewest  = 2
	most    = 8
	longest = 512
)

// numbers are those that clients have, and those around them and far away, some of which have a client's last bits.
func numbers() []int {
	return []int{
		math.MinInt, math.MinInt + 1, -1 << 32, -257, -256, -255, -8, -2, -1, 0, 1, 2, 3, 4, 5, 6, 7, 8, 9, 10,
		254, 255, 256, 257, 258, 1 << 16, 1 << 32, 1<<32 + 1, 1<<32 + 2, math.MaxInt - 1, math.MaxInt,
	}
}

// look is all that there is to see.
type look struct {
	words, owns [most]string
	longest     string
	by          int
	tag         api.Digest
	clients     int
	stable      [most]int
	cut, seen   int
}

// looked is all that can be seen.
func looked(t *testing.T, k *known.Known) look {
	t.Helper()
	var l look
	for client := range most {
		l.words[client], l.owns[client] = k.Word(client), k.Own(client)
	}
	l.longest, l.by, l.tag = k.Longest()
	stable := k.Stable()
	if len(stable) > most {
		t.Fatalf("Stable of %d clients", len(stable))
	}
	l.clients = copy(l.stable[:], stable)
	l.cut, l.seen = k.Cut(), k.Seen()
	return l
}

// nothing is what is seen as long as nothing is known.
func nothing(clients int) look { return look{by: -1, clients: clients} }

// fresh makes one that knows nothing.
func fresh(t *testing.T, clients, me int) *known.Known {
	t.Helper()
	k, e := known.New(clients, me)
	if e != api.OK || k == nil {
		t.Fatalf("New(%d, %d): %d", clients, me, int(e))
	}
	return k
}

// learns asks for what Learn answers.
func learns(t *testing.T, k *known.Known, from, by int, view string, tag api.Digest, e api.Errno) {
	t.Helper()
	if got := k.Learn(from, by, view, tag); got != e {
		t.Fatalf("Learn(%d, %d, %.20q of %d): %d, and not %d", from, by, view, len(view), int(got), int(e))
	}
}

// hears learns a view from a client, by whom it ends with, with the tag that belongs to it.
func hears(t *testing.T, k *known.Known, from int, view string) {
	t.Helper()
	learns(t, k, from, ender(view), view, tagOf(view), api.OK)
}

// sees asks for all that there is to see.
func sees(t *testing.T, k *known.Known, want look) {
	t.Helper()
	if got := looked(t, k); got != want {
		t.Fatalf("seen:\n%v\nand not:\n%v", got, want)
	}
}

// counts asks for Stable, Cut and Seen.
func counts(t *testing.T, k *known.Known, cut, seen int, stable ...int) {
	t.Helper()
	l := looked(t, k)
	for client, n := range stable {
		if l.stable[client] != n {
			t.Fatalf("Stable of %d: %d, and not %d", client, l.stable[client], n)
		}
	}
	if l.clients != len(stable) || l.cut != cut || l.seen != seen {
		t.Fatalf("%d clients, Cut %d, Seen %d, and not %d, %d, %d", l.clients, l.cut, l.seen, len(stable), cut, seen)
	}
}

// ender is the client that a view, which is not empty, ends with.
func ender(view string) int { return int(view[len(view)-1]) }

// tagOf is a tag that tells views apart.
func tagOf(view string) api.Digest {
	n := len(view)
	return api.Digest{0: byte(n), 1: byte(n >> 8), 2: byte(ender(view)), 31: 0x5a}
}

// line is n operations of so many clients.
func line(n, clients int) string {
	b := make([]byte, n)
	for i := range b {
		b[i] = byte((i*i + i/3) % clients)
	}
	return string(b)
}

// ends is a view, and an operation of a client behind it.
func ends(view string, client int) string { return view + string([]byte{byte(client)}) }

// small are all views of so many clients with 1 to n operations.
func small(clients, n int) []string {
	all := []string{""}
	for from := 0; n > 0; n-- {
		end := len(all)
		for _, h := range all[from:end] {
			for c := range clients {
				all = append(all, ends(h, c))
			}
		}
		from = end
	}
	return all[1:]
}

// told is a view that came.
type told struct {
	from, by int
	view     string
	tag      api.Digest
}

// book is the second set of rules: it has all that came, in order, and tells everything from that anew.
type book struct {
	clients, me int
	all         []told
}

// may tells whether a view may be, by somebody.
func (b *book) may(by int, view string) bool {
	if len(view) == 0 || len(view) > longest || int(view[len(view)-1]) != by {
		return false
	}
	for _, c := range []byte(view) {
		if int(c) >= b.clients {
			return false
		}
	}
	return true
}

// fits tells whether a view fits each one that came.
func (b *book) fits(view string) bool {
	for _, x := range b.all {
		n := min(len(x.view), len(view))
		if x.view[:n] != view[:n] {
			return false
		}
	}
	return true
}

// learn does what P16.2 says.
func (b *book) learn(x told) api.Errno {
	if x.from < 0 || x.from >= b.clients || x.by < 0 || x.by >= b.clients || !b.may(x.by, x.view) {
		return api.ErrArg
	}
	if !b.fits(x.view) {
		return api.ErrFork
	}
	b.all = append(b.all, x)
	return api.OK
}

// mine is how many of me's operations a view has.
func (b *book) mine(view string) int { return strings.Count(view, string([]byte{byte(b.me)})) }

// look does what P16.3 says.
func (b *book) look() look {
	l := nothing(b.clients)
	for _, x := range b.all {
		if len(x.view) > len(l.words[x.from]) {
			l.words[x.from] = x.view
		}
		if x.by == x.from && len(x.view) > len(l.owns[x.from]) {
			l.owns[x.from] = x.view
		}
		if len(x.view) > len(l.longest) {
			l.longest, l.by, l.tag = x.view, x.by, x.tag
		}
	}
	l.cut, l.seen = longest+1, longest+1
	for client := range b.clients {
		l.stable[client] = b.mine(l.words[client])
		l.cut = min(l.cut, l.stable[client])
		if client != b.me {
			l.seen = min(l.seen, b.mine(l.owns[client]))
		}
	}
	return l
}

// both is one that is to be held against a book.
type both struct {
	k *known.Known
	b *book
}

// pair makes one, and its book.
func pair(t *testing.T, clients, me int) both {
	t.Helper()
	return both{fresh(t, clients, me), &book{clients: clients, me: me}}
}

// learn asks for the same answer, and the same looks behind it, and that these only grew. It tells the answer.
func (p both) learn(t *testing.T, x told) api.Errno {
	t.Helper()
	before := p.b.look()
	e := p.b.learn(x)
	learns(t, p.k, x.from, x.by, x.view, x.tag, e)
	after := looked(t, p.k)
	if want := p.b.look(); after != want {
		t.Fatalf("behind Learn(%d, %d, %.20q of %d):\n%v\nand not:\n%v", x.from, x.by, x.view, len(x.view), after, want)
	}
	oneLine(t, after, p.b.me)
	grown(t, before, after)
	return e
}

// oneLine asks for what P16.4 says, and for what P16.5 says of Seen and Cut.
func oneLine(t *testing.T, l look, me int) {
	t.Helper()
	line := places(l.longest, me)
	for client := range most {
		for _, s := range []string{l.words[client], l.owns[client]} {
			if !strings.HasPrefix(l.longest, s) {
				t.Fatalf("client %d: %q is no beginning of %q", client, s, l.longest)
			}
			for i, place := range places(s, me) {
				if line[i] != place {
					t.Fatalf("client %d: operation %d stands at %d, and at %d", client, i+1, place, line[i])
				}
			}
		}
		if n := len(places(l.words[client], me)); l.stable[client] != n {
			t.Fatalf("client %d: %d are counted, and there are %d", client, l.stable[client], n)
		}
	}
	// Cut is the least of all of them: but for me's own word Seen is not above it.
	for client := range l.clients {
		if client != me && l.seen > l.stable[client] {
			t.Fatalf("Seen is %d, and client %d has %d", l.seen, client, l.stable[client])
		}
	}
	if l.seen > l.cut && l.cut != l.stable[me] {
		t.Fatalf("Seen is %d, Cut %d, and me has %d", l.seen, l.cut, l.stable[me])
	}
}

// places are where a client's operations stand.
func places(view string, client int) []int {
	var l []int
	for i := range len(view) {
		if int(view[i]) == client {
			l = append(l, i)
		}
	}
	return l
}

// grown asks for what P16.5 says.
func grown(t *testing.T, before, after look) {
	t.Helper()
	grew := strings.HasPrefix(after.longest, before.longest) && after.cut >= before.cut && after.seen >= before.seen
	for client := range most {
		grew = grew && strings.HasPrefix(after.words[client], before.words[client])
		grew = grew && strings.HasPrefix(after.owns[client], before.owns[client])
		grew = grew && after.stable[client] >= before.stable[client]
	}
	if !grew {
		t.Fatalf("not grown:\n%v\nto:\n%v", before, after)
	}
}
