package known_test

import (
	"math"
	"slices"
	"strings"
	"testing"
	"unsafe"

	"affidavit/api"
	"affidavit/known"
)

// The chapter's example.
func TestExample(t *testing.T) {
	k := fresh(t, 2, 0)
	learns(t, k, 1, 1, "\x00\x01", api.Digest{}, api.OK)
	counts(t, k, 0, 1, 0, 1)
	learns(t, k, 1, 1, "\x01", api.Digest{}, api.ErrFork)
	counts(t, k, 0, 1, 0, 1)
}

// P16.1: from 2 to 8 clients, of whom me is one; nothing is known then. Else there is none.
func TestNew(t *testing.T) {
	made := 0
	for _, clients := range numbers() {
		for _, me := range append(numbers(), clients-1, clients) {
			k, e := known.New(clients, me)
			if clients < fewest || clients > most || me < 0 || me >= clients {
				if k != nil || e != api.ErrArg {
					t.Errorf("New(%d, %d): %v, %d", clients, me, k != nil, int(e))
				}
				continue
			}
			made++
			if k == nil || e != api.OK {
				t.Fatalf("New(%d, %d): %v, %d", clients, me, k != nil, int(e))
			}
			sees(t, k, nothing(clients))
		}
	}
	if made < 2+3+4+5+6+7+8 {
		t.Error(made)
	}
}

// P16.2: from is a client; each of them, and nobody beside them.
func TestLearnFrom(t *testing.T) {
	for clients := fewest; clients <= most; clients++ {
		for me := range clients {
			for _, from := range numbers() {
				p := pair(t, clients, me)
				want := api.ErrArg
				if from >= 0 && from < clients {
					want = api.OK
				}
				for _, x := range []told{{from, 0, "\x00", api.Digest{1}}, {from, clients - 1, ends("\x00\x01", clients-1), api.Digest{2}}} {
					if e := p.learn(t, x); e != want {
						t.Fatalf("%d clients, from %d: %d", clients, from, int(e))
					}
				}
			}
		}
	}
}

// P16.2: by is a client, with whom the view ends, whatever the last bits of others are.
func TestLearnBy(t *testing.T) {
	for clients := fewest; clients <= most; clients++ {
		for _, by := range append(numbers(), clients-1, clients) {
			for last := range 256 {
				for _, view := range []string{ends("", last), ends("\x00\x01", last), ends(ends("", by&0xff), last)} {
					p := pair(t, clients, clients-1)
					want := api.ErrArg
					if by == last && by < clients {
						want = api.OK
					}
					if e := p.learn(t, told{0, by, view, api.Digest{1}}); e != want {
						t.Fatalf("%d clients, by %d, %q: %d", clients, by, view, int(e))
					}
				}
			}
		}
	}
}

// P16.2: an empty view is refused, whoever it is said to be by, at first and later.
func TestLearnEmpty(t *testing.T) {
	p := pair(t, 3, 0)
	for range 2 {
		for _, by := range numbers() {
			for _, from := range numbers() {
				if e := p.learn(t, told{from, by, "", api.Digest{3}}); e != api.ErrArg {
					t.Fatal(from, by, int(e))
				}
			}
		}
		p.learn(t, told{1, 2, "\x00\x01\x02", api.Digest{4}})
	}
}

// P16.2: 512 operations may be, and no more, though the view fits.
func TestLearnLength(t *testing.T) {
	for clients := fewest; clients <= most; clients++ {
		long := line(longest+200, clients)
		for _, n := range []int{longest - 1, longest, longest + 1, longest + 2, longest + 200} {
			p := pair(t, clients, 1)
			p.learn(t, told{0, ender(long[:longest-2]), long[:longest-2], api.Digest{1}})
			for _, m := range []int{n, longest, n} {
				want := api.ErrArg
				if m <= longest {
					want = api.OK
				}
				if e := p.learn(t, told{1, ender(long[:m]), long[:m], api.Digest{byte(m)}}); e != want {
					t.Fatalf("%d operations: %d", m, int(e))
				}
			}
		}
	}
	k := fresh(t, 2, 1)
	hears(t, k, 0, strings.Repeat("\x01", longest))
	hears(t, k, 1, strings.Repeat("\x01", longest))
	counts(t, k, 512, 0, 512, 512)
	learns(t, k, 0, 1, strings.Repeat("\x01", longest+1), api.Digest{}, api.ErrArg)
	counts(t, k, 512, 0, 512, 512)
}

// P16.2: one byte that is no client is enough, wherever it stands.
func TestLearnBytes(t *testing.T) {
	for clients := fewest; clients <= most; clients++ {
		for _, n := range []int{1, 2, 3, 20, longest - 1, longest} {
			for _, wrong := range []int{clients, clients + 1, 8, 9, 127, 128, 254, 255} {
				for _, place := range []int{0, 1, n / 2, n - 2, n - 1} {
					if place < 0 || place >= n || wrong < clients {
						continue
					}
					p := pair(t, clients, 0)
					b := []byte(line(n, clients))
					right := string(b)
					b[place] = byte(wrong)
					for _, by := range []int{ender(right), wrong} {
						if e := p.learn(t, told{1, by, string(b), api.Digest{1}}); e != api.ErrArg {
							t.Fatalf("%d clients, %d of %d is %d, by %d: %d", clients, place, n, wrong, by, int(e))
						}
					}
					hears(t, p.k, 1, right)
				}
			}
		}
	}
}

// P16.2: a view that the longest one does not fit is refused, be it shorter, as long or longer, wherever they part, whoever it comes from.
func TestLearnFork(t *testing.T) {
	for _, x := range [][2]string{
		{"\x00", "\x01"}, {"\x01", "\x00"}, {"\x00", "\x01\x00"}, {"\x00", "\x01\x00\x01"}, {"\x00\x01", "\x01"}, {"\x00\x01\x02", "\x02"},
		{"\x00\x01", "\x00\x00"}, {"\x00\x01", "\x00\x02"}, {"\x00\x01", "\x01\x01"}, {"\x00\x01", "\x00\x00\x01"}, {"\x00\x01\x02", "\x00\x00"},
		{"\x00\x01\x02", "\x01\x02"}, {"\x00\x01\x02", "\x02\x01\x00"}, {"\x00\x01\x02", "\x01\x00\x02"}, {"\x00\x01\x02", "\x00\x01\x00"}, {"\x00\x00\x01", "\x00\x01"},
	} {
		for from := range 3 {
			for teller := range 3 {
				p := pair(t, 3, 0)
				p.learn(t, told{teller, ender(x[0]), x[0], api.Digest{1}})
				for range 2 {
					if e := p.learn(t, told{from, ender(x[1]), x[1], api.Digest{2}}); e != api.ErrFork {
						t.Fatalf("%q behind %q: %d", x[1], x[0], int(e))
					}
				}
			}
		}
	}
	long := line(longest, 8)
	for place := range long {
		p := pair(t, 8, 3)
		p.learn(t, told{1, ender(long), long, api.Digest{1}})
		b := []byte(long)
		b[place] = (b[place] + 1) % 8
		for _, view := range []string{string(b), string(b[:place+1])} {
			if e := p.learn(t, told{2, ender(view), view, api.Digest{2}}); e != api.ErrFork {
				t.Fatalf("another operation at %d: %d", place, int(e))
			}
		}
	}
}

// P16.2: it is the longest view that a view must fit: from's word and its own, which it fits, are not enough.
func TestLearnForkOfOthers(t *testing.T) {
	p := pair(t, 3, 0)
	p.learn(t, told{1, 1, "\x01", api.Digest{1}})
	p.learn(t, told{2, 0, "\x01\x02\x00", api.Digest{2}})
	for from := range 3 {
		for _, view := range []string{"\x01\x01", "\x01\x02\x01", "\x01\x02\x02\x00", "\x01\x00"} {
			if e := p.learn(t, told{from, ender(view), view, api.Digest{3}}); e != api.ErrFork {
				t.Fatalf("%q from %d: %d", view, from, int(e))
			}
		}
	}
	// And what fits it is enough, though from never told what stands between.
	for from := range 3 {
		if e := p.learn(t, told{from, 1, "\x01\x02\x00\x02\x01", api.Digest{4}}); e != api.OK {
			t.Fatal(int(e))
		}
	}
}

// R2: nil stands ahead of what may not be, and that ahead of what does not fit.
func TestWhichError(t *testing.T) {
	p := pair(t, 3, 1)
	p.learn(t, told{1, 2, "\x00\x01\x02", api.Digest{1}})
	for _, c := range []struct {
		what string
		x    told
	}{
		{"from is no client, it does not fit", told{3, 2, "\x01\x02", api.Digest{2}}},
		{"from is below 0, it does not fit", told{-1, 2, "\x01\x02", api.Digest{2}}},
		{"by is no client, it does not fit", told{0, 3, "\x01\x03", api.Digest{2}}},
		{"by is below 0, it does not fit", told{0, -1, "\x01\x02", api.Digest{2}}},
		{"it names no client, it does not fit", told{0, 2, "\x03\x02", api.Digest{2}}},
		{"it does not end with by, it does not fit", told{0, 1, "\x01\x02", api.Digest{2}}},
		{"it is too long, it does not fit", told{0, 2, strings.Repeat("\x02", 513), api.Digest{2}}},
		{"it is empty", told{0, 2, "", api.Digest{2}}},
		{"all of that", told{math.MaxInt, math.MinInt, strings.Repeat("\x09", 513), api.Digest{2}}},
	} {
		t.Run(c.what, func(t *testing.T) {
			if e := p.learn(t, c.x); e != api.ErrArg {
				t.Errorf("%d", int(e))
			}
			for _, k := range []*known.Known{nil, {}} {
				learns(t, k, c.x.from, c.x.by, c.x.view, c.x.tag, api.ErrNil)
			}
		})
	}
}

// R2: whatever is refused has changed nothing: one that was asked it goes on as one that was not.
func TestRefused(t *testing.T) {
	const view = "\x00\x01\x02\x00\x01\x02\x02"
	k, other := fresh(t, 3, 2), fresh(t, 3, 2)
	for n := 1; n <= len(view); n++ {
		for from := range 3 {
			for _, x := range []told{
				{3, 0, view, api.Digest{9}}, {-1, 0, view, api.Digest{9}}, {from, 3, view, api.Digest{9}}, {from, -1, view, api.Digest{9}},
				{from, 1, view, api.Digest{9}}, {from, 0, "", api.Digest{9}}, {from, 2, "\x00\x01\x03\x02", api.Digest{9}}, {from, 0, strings.Repeat("\x00", 513), api.Digest{9}},
			} {
				learns(t, k, x.from, x.by, x.view, x.tag, api.ErrArg)
			}
			if n > 2 { // the longest view has two operations, at least
				learns(t, k, from, 0, strings.Repeat("\x00", 512), api.Digest{9}, api.ErrFork)
				learns(t, k, from, from, ends("\x02\x01", from), api.Digest{9}, api.ErrFork)
			}
			sees(t, k, looked(t, other))
		}
		hears(t, k, n%3, view[:n])
		hears(t, other, n%3, view[:n])
		sees(t, k, looked(t, other))
	}
}

// P16.2: views that are shorter than, as long as and longer than from's word, its own and the longest view, by itself and by others.
func TestLearnLengths(t *testing.T) {
	const view = "\x00\x01\x02\x01\x00\x02\x02\x01\x00"
	for from := range 3 {
		for word := range len(view) + 1 {
			for own := range len(view) + 1 {
				if own > 0 && ender(view[:own]) != from {
					continue
				}
				for all := range len(view) + 1 {
					for n := 1; n <= len(view); n++ {
						k := fresh(t, 3, 1)
						another := (from + 1) % 3
						for _, x := range []struct{ from, length int }{{from, word}, {from, own}, {another, all}} {
							if x.length > 0 {
								hears(t, k, x.from, view[:x.length])
							}
						}
						hears(t, k, from, view[:n])
						// word comes from from, too, and is its own if it ends with it.
						wantOwn := own
						for _, l := range []int{word, n} {
							if l > 0 && ender(view[:l]) == from {
								wantOwn = max(wantOwn, l)
							}
						}
						wantLongest := view[:max(word, own, all, n)]
						long, by, tag := k.Longest()
						if k.Word(from) != view[:max(word, own, n)] || k.Own(from) != view[:wantOwn] || long != wantLongest || by != ender(wantLongest) || tag != tagOf(wantLongest) {
							t.Fatalf("%d, %d, %d, then %d from %d: %q, %q, %q", word, own, all, n, from, k.Word(from), k.Own(from), long)
						}
						if k.Word(another) != view[:all] || k.Word((from+2)%3) != "" || k.Own((from+2)%3) != "" {
							t.Fatalf("%d, %d, %d, then %d from %d: others: %q, %q", word, own, all, n, from, k.Word(another), k.Own((from+2)%3))
						}
					}
				}
			}
		}
	}
}

// P16.2: by and tag are those of whatever made the longest view so long: a view that is as long, or shorter, leaves them, and a longer one brings its own.
func TestTags(t *testing.T) {
	k := fresh(t, 3, 0)
	longestIs := func(view string, by int, tag api.Digest) {
		t.Helper()
		if v, b, d := k.Longest(); v != view || b != by || d != tag {
			t.Fatalf("%q, %d, %v, and not %q, %d, %v", v, b, d, view, by, tag)
		}
	}
	var full api.Digest
	for i := range full {
		full[i] = byte(0xff - i)
	}
	longestIs("", -1, api.Digest{})
	learns(t, k, 1, 1, "\x00\x01", full, api.OK)
	longestIs("\x00\x01", 1, full)
	learns(t, k, 1, 1, "\x00\x01", api.Digest{1}, api.OK)
	learns(t, k, 2, 1, "\x00\x01", api.Digest{2}, api.OK)
	learns(t, k, 0, 0, "\x00", api.Digest{3}, api.OK)
	longestIs("\x00\x01", 1, full)
	learns(t, k, 0, 2, "\x01\x02\x02", api.Digest{4}, api.ErrFork)
	learns(t, k, 0, 1, "\x00\x01\x02", api.Digest{4}, api.ErrArg)
	longestIs("\x00\x01", 1, full)
	learns(t, k, 2, 2, "\x00\x01\x02", api.Digest{}, api.OK) // none is a tag, too
	longestIs("\x00\x01\x02", 2, api.Digest{})
	learns(t, k, 2, 2, "\x00\x01\x02", full, api.OK)
	longestIs("\x00\x01\x02", 2, api.Digest{})
	learns(t, k, 2, 0, "\x00\x01\x02\x02\x00", api.Digest{31: 1}, api.OK)
	longestIs("\x00\x01\x02\x02\x00", 0, api.Digest{31: 1})
}

// P16.3: Word and Own of somebody who is no client are nothing, whatever is known; of those who are they are theirs.
func TestLooksOfNobody(t *testing.T) {
	for clients := fewest; clients <= most; clients++ {
		k := fresh(t, clients, 0)
		for range 2 {
			for _, n := range append(numbers(), clients-1, clients, clients+1) {
				if n >= 0 && n < clients {
					continue
				}
				if k.Word(n) != "" || k.Own(n) != "" {
					t.Fatalf("%d clients: of %d: %q, %q", clients, n, k.Word(n), k.Own(n))
				}
			}
			view := ""
			for client := range clients {
				view = ends(view, client)
				hears(t, k, client, view)
			}
			for client := range clients {
				if k.Word(client) != view[:client+1] || k.Own(client) != view[:client+1] {
					t.Fatalf("%d clients: of %d: %q, %q", clients, client, k.Word(client), k.Own(client))
				}
			}
		}
	}
}

// P16.3: Stable and Cut count me's operations in the words; Seen counts them in the owns of all but me.
func TestCounts(t *testing.T) {
	const view = "\x01\x00\x01\x02\x01\x00\x02"
	k := fresh(t, 3, 1)
	counts(t, k, 0, 0, 0, 0, 0)
	hears(t, k, 1, view[:1])
	counts(t, k, 0, 0, 0, 1, 0)
	hears(t, k, 2, view[:1]) // 2 tells what 1 committed
	counts(t, k, 0, 0, 0, 1, 1)
	hears(t, k, 0, view[:2]) // its own
	counts(t, k, 1, 0, 1, 1, 1)
	hears(t, k, 2, view[:4]) // its own
	counts(t, k, 1, 1, 1, 1, 2)
	hears(t, k, 1, view[:3])
	counts(t, k, 1, 1, 1, 2, 2)
	hears(t, k, 0, view[:3]) // 0 tells what 1 committed
	counts(t, k, 2, 1, 2, 2, 2)
	hears(t, k, 0, view[:6]) // its own
	counts(t, k, 2, 2, 3, 2, 2)
	hears(t, k, 2, view[:6])
	counts(t, k, 2, 2, 3, 2, 3)
	hears(t, k, 2, view)
	counts(t, k, 2, 3, 3, 2, 3) // all have done something behind the third, but me has not told that it has it
	hears(t, k, 1, view[:5])
	counts(t, k, 3, 3, 3, 3, 3)
}

// P16.3: Cut and Seen are the least, whoever has it, for each me: one client alone tells nothing more behind the first turn.
func TestLeast(t *testing.T) {
	for clients := fewest; clients <= most; clients++ {
		for me := range clients {
			for least := range clients {
				k := fresh(t, clients, me)
				view, seen := "", math.MaxInt
				stable := make([]int, clients)
				for turn := range clients {
					view = ends(view, me)
					for other := range clients {
						view = ends(view, other)
						if other == least && turn > 0 {
							continue
						}
						hears(t, k, other, view)
						stable[other] = strings.Count(view, string([]byte{byte(me)}))
					}
				}
				for other, n := range stable {
					if other != me {
						seen = min(seen, n)
					}
				}
				counts(t, k, slices.Min(stable), seen, stable...)
			}
		}
	}
}

// P16.3: me's own, and what others tell of somebody's views, do not count for Seen.
func TestSeenOfOthers(t *testing.T) {
	k := fresh(t, 2, 0)
	hears(t, k, 0, "\x00")
	hears(t, k, 0, "\x00\x01") // me tells what 1 committed: 1's own is nothing
	hears(t, k, 0, "\x00\x01\x00")
	counts(t, k, 0, 0, 2, 0)
	hears(t, k, 1, "\x00\x01\x00") // 1 tells what me committed
	counts(t, k, 2, 0, 2, 2)
	if k.Own(1) != "" || k.Own(0) != "\x00\x01\x00" {
		t.Errorf("%q, %q", k.Own(1), k.Own(0))
	}
	hears(t, k, 1, "\x00\x01")
	counts(t, k, 2, 1, 2, 2)
}

// P16.5: Seen may be above Cut if me's own word is the shorter one, and in no other case.
func TestOwnWordShorter(t *testing.T) {
	k := fresh(t, 3, 0)
	hears(t, k, 1, "\x00\x01")
	counts(t, k, 0, 0, 0, 1, 0)
	hears(t, k, 2, "\x00\x01\x00\x02")
	counts(t, k, 0, 1, 0, 1, 2)
	hears(t, k, 0, "\x00")
	counts(t, k, 1, 1, 1, 1, 2)
}

// R3: what Stable answers is new memory at each call.
func TestStableNew(t *testing.T) {
	k := fresh(t, 2, 0)
	hears(t, k, 0, "\x00")
	hears(t, k, 1, "\x00\x01")
	first, second := k.Stable(), k.Stable()
	for i := range first {
		first[i] = 99
	}
	_ = append(second[:1], 77)
	counts(t, k, 1, 1, 1, 1)
	third := k.Stable()
	if second[0] != 1 || !slices.Equal(third, []int{1, 1}) {
		t.Error(first, second, third)
	}
	hears(t, k, 1, "\x00\x01\x00\x01")
	if !slices.Equal(third, []int{1, 1}) {
		t.Error("it changed:", third)
	}
}

// P16.2, P16.3: of nil; one that no call made is taken for that.
func TestNil(t *testing.T) {
	for _, k := range []*known.Known{nil, {}, new(known.Known)} {
		for range 2 {
			for _, n := range numbers() {
				for _, view := range []string{"", "\x00", "\x00\x01", "\x09", strings.Repeat("\x00", 512), strings.Repeat("\x00", 513)} {
					learns(t, k, n, 0, view, api.Digest{1}, api.ErrNil)
					learns(t, k, 0, n, view, api.Digest{1}, api.ErrNil)
				}
				if k.Word(n) != "" || k.Own(n) != "" {
					t.Errorf("of %d: %q, %q", n, k.Word(n), k.Own(n))
				}
			}
			sees(t, k, nothing(0))
		}
	}
}

// R3: a view that is handed in is neither kept as it is nor changed.
func TestNotKept(t *testing.T) {
	const view = "\x00\x01\x02\x00"
	k := fresh(t, 3, 0)
	b := []byte(view + "spare")
	s := unsafe.String(&b[0], len(view))
	d := api.Digest{7}
	learns(t, k, 1, 0, s, d, api.OK)
	learns(t, k, 0, 0, s, d, api.OK)
	learns(t, k, 2, 2, s[:3], d, api.OK)
	learns(t, k, 2, 1, s, d, api.ErrArg)
	if string(b) != view+"spare" {
		t.Fatalf("changed: %q", b)
	}
	for i := range b {
		b[i] = 1
	}
	sees(t, k, look{
		words: [most]string{view, view, view[:3]}, owns: [most]string{view, "", view[:3]},
		longest: view, by: 0, tag: d, clients: 3, stable: [most]int{2, 2, 1}, cut: 1, seen: 0,
	})
	learns(t, k, 1, 1, ends(view, 1), d, api.OK)
}

// What was told stays as it was, whatever comes behind it.
func TestToldStays(t *testing.T) {
	k := fresh(t, 2, 0)
	hears(t, k, 1, "\x00\x01")
	l := looked(t, k)
	was := l
	was.longest, was.words[1], was.owns[1] = strings.Clone(l.longest), strings.Clone(l.words[1]), strings.Clone(l.owns[1])
	hears(t, k, 1, "\x00\x01\x00\x01")
	hears(t, k, 0, "\x00\x01\x00")
	if l != was {
		t.Errorf("%v, and not %v", l, was)
	}
}

// R4: asked again it answers the same, and looking changes nothing.
func TestAgain(t *testing.T) {
	k := fresh(t, 3, 1)
	hears(t, k, 2, "\x00\x01\x02")
	hears(t, k, 0, "\x00")
	want := looked(t, k)
	for range 100 {
		sees(t, k, want)
	}
	for range 3 {
		hears(t, k, 2, "\x00\x01\x02")
		hears(t, k, 0, "\x00")
		sees(t, k, want)
	}
}
