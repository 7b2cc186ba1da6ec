package blobs_test

import (
	"math"
	"math/rand"
	"slices"
	"strconv"
	"strings"
	"testing"

	"affidavit/api"
	"affidavit/blobs"
)

// The document's numbers, written out: a limit that were another one in the program would be found.
const (
	owners    = 8
	most      = 1 << 40
	maxCipher = 4096
	maxBlobs  = 256
	maxBytes  = 32768
)

// wrongOwners are owners that may not be.
var wrongOwners = []int{-1, 8, 9, math.MinInt, math.MaxInt, 1 << 32, 1<<32 + 1, -1 << 32}

// wrongNumbers are numbers that may not be.
var wrongNumbers = []int{-1, most + 1, math.MinInt, math.MaxInt, -most, 1 << 62}

// blob is one with a Cipher, and a tag that tells it from others.
func blob(owner, number int, cipher string) api.Blob {
	return api.Blob{Owner: owner, Number: number, Cipher: cipher, Tag: api.Digest{0: byte(owner + 1), 15: byte(number), 31: 7}}
}

// sized is a blob of so many bytes.
func sized(owner, number, size int) api.Blob {
	return blob(owner, number, strings.Repeat(string([]byte{byte(number)}), size))
}

// puts asks for what Put answers.
func puts(t *testing.T, s *blobs.Store, b api.Blob, e api.Errno) {
	t.Helper()
	if got := s.Put(b); got != e {
		t.Fatalf("Put of owner %d, number %d, %d bytes: %d, and not %d", b.Owner, b.Number, len(b.Cipher), int(got), int(e))
	}
}

// gets asks for a blob that is there.
func gets(t *testing.T, s *blobs.Store, b api.Blob) {
	t.Helper()
	if got, e := s.Get(b.Owner, b.Number); e != api.OK || got != b {
		t.Fatalf("Get of owner %d, number %d: %v, %d, and not %v", b.Owner, b.Number, got, int(e), b)
	}
}

// lacks asks for an error, and no blob beside it.
func lacks(t *testing.T, s *blobs.Store, owner, number int, e api.Errno) {
	t.Helper()
	if got, gotErr := s.Get(owner, number); gotErr != e || got != (api.Blob{}) {
		t.Fatalf("Get of owner %d, number %d: %v, %d, and not error %d", owner, number, got, int(gotErr), int(e))
	}
}

// prunes asks for how many Prune takes away.
func prunes(t *testing.T, s *blobs.Store, owner int, numbers []int, n int) {
	t.Helper()
	if got := s.Prune(owner, numbers); got != n {
		t.Fatalf("Prune of owner %d, %v: %d, and not %d", owner, numbers, got, n)
	}
}

// has asks for an owner's numbers.
func has(t *testing.T, s *blobs.Store, owner int, numbers ...int) {
	t.Helper()
	if got := s.Numbers(owner); !slices.Equal(got, numbers) {
		t.Fatalf("Numbers of owner %d: %v, and not %v", owner, got, numbers)
	}
}

// uses asks for what an owner has.
func uses(t *testing.T, s *blobs.Store, owner, count, size int) {
	t.Helper()
	if c, n := s.Used(owner); c != count || n != size {
		t.Fatalf("Used of owner %d: %d blobs, %d bytes, and not %d, %d", owner, c, n, count, size)
	}
}

// row is numbers one behind the other.
func row(first, n int) []int {
	l := make([]int, n)
	for i := range l {
		l[i] = first + i
	}
	return l
}

// many puts so many blobs of so many bytes each, from a number on.
func many(t *testing.T, s *blobs.Store, owner, first, n, size int) {
	t.Helper()
	for _, number := range row(first, n) {
		puts(t, s, sized(owner, number, size), api.OK)
	}
}

// P11.1: the chapter's example.
func TestExample(t *testing.T) {
	s := blobs.New()
	b := api.Blob{Owner: 1, Number: 5, Cipher: "abc"}
	puts(t, s, b, api.OK)
	puts(t, s, b, api.OK)
	puts(t, s, api.Blob{Owner: 1, Number: 5, Cipher: "abd"}, api.ErrExist)
	gets(t, s, b)
	has(t, s, 1, 5)
	uses(t, s, 1, 1, 3)
}

// P11.2, P11.3: a new store has nothing.
func TestNewIsEmpty(t *testing.T) {
	s := blobs.New()
	if s == nil {
		t.Fatal("no store")
	}
	for owner := range owners {
		has(t, s, owner)
		uses(t, s, owner, 0, 0)
		lacks(t, s, owner, 0, api.ErrNone)
	}
}

// P11.1: each owner from 0 to 7, and no other one.
func TestPutOwners(t *testing.T) {
	s := blobs.New()
	for owner := range owners {
		puts(t, s, blob(owner, 3, "x"), api.OK)
	}
	for _, owner := range wrongOwners {
		puts(t, s, blob(owner, 3, "x"), api.ErrArg)
		lacks(t, s, owner, 3, api.ErrNone)
		has(t, s, owner)
		uses(t, s, owner, 0, 0)
	}
	for owner := range owners {
		gets(t, s, blob(owner, 3, "x"))
		uses(t, s, owner, 1, 1)
	}
}

// P11.1: each number from 0 to 2^40, and no other one.
func TestPutNumbers(t *testing.T) {
	s := blobs.New()
	right := []int{0, 1, 1 << 32, most - 1, most}
	for _, n := range right {
		puts(t, s, blob(7, n, "x"), api.OK)
		gets(t, s, blob(7, n, "x"))
	}
	for _, n := range wrongNumbers {
		puts(t, s, blob(7, n, "x"), api.ErrArg)
		lacks(t, s, 7, n, api.ErrNone)
	}
	has(t, s, 7, right...)
	uses(t, s, 7, len(right), len(right))
}

// P11.1: Ciphers of up to 4096 bytes.
func TestPutCiphers(t *testing.T) {
	s := blobs.New()
	for i, size := range []int{0, 1, maxCipher - 1, maxCipher} {
		puts(t, s, sized(0, i, size), api.OK)
		gets(t, s, sized(0, i, size))
	}
	for i, size := range []int{maxCipher + 1, 2 * maxCipher, maxBytes, maxBytes + 1, 1 << 20} {
		puts(t, s, sized(0, 10+i, size), api.ErrArg)
		lacks(t, s, 0, 10+i, api.ErrNone)
	}
	has(t, s, 0, 0, 1, 2, 3)
	uses(t, s, 0, 4, 2*maxCipher)
}

// P11.1: any bytes are a Cipher.
func TestPutAnyBytes(t *testing.T) {
	s := blobs.New()
	all := make([]byte, 256)
	for i := range all {
		all[i] = byte(i)
	}
	for i, cipher := range []string{"\x00", "\x00\x00", "\xff\xfe", "\xed\xa0\x80", "é", string(all)} {
		puts(t, s, blob(2, i, cipher), api.OK)
		gets(t, s, blob(2, i, cipher))
	}
}

// P11.1: a blob is the same only if its Cipher and its Tag are; the old one stays.
func TestPutAgain(t *testing.T) {
	s := blobs.New()
	b := blob(3, 9, "cipher")
	puts(t, s, b, api.OK)
	for range 3 {
		puts(t, s, b, api.OK)
	}
	for _, cipher := range []string{"", "ciphe", "cipher\x00", "Cipher", "ciphes"} {
		other := b
		other.Cipher = cipher
		puts(t, s, other, api.ErrExist)
		gets(t, s, b)
	}
	for i := range len(b.Tag) {
		other := b
		other.Tag[i] ^= 1
		puts(t, s, other, api.ErrExist)
		gets(t, s, b)
	}
	puts(t, s, b, api.OK)
	has(t, s, 3, 9)
	uses(t, s, 3, 1, 6)
}

// P11.1: a blob of nothing but zeros is there as well as any other one.
func TestPutZeroBlob(t *testing.T) {
	s := blobs.New()
	lacks(t, s, 0, 0, api.ErrNone)
	puts(t, s, api.Blob{}, api.OK)
	gets(t, s, api.Blob{})
	has(t, s, 0, 0)
	uses(t, s, 0, 1, 0)
	puts(t, s, api.Blob{}, api.OK)
	puts(t, s, api.Blob{Tag: api.Digest{1}}, api.ErrExist)
	prunes(t, s, 0, []int{0}, 1)
	lacks(t, s, 0, 0, api.ErrNone)
}

// P11.1, P11.5: 256 blobs, and no more.
func TestRoomOfBlobs(t *testing.T) {
	for _, size := range []int{0, 1, maxBytes/maxBlobs - 1} {
		s := blobs.New()
		many(t, s, 4, 0, maxBlobs-1, size)
		uses(t, s, 4, maxBlobs-1, (maxBlobs-1)*size)
		puts(t, s, sized(4, maxBlobs-1, size), api.OK)
		for n := maxBlobs; n < maxBlobs+3; n++ {
			puts(t, s, sized(4, n, size), api.ErrFull)
			puts(t, s, sized(4, n, 0), api.ErrFull)
			lacks(t, s, 4, n, api.ErrNone)
		}
		uses(t, s, 4, maxBlobs, maxBlobs*size)
		has(t, s, 4, row(0, maxBlobs)...)
		puts(t, s, sized(5, 0, size), api.OK)
	}
}

// P11.1, P11.5: 32768 bytes, and no more.
func TestRoomOfBytes(t *testing.T) {
	s := blobs.New()
	many(t, s, 6, 0, 7, maxCipher)
	puts(t, s, sized(6, 7, maxCipher-1), api.OK)
	uses(t, s, 6, 8, maxBytes-1)
	puts(t, s, sized(6, 8, 2), api.ErrFull)
	puts(t, s, sized(6, 8, maxCipher), api.ErrFull)
	uses(t, s, 6, 8, maxBytes-1)
	puts(t, s, sized(6, 8, 1), api.OK)
	uses(t, s, 6, 9, maxBytes)
	puts(t, s, sized(6, 9, 1), api.ErrFull)
	lacks(t, s, 6, 9, api.ErrNone)
	uses(t, s, 6, 9, maxBytes)
	has(t, s, 6, row(0, 9)...)
}

// P11.1, P11.5: an empty blob needs no bytes, so it fits where they are used up; 256 are the end all the same.
func TestEmptyBlobsBehindAllBytes(t *testing.T) {
	s := blobs.New()
	many(t, s, 0, 0, 8, maxCipher)
	uses(t, s, 0, 8, maxBytes)
	puts(t, s, sized(0, 8, 1), api.ErrFull)
	many(t, s, 0, 8, maxBlobs-8, 0)
	uses(t, s, 0, maxBlobs, maxBytes)
	puts(t, s, sized(0, maxBlobs, 0), api.ErrFull)
	uses(t, s, 0, maxBlobs, maxBytes)
}

// P11.1, P11.5: both at their ends at once, by 256 blobs of 128 bytes.
func TestRoomOfBoth(t *testing.T) {
	s := blobs.New()
	many(t, s, 1, 0, maxBlobs-1, maxBytes/maxBlobs)
	puts(t, s, sized(1, most, maxBytes/maxBlobs+1), api.ErrFull)
	puts(t, s, sized(1, most, maxBytes/maxBlobs), api.OK)
	uses(t, s, 1, maxBlobs, maxBytes)
	puts(t, s, sized(1, most-1, 0), api.ErrFull)
	puts(t, s, sized(1, most-1, 1), api.ErrFull)
}

// P11.1: one that is there is the same or another one, whether there is room or not.
func TestPutAgainWithoutRoom(t *testing.T) {
	full := map[string]func(t *testing.T, s *blobs.Store){
		"blobs": func(t *testing.T, s *blobs.Store) { many(t, s, 2, 0, maxBlobs, 1) },
		"bytes": func(t *testing.T, s *blobs.Store) { many(t, s, 2, 0, 8, maxCipher) },
		"both":  func(t *testing.T, s *blobs.Store) { many(t, s, 2, 0, maxBlobs, maxBytes/maxBlobs) },
	}
	for what, fill := range full {
		t.Run(what, func(t *testing.T) {
			s := blobs.New()
			fill(t, s)
			count, size := s.Used(2)
			old, e := s.Get(2, 7)
			if e != api.OK {
				t.Fatal(int(e))
			}
			puts(t, s, old, api.OK)
			for _, cipher := range []string{"", "other", strings.Repeat("o", maxCipher)} {
				puts(t, s, blob(2, 7, cipher), api.ErrExist)
			}
			other := old
			other.Tag[31]++
			puts(t, s, other, api.ErrExist)
			gets(t, s, old)
			uses(t, s, 2, count, size)
			puts(t, s, sized(2, maxBlobs, 1), api.ErrFull)
		})
	}
}

// P11.1, P11.2: what is pruned leaves room, of blobs and of bytes.
func TestRoomBehindPrune(t *testing.T) {
	s := blobs.New()
	many(t, s, 3, 0, maxBlobs, 0)
	puts(t, s, sized(3, 1000, 0), api.ErrFull)
	prunes(t, s, 3, []int{77}, 1)
	puts(t, s, sized(3, 1000, 9), api.OK)
	puts(t, s, sized(3, 1001, 0), api.ErrFull)
	uses(t, s, 3, maxBlobs, 9)

	s = blobs.New()
	many(t, s, 3, 0, 8, maxCipher)
	puts(t, s, sized(3, 1000, 1), api.ErrFull)
	prunes(t, s, 3, []int{3}, 1)
	uses(t, s, 3, 7, 7*maxCipher)
	puts(t, s, sized(3, 1000, maxCipher), api.OK)
	puts(t, s, sized(3, 1001, 1), api.ErrFull)
	uses(t, s, 3, 8, maxBytes)
}

// P11.2: a number that was pruned is free again, for another blob too.
func TestPutBehindPrune(t *testing.T) {
	s := blobs.New()
	puts(t, s, blob(1, 5, "old"), api.OK)
	prunes(t, s, 1, []int{5}, 1)
	lacks(t, s, 1, 5, api.ErrNone)
	puts(t, s, blob(1, 5, "newer"), api.OK)
	gets(t, s, blob(1, 5, "newer"))
	puts(t, s, blob(1, 5, "old"), api.ErrExist)
	uses(t, s, 1, 1, 5)
}

// P11.2: Get of whatever is not there.
func TestGetNone(t *testing.T) {
	s := blobs.New()
	for owner := range owners - 1 {
		puts(t, s, blob(owner, 4, "x"), api.OK)
	}
	lacks(t, s, 0, 3, api.ErrNone)
	lacks(t, s, 0, 5, api.ErrNone)
	lacks(t, s, 7, 4, api.ErrNone)
	for _, owner := range wrongOwners {
		lacks(t, s, owner, 4, api.ErrNone)
	}
	for _, n := range wrongNumbers {
		lacks(t, s, 0, n, api.ErrNone)
	}
}

// P11.2: what Prune takes away, and how many it says they were.
func TestPrune(t *testing.T) {
	for _, c := range []struct {
		what    string
		owner   int
		numbers []int
		n       int
		left    []int
	}{
		{"nil", 1, nil, 0, []int{0, 2, 4, 6}},
		{"none", 1, []int{}, 0, []int{0, 2, 4, 6}},
		{"one", 1, []int{4}, 1, []int{0, 2, 6}},
		{"the first", 1, []int{0}, 1, []int{2, 4, 6}},
		{"the last", 1, []int{6}, 1, []int{0, 2, 4}},
		{"some, falling", 1, []int{6, 2}, 2, []int{0, 4}},
		{"all", 1, []int{0, 2, 4, 6}, 4, nil},
		{"one twice", 1, []int{2, 2}, 1, []int{0, 4, 6}},
		{"one thrice among others", 1, []int{2, 0, 2, 6, 2}, 3, []int{4}},
		{"one that there is not", 1, []int{3}, 0, []int{0, 2, 4, 6}},
		{"some that there are not", 1, []int{1, 2, 3, 4, 5}, 2, []int{0, 6}},
		{"what may not be", 1, wrongNumbers, 0, []int{0, 2, 4, 6}},
		{"what may not be, and one", 1, []int{-1, math.MinInt, 6, math.MaxInt, most + 1}, 1, []int{0, 2, 4}},
		{"another one's", 1, []int{1, 3, 5}, 0, []int{0, 2, 4, 6}},
		{"by one that has nothing", 5, []int{0, 2, 4, 6}, 0, []int{0, 2, 4, 6}},
		{"more than are asked for at once", 1, row(0, 1000), 4, nil},
	} {
		t.Run(c.what, func(t *testing.T) {
			s := blobs.New()
			size := 0
			for _, n := range []int{0, 2, 4, 6} {
				puts(t, s, sized(1, n, n+1), api.OK)
			}
			for _, n := range []int{1, 2, 3} {
				puts(t, s, sized(2, n, n+1), api.OK)
			}
			prunes(t, s, c.owner, c.numbers, c.n)
			has(t, s, 1, c.left...)
			for _, n := range []int{0, 2, 4, 6} {
				if slices.Contains(c.left, n) {
					gets(t, s, sized(1, n, n+1))
					size += n + 1
				} else {
					lacks(t, s, 1, n, api.ErrNone)
				}
			}
			uses(t, s, 1, len(c.left), size)
			has(t, s, 2, 1, 2, 3)
			uses(t, s, 2, 3, 9)
			prunes(t, s, c.owner, c.numbers, 0)
			has(t, s, 1, c.left...)
		})
	}
}

// P11.2: owners that may not be have nothing to prune.
func TestPruneWrongOwners(t *testing.T) {
	s := blobs.New()
	for owner := range owners {
		puts(t, s, blob(owner, 0, "x"), api.OK)
		puts(t, s, blob(owner, 1, "x"), api.OK)
	}
	for _, owner := range wrongOwners {
		prunes(t, s, owner, []int{0, 1}, 0)
		prunes(t, s, owner, nil, 0)
	}
	for owner := range owners {
		has(t, s, owner, 0, 1)
	}
}

// P11.2, R3: the list that Prune is handed stays as it is, its spare room too.
func TestPruneLeavesItsList(t *testing.T) {
	s := blobs.New()
	many(t, s, 1, 0, 10, 1)
	whole := []int{9, 3, 3, 50, -1, 0, 111, 222}
	was := slices.Clone(whole)
	prunes(t, s, 1, whole[:6], 3)
	if !slices.Equal(whole, was) {
		t.Fatalf("%v, and not %v", whole, was)
	}
	clear(whole)
	has(t, s, 1, 1, 2, 4, 5, 6, 7, 8)
}

// P11.3: an owner's numbers rise, in whatever order they were put.
func TestNumbersRise(t *testing.T) {
	rising := []int{0, 1, 2, 9, 10, 11, 99, 100, 1 << 31, 1<<32 + 1, most - 1, most}
	falling := slices.Clone(rising)
	slices.Reverse(falling)
	orders := [][]int{rising, falling}
	r := rand.New(rand.NewSource(11))
	for range 20 {
		mixed := slices.Clone(rising)
		r.Shuffle(len(mixed), func(i, j int) { mixed[i], mixed[j] = mixed[j], mixed[i] })
		orders = append(orders, mixed)
	}
	for _, order := range orders {
		s := blobs.New()
		for _, n := range order {
			puts(t, s, blob(5, n, "ab"), api.OK)
			puts(t, s, blob(6, n/2, strconv.Itoa(n/2)), api.OK)
		}
		for range 3 {
			has(t, s, 5, rising...)
		}
		uses(t, s, 5, len(rising), 2*len(rising))
	}
}

// P11.3: of owners that have nothing, and of those that may not be: none, 0, 0.
func TestLooksOfNobody(t *testing.T) {
	s := blobs.New()
	puts(t, s, blob(0, 0, "x"), api.OK)
	puts(t, s, blob(7, 0, "x"), api.OK)
	for _, owner := range append([]int{1, 2, 3, 4, 5, 6}, wrongOwners...) {
		has(t, s, owner)
		uses(t, s, owner, 0, 0)
	}
}

// P11.3: nothing is left of an owner whose blobs are all pruned.
func TestLooksBehindPruneOfAll(t *testing.T) {
	s := blobs.New()
	many(t, s, 0, 0, maxBlobs, maxBytes/maxBlobs)
	prunes(t, s, 0, row(0, maxBlobs), maxBlobs)
	has(t, s, 0)
	uses(t, s, 0, 0, 0)
	many(t, s, 0, 500, maxBlobs, maxBytes/maxBlobs)
	uses(t, s, 0, maxBlobs, maxBytes)
}

// P11.3, R3: what Numbers answers is whoever's who asked.
func TestNumbersAreNew(t *testing.T) {
	s := blobs.New()
	many(t, s, 1, 0, 5, 1)
	l, other := s.Numbers(1), s.Numbers(1)
	for i := range l {
		l[i] = -7
	}
	l = append(l[:2], 40, 41, 42, 43)
	if !slices.Equal(other, row(0, 5)) {
		t.Fatalf("the other answer: %v", other)
	}
	has(t, s, 1, row(0, 5)...)
	prunes(t, s, 1, other[:2], 2)
	if !slices.Equal(other, row(0, 5)) || len(l) != 6 {
		t.Fatalf("behind Prune: %v, %v", other, l)
	}
	has(t, s, 1, 2, 3, 4)
}

// P11.4: what comes in as bytes that somebody goes on using is kept as it was.
func TestKeptAsItWas(t *testing.T) {
	s := blobs.New()
	room := []byte("abcdef")
	b := blob(1, 1, string(room))
	puts(t, s, b, api.OK)
	room[0] = 'x'
	b.Cipher, b.Tag[0], b.Owner, b.Number = "other", 99, 2, 2
	gets(t, s, blob(1, 1, "abcdef"))
	got, _ := s.Get(1, 1)
	got.Cipher, got.Tag[0], got.Owner, got.Number = "third", 98, 3, 3
	gets(t, s, blob(1, 1, "abcdef"))
	has(t, s, 2)
	has(t, s, 3)
}

// P11.4: two owners with the same numbers have nothing to do with each other.
func TestOwnersApart(t *testing.T) {
	s := blobs.New()
	of := func(owner, n int) api.Blob { return blob(owner, n, strings.Repeat("c", 10*owner+n)) }
	for owner := range owners {
		for n := range 5 {
			puts(t, s, of(owner, n), api.OK)
		}
	}
	puts(t, s, blob(3, 2, "other"), api.ErrExist)
	prunes(t, s, 3, []int{0, 2, 4}, 3)
	puts(t, s, blob(3, 2, "other"), api.OK)
	for owner := range owners {
		if owner == 3 {
			continue
		}
		for n := range 5 {
			gets(t, s, of(owner, n))
		}
		has(t, s, owner, row(0, 5)...)
		uses(t, s, owner, 5, 50*owner+10)
	}
	gets(t, s, blob(3, 2, "other"))
	has(t, s, 3, 1, 2, 3)
	uses(t, s, 3, 3, 69)
}

// P11.4, P11.5: each owner has a room of its own, whatever others have.
func TestRoomsApart(t *testing.T) {
	s := blobs.New()
	for owner := range owners {
		many(t, s, owner, 0, maxBlobs, maxBytes/maxBlobs)
		puts(t, s, sized(owner, maxBlobs, 0), api.ErrFull)
	}
	prunes(t, s, 4, row(0, maxBlobs), maxBlobs)
	for owner := range owners {
		if owner == 4 {
			has(t, s, owner)
			uses(t, s, owner, 0, 0)
			continue
		}
		has(t, s, owner, row(0, maxBlobs)...)
		uses(t, s, owner, maxBlobs, maxBytes)
		puts(t, s, sized(owner, maxBlobs, 0), api.ErrFull)
	}
}

// P11.4: two stores have nothing to do with each other.
func TestStoresApart(t *testing.T) {
	a, b := blobs.New(), blobs.New()
	puts(t, a, blob(1, 5, "a"), api.OK)
	lacks(t, b, 1, 5, api.ErrNone)
	puts(t, b, blob(1, 5, "bb"), api.OK)
	gets(t, a, blob(1, 5, "a"))
	many(t, a, 2, 0, maxBlobs, 0)
	puts(t, b, sized(2, maxBlobs, 0), api.OK)
	prunes(t, a, 1, []int{5}, 1)
	gets(t, b, blob(1, 5, "bb"))
	has(t, a, 1)
	has(t, b, 1, 5)
	uses(t, a, 2, maxBlobs, 0)
	uses(t, b, 2, 1, 0)
}

// P11.1 to P11.3: a nil store.
func TestNilStore(t *testing.T) {
	var s *blobs.Store
	refusesAll(t, s)
}

// R1: of a store that no call made nothing is promised but that its calls end; it is taken for a nil one.
func TestUnmadeStore(t *testing.T) {
	refusesAll(t, &blobs.Store{})
	refusesAll(t, new(blobs.Store))
}

// refusesAll asks every call of a store that is none.
func refusesAll(t *testing.T, s *blobs.Store) {
	t.Helper()
	for range 2 {
		for _, b := range []api.Blob{{}, blob(1, 5, "abc"), blob(-1, 5, "abc"), blob(1, -1, ""), sized(8, most+1, maxCipher+1)} {
			puts(t, s, b, api.ErrNil)
			lacks(t, s, b.Owner, b.Number, api.ErrNil)
			prunes(t, s, b.Owner, []int{b.Number, 0}, 0)
			prunes(t, s, b.Owner, nil, 0)
			has(t, s, b.Owner)
			uses(t, s, b.Owner, 0, 0)
		}
	}
}

// P11.1, R2: which of several errors is answered, beside those of a nil store.
func TestWhichError(t *testing.T) {
	s := blobs.New()
	many(t, s, 1, 0, maxBlobs, maxBytes/maxBlobs)
	for _, c := range []struct {
		what string
		b    api.Blob
		e    api.Errno
	}{
		{"no such number, no room", blob(1, -1, ""), api.ErrArg},
		{"too many bytes, no room", sized(1, 1000, maxCipher+1), api.ErrArg},
		{"too many bytes, there is another one", sized(1, 3, maxCipher+1), api.ErrArg},
		{"no such owner, as many bytes as may be", sized(8, 3, maxCipher), api.ErrArg},
		{"there is another one, no room", sized(1, 3, maxCipher), api.ErrExist},
		{"no room", sized(1, 1000, maxCipher), api.ErrFull},
	} {
		t.Run(c.what, func(t *testing.T) {
			puts(t, s, c.b, c.e)
			uses(t, s, 1, maxBlobs, maxBytes)
			gets(t, s, sized(1, 3, maxBytes/maxBlobs))
		})
	}
}

// shelf is one owner's blobs as they should be, in the order in which they came.
type shelf []api.Blob

// find tells where a number stands, -1 if nowhere.
func (l shelf) find(number int) int {
	return slices.IndexFunc(l, func(b api.Blob) bool { return b.Number == number })
}

// size tells how many bytes there are.
func (l shelf) size() int {
	n := 0
	for _, b := range l {
		n += len(b.Cipher)
	}
	return n
}

// numbers tells the numbers, rising.
func (l shelf) numbers() []int {
	var n []int
	for _, b := range l {
		n = append(n, b.Number)
	}
	slices.Sort(n)
	return n
}

// put does what P11.1 says.
func (l *shelf) put(b api.Blob) api.Errno {
	if i := l.find(b.Number); i >= 0 {
		if (*l)[i] == b {
			return api.OK
		}
		return api.ErrExist
	}
	if len(*l)+1 > maxBlobs || l.size()+len(b.Cipher) > maxBytes {
		return api.ErrFull
	}
	*l = append(*l, b)
	return api.OK
}

// prune does what P11.2 says.
func (l *shelf) prune(numbers []int) int {
	before := len(*l)
	*l = slices.DeleteFunc(*l, func(b api.Blob) bool { return slices.Contains(numbers, b.Number) })
	return before - len(*l)
}

// P11.1 to P11.5: long stories, beside shelves that are kept in another way.
func TestStories(t *testing.T) {
	sizes := [][]int{{0, 1, 2}, {0, 128, 200, 300}, {0, 1, 4000, maxCipher}}
	for seed := range int64(12) {
		r := rand.New(rand.NewSource(seed))
		s, shelves := blobs.New(), [owners]shelf{}
		seen := map[api.Errno]int{}
		for step := range 4000 {
			owner := r.Intn(2) * r.Intn(owners) // one that has much, and others
			l := &shelves[owner]
			if r.Intn(150) == 0 {
				numbers := row(r.Intn(400), r.Intn(64))
				prunes(t, s, owner, numbers, l.prune(numbers))
			} else {
				b := sized(owner, r.Intn(400), sizes[seed%3][r.Intn(len(sizes[seed%3]))])
				e := l.put(b)
				puts(t, s, b, e)
				seen[e]++
			}
			if step%50 == 0 {
				sameAsShelves(t, s, shelves)
			}
		}
		sameAsShelves(t, s, shelves)
		for _, e := range []api.Errno{api.OK, api.ErrExist, api.ErrFull} {
			if seen[e] == 0 {
				t.Errorf("story %d never has %d", seed, int(e))
			}
		}
	}
}

// sameAsShelves asks a store for all that it should have, and for nothing more than its room.
func sameAsShelves(t *testing.T, s *blobs.Store, shelves [owners]shelf) {
	t.Helper()
	for owner, l := range shelves {
		has(t, s, owner, l.numbers()...)
		uses(t, s, owner, len(l), l.size())
		if count, size := s.Used(owner); count > maxBlobs || size > maxBytes {
			t.Fatalf("owner %d has %d blobs, %d bytes", owner, count, size)
		}
		for _, b := range l {
			gets(t, s, b)
		}
	}
}
