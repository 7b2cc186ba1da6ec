package sum_test

import (
	"crypto/sha256"
	"encoding/hex"
	"strings"
	"testing"

	"affidavit/api"
	"affidavit/sum"
)

// bytesOf makes so many bytes, of all values, in which no block is like another one.
func bytesOf(size int) string {
	b := make([]byte, size)
	x := uint32(size + 1)
	for i := range b {
		x = x*1664525 + 1013904223
		b[i] = byte(x >> 24)
	}
	return string(b)
}

// right is the sum as somebody else makes it.
func right(s string) api.Digest { return sha256.Sum256([]byte(s)) }

// edges are lengths about the ends of blocks.
func edges() []int {
	return []int{0, 1, 2, 3, 4, 5, 54, 55, 56, 57, 63, 64, 65, 118, 119, 120, 121, 127, 128, 129, 183, 184, 191, 192, 193}
}

// P2.1: sums that are written down elsewhere, the chapter's example among them.
func TestSumOfKnownTexts(t *testing.T) {
	for s, want := range map[string]string{
		"":    "e3b0c44298fc1c149afbf4c8996fb92427ae41e4649b934ca495991b7852b855",
		"abc": "ba7816bf8f01cfea414140de5dae2223b00361a396177a9cb410ff61f20015ad",
		"abcdbcdecdefdefgefghfghighijhijkijkljklmklmnlmnomnopnopq":                                                         "248d6a61d20638b8e5c026930c3e6039a33ce45964ff2167f6ecedd419db06c1",
		"abcdefghbcdefghicdefghijdefghijkefghijklfghijklmghijklmnhijklmnoijklmnopjklmnopqklmnopqrlmnopqrsmnopqrstnopqrstu": "cf5b16a778af8380036ce59e7b0492370b249b11e8f07a51afac45037afee9d1",
		strings.Repeat("a", 1000000): "cdc76e5c9914fb9281a1c7e284d73e67f1809a48a497200e046d39ccc7112cd0",
	} {
		d := sum.Sum(s)
		if got := hex.EncodeToString(d[:]); got != want {
			t.Errorf("%.20q: %s, not %s", s, got, want)
		}
	}
}

// P2.1: all lengths up to some blocks, of bytes of all values, and of one value alone.
func TestSumOfAllLengths(t *testing.T) {
	for size := range 5*64 + 2 {
		for _, s := range []string{bytesOf(size), strings.Repeat("\x00", size), strings.Repeat("\xff", size), strings.Repeat("\x80", size)} {
			if got := sum.Sum(s); got != right(s) {
				t.Errorf("%d bytes, the first ones %.4q: %x", size, s, got)
			}
		}
	}
	for _, size := range []int{4095, 4096, 8191, 8192, api.MaxText, 1<<16 - 9, 1 << 16, 1<<21 + 1} {
		if s := bytesOf(size); sum.Sum(s) != right(s) {
			t.Errorf("%d bytes: %x", size, sum.Sum(s))
		}
	}
}

// P2.1: each byte counts, and where it stands.
func TestSumOfUnlikeBytes(t *testing.T) {
	seen := map[api.Digest]string{}
	look := func(s string) {
		d := sum.Sum(s)
		if other, ok := seen[d]; ok {
			t.Errorf("%.70q and %.70q have one sum", s, other)
		}
		seen[d] = s
	}
	zeros := strings.Repeat("\x00", 130)
	for size := range len(zeros) + 1 {
		look(zeros[:size])
	}
	for place := range len(zeros) {
		look(zeros[:place] + "\x01" + zeros[place+1:])
		look(zeros[:place] + "\x80" + zeros[place+1:])
	}
}

// P2.1, P2.2: a number of bits that does not fit into 32 of them.
func TestSumOfVeryManyBytes(t *testing.T) {
	piece := strings.Repeat(bytesOf(1<<12), 1<<8)
	h, want := sum.New(), sha256.New()
	add := func(s string) {
		h.Add(s)
		want.Write([]byte(s))
	}
	for range 1 << 9 {
		add(piece)
	}
	add("xyz")
	if d := h.Sum(); h.Len() != 1<<29+3 || string(d[:]) != string(want.Sum(nil)) {
		t.Errorf("%d bytes: %x", h.Len(), d)
	}
}

// P2.2: a new one is of no bytes, and nothing put behind them leaves it so.
func TestNewIsOfNoBytes(t *testing.T) {
	h := sum.New()
	if h == nil {
		t.Fatal("New made none")
	}
	if h.Len() != 0 || h.Sum() != right("") {
		t.Error(h.Len(), h.Sum())
	}
	if !h.Add("") || h.Len() != 0 || h.Sum() != right("") {
		t.Error("with nothing behind them:", h.Len(), h.Sum())
	}
}

// P2.2: bytes are put behind each other, and counted.
func TestAddAndLen(t *testing.T) {
	h := sum.New()
	all := ""
	for _, size := range edges() {
		s := bytesOf(size)
		all += s
		if !h.Add(s) {
			t.Errorf("Add of %d bytes: false", size)
		}
		if h.Len() != len(all) || h.Sum() != right(all) {
			t.Errorf("%d bytes behind %d: %d, %x", size, len(all)-size, h.Len(), h.Sum())
		}
	}
}

// P2.2: bytes that are put into an order of their own have a sum of their own.
func TestAddKeepsTheOrder(t *testing.T) {
	h := sum.New()
	h.Add("c")
	h.Add("ab")
	if h.Sum() != right("cab") || h.Sum() == right("abc") {
		t.Errorf("%x", h.Sum())
	}
}

// P2.2: a nil one answers, and takes nothing.
func TestNil(t *testing.T) {
	var h *sum.Sum256
	for _, s := range []string{"", "abc", bytesOf(200)} {
		if h.Add(s) {
			t.Errorf("Add of %d bytes to a nil one: true", len(s))
		}
		if h.Sum() != (api.Digest{}) || h.Len() != 0 {
			t.Errorf("a nil one: %x, %d", h.Sum(), h.Len())
		}
	}
}

// P2.3: in two pieces, cut anywhere, with the sum asked between, or not.
func TestTwoPieces(t *testing.T) {
	for _, size := range edges() {
		s := bytesOf(size)
		for cut := range size + 1 {
			for _, asked := range []bool{false, true} {
				h := sum.New()
				h.Add(s[:cut])
				if asked && h.Sum() != right(s[:cut]) {
					t.Errorf("the first %d bytes of %d: %x", cut, size, h.Sum())
				}
				h.Add(s[cut:])
				if h.Sum() != right(s) || h.Len() != size {
					t.Errorf("%d bytes, cut at %d, asked %t: %x, %d", size, cut, asked, h.Sum(), h.Len())
				}
			}
		}
	}
}

// P2.3: in many pieces of one length, asked never, behind each, or several times behind each.
func TestManyPieces(t *testing.T) {
	s := bytesOf(400)
	for length := 1; length <= 130; length++ {
		for times := range 3 {
			h := sum.New()
			for from := 0; from < len(s); from += length {
				end := min(from+length, len(s))
				h.Add(s[from:end])
				for range times {
					if h.Sum() != right(s[:end]) || h.Len() != end {
						t.Fatalf("pieces of %d bytes, the first %d: %x, %d", length, end, h.Sum(), h.Len())
					}
				}
			}
			if h.Sum() != right(s) || h.Len() != len(s) {
				t.Errorf("pieces of %d bytes, asked %d times: %x, %d", length, times, h.Sum(), h.Len())
			}
		}
	}
}

// P2.3: in three pieces, some of them without a byte, over the end of a block.
func TestThreePieces(t *testing.T) {
	s := bytesOf(130)
	for first := range len(s) + 1 {
		for then := first; then <= len(s); then++ {
			h := sum.New()
			h.Add(s[:first])
			h.Add(s[first:then])
			h.Add(s[then:])
			if h.Sum() != right(s) || h.Len() != len(s) {
				t.Fatalf("cut at %d and %d: %x, %d", first, then, h.Sum(), h.Len())
			}
		}
	}
}

// P2.3, R4: two that are filled side by side know nothing of one another.
func TestSideBySide(t *testing.T) {
	a, b := sum.New(), sum.New()
	left, other := "", ""
	for _, size := range edges() {
		x, y := bytesOf(size), strings.Repeat("y", size/2+1)
		a.Add(x)
		b.Add(y)
		left, other = left+x, other+y
		sum.Sum(x)
		if a.Sum() != right(left) || b.Sum() != right(other) || a.Len() != len(left) || b.Len() != len(other) {
			t.Fatalf("behind %d and %d bytes: %x, %x", len(left), len(other), a.Sum(), b.Sum())
		}
	}
}

// R3: what was answered stays as it was, and who changes it changes nothing else.
func TestAnswersAreNew(t *testing.T) {
	h := sum.New()
	h.Add("abc")
	d := h.Sum()
	h.Add("d")
	if d != right("abc") {
		t.Errorf("more bytes changed what was answered: %x", d)
	}
	d[0]++
	if h.Sum() != right("abcd") {
		t.Errorf("a changed answer changed the sum: %x", h.Sum())
	}
}
