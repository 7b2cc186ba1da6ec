package veil_test

import (
	"crypto/hmac"
	"crypto/sha256"
	"encoding/hex"
	"math"
	"strconv"
	"strings"
	"testing"
	"unsafe"

	"affidavit/api"
	"affidavit/veil"
)

// rightRow is a row's first bytes as somebody else makes them.
func rightRow(key string, number, n int) string {
	var row []byte
	for i := 0; len(row) < n; i++ {
		h := hmac.New(sha256.New, []byte(key))
		h.Write([]byte(strconv.Itoa(number) + ";" + strconv.Itoa(i) + ";"))
		row = h.Sum(row)
	}
	return string(row[:n])
}

// xored is two texts of one length, byte by byte.
func xored(a, b string) string {
	x := []byte(a)
	for i := range x {
		x[i] ^= b[i]
	}
	return string(x)
}

// bytesOf makes so many bytes, of all values: some of them are no runes.
func bytesOf(size int) string {
	b := make([]byte, size)
	x := uint32(size + 7)
	for i := range b {
		x = x*1664525 + 1013904223
		b[i] = byte(x >> 24)
	}
	return string(b)
}

// veiled is a veiled text that there may be.
func veiled(t *testing.T, key string, number int, text string) string {
	t.Helper()
	s, e := veil.Veil(key, number, text)
	if e != api.OK {
		t.Fatalf("a key of %d bytes, number %d, a text of %d bytes: %d", len(key), number, len(text), int(e))
	}
	return s
}

// rowOf is a row that there may be.
func rowOf(t *testing.T, key string, number, n int) string {
	t.Helper()
	s, e := veil.Row(key, number, n)
	if e != api.OK {
		t.Fatalf("a key of %d bytes, number %d, %d bytes: %d", len(key), number, n, int(e))
	}
	return s
}

// keys are none, short ones, such with bytes that are no runes, and those about a block's length of the tag's.
func keys() []string {
	return []string{"", "k", "key", "\x00k", "\xff\xfe;:", bytesOf(32), bytesOf(63), bytesOf(64), bytesOf(65), bytesOf(131), bytesOf(1000)}
}

// numbers are the ends of those that there may be, and some between.
func numbers() []int {
	return []int{0, 1, 5, 9, 10, 11, 1 << 31, 1 << 32, 1<<40 - 1, 1 << 40}
}

// sizes are the ends of those that there may be, and those about the ends of blocks.
func sizes() []int {
	return []int{0, 1, 2, 31, 32, 33, 63, 64, 65, 96, 320, 352, 353, 16352, 16353, 16383, 16384}
}

// wrongNumbers are such that there are not.
func wrongNumbers() []int {
	return []int{-1, -2, -(1 << 40), math.MinInt, 1<<40 + 1, 1 << 41, math.MaxInt}
}

// P5.1: rows and a veiled text that were worked out elsewhere.
func TestKnownRows(t *testing.T) {
	for _, c := range []struct {
		key    string
		number int
		want   string
	}{
		{"k", 5, "37f1f19c266dd4306df2d28f8f9d1defdcafb338ea12535de90280179a7dc073658ad845a9901975"},
		{"", 0, "e76af240e2c318abd140a48d0dae175950ed880c736b9b78d31687345b748eac14"},
		{"", 1 << 40, "e1c06c2203d4951fdb967b69632e2a08f2646cdd65828b040cbd1f561ccec30a"},
		{strings.Repeat("\xaa", 131), 1, "cc64acbab81334e91dd288974203fd4cc1aaefa4d9f0c8431676f00b1fdf29e33524a6e0d868eb5afbe7be138ade227cfba01e642d43fd4ba085273819593f47d9"},
	} {
		if got := hex.EncodeToString([]byte(rowOf(t, c.key, c.number, len(c.want)/2))); got != c.want {
			t.Errorf("%.10q, %d: %s, not %s", c.key, c.number, got, c.want)
		}
	}
	got := hex.EncodeToString([]byte(veiled(t, "k", 5, "a text that has more than thirty-two byt")))
	if want := "56d185f95e19f4440593a6afe7fc6ecfb1c0c15dca663b3c8722f47ff30fb40a48feaf2a89f26001"; got != want {
		t.Errorf("veiled: %s, not %s", got, want)
	}
	longest := sha256.Sum256([]byte(rowOf(t, "k", 1<<40, 16384)))
	if got, want := hex.EncodeToString(longest[:]), "720de3ecf889d7a3831c8c0aa4bae23cb1136d094e57dac1b4dbedd0c6a2f53e"; got != want {
		t.Errorf("the longest row's sum: %s, not %s", got, want)
	}
}

// P5.1, the chapter's example: a text of bytes 0 is veiled as the row.
func TestVeilOfZerosIsTheRow(t *testing.T) {
	for _, n := range sizes() {
		if veiled(t, "k", 5, strings.Repeat("\x00", n)) != rowOf(t, "k", 5, n) {
			t.Errorf("%d bytes", n)
		}
	}
}

// P5.1: rows and veiled texts of all keys, numbers and lengths that matter.
func TestRowAndVeil(t *testing.T) {
	for _, key := range keys() {
		for _, number := range numbers() {
			row := rightRow(key, number, 16384)
			for _, n := range sizes() {
				if got := rowOf(t, key, number, n); got != row[:n] {
					t.Fatalf("a key of %d bytes, number %d: another row of %d bytes", len(key), number, n)
				}
				text := bytesOf(n)
				if got := veiled(t, key, number, text); got != xored(text, row[:n]) {
					t.Fatalf("a key of %d bytes, number %d: a text of %d bytes is veiled otherwise", len(key), number, n)
				}
			}
		}
	}
}

// P5.1: every length of a few blocks.
func TestEveryLength(t *testing.T) {
	row := rightRow("key", 7, 400)
	for n := range 401 {
		if got := rowOf(t, "key", 7, n); got != row[:n] {
			t.Errorf("a row of %d bytes: %x", n, got)
		}
		if got := veiled(t, "key", 7, bytesOf(n)); got != xored(bytesOf(n), row[:n]) {
			t.Errorf("a text of %d bytes: %x", n, got)
		}
	}
}

// P5.1: the numbers -1 and 2^40 + 1, and those beyond them, are none, whatever else is wrong.
func TestWrongNumbers(t *testing.T) {
	for _, number := range wrongNumbers() {
		for _, n := range []int{math.MinInt, -1, 0, 1, 32, 16384, 16385, math.MaxInt} {
			if s, e := veil.Row("k", number, n); s != "" || e != api.ErrRange {
				t.Errorf("Row of number %d, %d bytes: %d bytes, %d", number, n, len(s), int(e))
			}
		}
		for _, n := range []int{0, 1, 16384, 16385} {
			if s, e := veil.Veil("k", number, bytesOf(n)); s != "" || e != api.ErrRange {
				t.Errorf("Veil of number %d, %d bytes: %d bytes, %d", number, n, len(s), int(e))
			}
		}
	}
}

// P5.1: a row of fewer bytes than none, or of more than 16384, is none.
func TestWrongRows(t *testing.T) {
	for _, key := range []string{"", "k", bytesOf(65)} {
		for _, number := range numbers() {
			for _, n := range []int{-1, -2, -16385, math.MinInt} {
				if s, e := veil.Row(key, number, n); s != "" || e != api.ErrArg {
					t.Errorf("number %d, %d bytes: %d bytes, %d", number, n, len(s), int(e))
				}
			}
			for _, n := range []int{16385, 16386, 1 << 40, math.MaxInt - 31, math.MaxInt} {
				if s, e := veil.Row(key, number, n); s != "" || e != api.ErrBig {
					t.Errorf("number %d, %d bytes: %d bytes, %d", number, n, len(s), int(e))
				}
			}
		}
	}
}

// P5.1: a text of more than 16384 bytes is not veiled.
func TestTooLongTexts(t *testing.T) {
	for _, number := range numbers() {
		for _, n := range []int{16385, 16386, 1 << 15, 1 << 20} {
			if s, e := veil.Veil("k", number, bytesOf(n)); s != "" || e != api.ErrBig {
				t.Errorf("number %d, %d bytes: %d bytes, %d", number, n, len(s), int(e))
			}
		}
	}
}

// P5.2: a text that is veiled twice is the text.
func TestVeiledTwice(t *testing.T) {
	texts := []string{"a", "\x00", "\xff", "\xff\xfe\xfd", "\xef\xbf\xbd", "ä", "\xc3", strings.Repeat("\xff", 33)}
	for _, n := range sizes() {
		texts = append(texts, bytesOf(n))
	}
	for _, key := range keys() {
		for _, number := range []int{0, 5, 1 << 40} {
			for _, text := range texts {
				if got := veiled(t, key, number, veiled(t, key, number, text)); got != text {
					t.Fatalf("a key of %d bytes, number %d: a text of %d bytes is another one", len(key), number, len(text))
				}
			}
		}
	}
}

// P5.2: by another key or another number it is not the text.
func TestVeiledByAnother(t *testing.T) {
	text := bytesOf(40)
	s := veiled(t, "k", 5, text)
	for _, number := range []int{0, 1, 4, 6, 50, 55, 1 << 40} {
		if veiled(t, "k", number, s) == text {
			t.Errorf("number %d", number)
		}
	}
	for _, key := range []string{"", "K", "kk", "\x00k", "5k", "k5"} {
		if veiled(t, key, 5, s) == text {
			t.Errorf("key %q", key)
		}
	}
}

// P5.3: a veiled text is as long as the text, also if its bytes are no runes.
func TestVeiledIsAsLong(t *testing.T) {
	for _, n := range sizes() {
		for _, text := range []string{bytesOf(n), strings.Repeat("\xff", n), strings.Repeat("\x00", n), strings.Repeat("ä", n/2)} {
			if got := veiled(t, "k", 5, text); len(got) != len(text) {
				t.Errorf("%d bytes: %d", len(text), len(got))
			}
		}
	}
}

// P5.3: of two texts that differ in one byte the veiled ones differ in that one, by the very bits.
func TestOneByteDiffers(t *testing.T) {
	for _, n := range []int{1, 31, 32, 33, 64, 65} {
		text := bytesOf(n)
		first := veiled(t, "k", 5, text)
		for at := range n {
			for _, bits := range []byte{1, 128, 255} {
				other := []byte(text)
				other[at] ^= bits
				want := []byte(first)
				want[at] ^= bits
				if got := veiled(t, "k", 5, string(other)); got != string(want) {
					t.Errorf("%d bytes, place %d, bits %d: %x, not %x", n, at, bits, got, want)
				}
			}
		}
	}
	text := bytesOf(16384)
	first := veiled(t, "k", 5, text)
	for _, at := range []int{0, 31, 32, 8191, 16352, 16383} {
		other := text[:at] + string([]byte{text[at] ^ 1}) + text[at+1:]
		if got := xored(veiled(t, "k", 5, other), first); got != xored(other, text) {
			t.Errorf("16384 bytes, place %d: others differ", at)
		}
	}
}

// P5.3: a byte of a text is veiled in the same way whatever stands ahead of it and behind, and each value in its own.
func TestByteHangsOnItsPlaceAlone(t *testing.T) {
	for _, at := range []int{0, 1, 31, 32, 33, 63, 64} {
		seen := map[byte]int{}
		for value := range 256 {
			b := string([]byte{byte(value)})
			got := veiled(t, "k", 5, strings.Repeat("\x00", at)+b)[at]
			seen[got]++
			for _, behind := range []string{"a", "\xff\xff", bytesOf(100)} {
				if again := veiled(t, "k", 5, bytesOf(at)+b+behind)[at]; again != got {
					t.Errorf("place %d, byte %d: %d, and among others %d", at, value, got, again)
				}
			}
		}
		if len(seen) != 256 {
			t.Errorf("place %d: 256 bytes are veiled as %d", at, len(seen))
		}
	}
}

// P5.3: the beginning of a text is veiled as the beginning of the veiled text.
func TestBeginnings(t *testing.T) {
	text := bytesOf(200)
	whole, row := veiled(t, "key", 3, text), rowOf(t, "key", 3, 200)
	for n := range 201 {
		if veiled(t, "key", 3, text[:n]) != whole[:n] || rowOf(t, "key", 3, n) != row[:n] {
			t.Errorf("the first %d bytes", n)
		}
	}
}

// P5.1: no block of one row is one of another row, nor another one of its own.
func TestBlocksDiffer(t *testing.T) {
	type place struct{ key, number, block int }
	seen := map[string]place{}
	for k, key := range []string{"", "k", "l", "kk", bytesOf(65)} {
		for number := range 130 {
			row := rowOf(t, key, number, 130*32)
			for i := range 130 {
				block, here := row[i*32:i*32+32], place{k, number, i}
				if other, in := seen[block]; in {
					t.Fatalf("%v is %v", here, other)
				}
				seen[block] = here
			}
		}
	}
}

// P5.1: a key is taken as tags take it: bytes 0 behind a short one are no part of it, a long one is its sum.
func TestKeysAsTagsTakeThem(t *testing.T) {
	text := bytesOf(40)
	want := veiled(t, "key", 5, text)
	if veiled(t, "key"+strings.Repeat("\x00", 61), 5, text) != want {
		t.Error("a key with bytes 0 behind it, 64 in all")
	}
	if veiled(t, "key"+strings.Repeat("\x00", 62), 5, text) == want {
		t.Error("a key with bytes 0 behind it, 65 in all")
	}
	sum := sha256.Sum256([]byte(bytesOf(65)))
	if veiled(t, bytesOf(65), 5, text) != veiled(t, string(sum[:]), 5, text) {
		t.Error("a key of 65 bytes is not its sum")
	}
}

// R3, R4: what is handed in stays as it is, what is answered is new, and the same is answered again, whatever was asked between.
func TestNothingIsKept(t *testing.T) {
	key, text := []byte("key"), []byte(strings.Repeat("\x00", 40))
	ask := func() (string, string) {
		k, s := unsafe.String(&key[0], len(key)), unsafe.String(&text[0], len(text))
		return veiled(t, k, 5, s), rowOf(t, k, 5, 40)
	}
	first, row := ask()
	if string(key) != "key" || string(text) != strings.Repeat("\x00", 40) {
		t.Errorf("changed: %q, %q", key, text)
	}
	key[0], text[0] = 'x', 'x'
	ask()
	if want := rightRow("key", 5, 40); first != want || row != want {
		t.Errorf("an answer changed with what was handed in: %x, %x", first, row)
	}
	key[0], text[0] = 'k', 0
	if again, rowAgain := ask(); again != first || rowAgain != row {
		t.Errorf("%x, then %x", first, again)
	}
}
