package mac_test

import (
	"crypto/hmac"
	"crypto/sha256"
	"encoding/hex"
	"math"
	"slices"
	"strconv"
	"strings"
	"testing"

	"affidavit/api"
	"affidavit/mac"
)

// bytesOf makes so many bytes, of all values, of which the last one is no 0.
func bytesOf(size int) string {
	b := make([]byte, size)
	x := uint32(size + 7)
	for i := range b {
		x = x*1664525 + 1013904223
		b[i] = byte(x >> 24)
	}
	if size > 0 {
		b[size-1] |= 1
	}
	return string(b)
}

// right is the tag as somebody else makes it.
func right(key, text string) api.Digest {
	h := hmac.New(sha256.New, []byte(key))
	h.Write([]byte(text))
	return api.Digest(h.Sum(nil))
}

// keySizes are none, those about a digest's and a block's length, and long ones.
func keySizes() []int {
	return []int{0, 1, 4, 31, 32, 33, 62, 63, 64, 65, 66, 127, 128, 129, 1000, api.MaxText, 1 << 17}
}

// textSizes are lengths about the ends of blocks.
func textSizes() []int {
	return []int{0, 1, 54, 55, 56, 63, 64, 65, 119, 120, 128, 4096, api.MaxText + 1}
}

// P3.1: tags that are written down elsewhere (RFC 4231), the chapter's example among them.
func TestTagOfKnownTexts(t *testing.T) {
	for _, c := range []struct{ key, text, want string }{
		{"Jefe", "what do ya want for nothing?", "5bdcc146bf60754e6a042426089575c75a003f089d2739839dec58b964ec3843"},
		{"", "", "b613679a0814d9ec772f95d778c35fc5ff1697c493715653c6c712144292c5ad"},
		{strings.Repeat("\x0b", 20), "Hi There", "b0344c61d8db38535ca8afceaf0bf12b881dc200c9833da726e9376c2e32cff7"},
		{strings.Repeat("\xaa", 20), strings.Repeat("\xdd", 50), "773ea91e36800e46854db8ebd09181a72959098b3ef8c122d9635514ced565fe"},
		{strings.Repeat("\xaa", 131), "Test Using Larger Than Block-Size Key - Hash Key First", "60e431591ee0b67f0d8a26aacbf5b77f8e0bc6213728c5140546040f0ee37f54"},
		{strings.Repeat("\xaa", 131), "This is a test using a larger than block-size key and a larger than block-size data. The key needs to be hashed before being used by the HMAC algorithm.", "9b09ffa71b942fcb27635fbcd5b0e944bfdc63644f0713938a7f51535c3a35e2"},
	} {
		d := mac.Tag(c.key, c.text)
		if got := hex.EncodeToString(d[:]); got != c.want {
			t.Errorf("%.20q, %.20q: %s, not %s", c.key, c.text, got, c.want)
		}
	}
}

// P3.1: keys and texts of all lengths that matter.
func TestTagOfAllLengths(t *testing.T) {
	for _, k := range keySizes() {
		for _, n := range textSizes() {
			key, text := bytesOf(k), bytesOf(n)
			if got := mac.Tag(key, text); got != right(key, text) {
				t.Errorf("a key of %d bytes, a text of %d: %x", k, n, got)
			}
		}
	}
	for k := range 3 * 64 {
		key := bytesOf(k)
		if got := mac.Tag(key, "a"); got != right(key, "a") {
			t.Errorf("a key of %d bytes: %x", k, got)
		}
	}
}

// P3.1: no key, no texts, empty ones.
func TestTagOfNothing(t *testing.T) {
	for _, k := range keySizes() {
		key := bytesOf(k)
		want := right(key, "")
		for i, texts := range [][]string{nil, {}, {""}, {"", "", ""}} {
			if got := mac.Tag(key, texts...); got != want {
				t.Errorf("a key of %d bytes, texts %d: %x, not %x", k, i, got, want)
			}
		}
	}
	if mac.Tag("", "a") != right("", "a") {
		t.Error("no key")
	}
	if mac.Tag("a") == mac.Tag("", "a") {
		t.Error("a key is no text")
	}
}

// P3.1: all bytes of a key and of a text tell, and so does their order.
func TestTagOfOthersIsAnother(t *testing.T) {
	key, text := bytesOf(80), bytesOf(81)[1:]
	seen := map[api.Digest]string{mac.Tag(key, text): "itself"}
	add := func(what string, d api.Digest) {
		if other := seen[d]; other != "" {
			t.Errorf("%s: the tag of %s", what, other)
		}
		seen[d] = what
	}
	for i := range 80 {
		for _, bit := range []byte{1, 128} {
			k, s := []byte(key), []byte(text)
			k[i] ^= bit
			s[i] ^= bit
			at := strconv.Itoa(i) + " " + strconv.Itoa(int(bit))
			add("key "+at, mac.Tag(string(k), text))
			add("text "+at, mac.Tag(key, string(s)))
		}
	}
	add("turned about", mac.Tag(text, key))
	add("longer", mac.Tag(key, text, "\x00"))
	add("of three", mac.Tag(key, "a", "b", "c"))
	add("in another order", mac.Tag(key, "b", "a", "c"))
}

// P3.3: whatever two places part a text, its tag is the same.
func TestTagOfPartedTexts(t *testing.T) {
	for _, key := range []string{"", "k", bytesOf(64), bytesOf(65)} {
		text := bytesOf(130)
		want := right(key, text)
		for i := range len(text) + 1 {
			for j := i; j <= len(text); j++ {
				if got := mac.Tag(key, text[:i], text[i:j], text[j:]); got != want {
					t.Fatalf("a key of %d bytes, parted at %d and %d: %x", len(key), i, j, got)
				}
			}
		}
	}
}

// P3.3: parted into pieces of one length, and empty texts between them.
func TestTagOfManyTexts(t *testing.T) {
	text := bytesOf(1000)
	want := right("key", text)
	for _, size := range []int{1, 2, 3, 7, 31, 63, 64, 65, 128, 999, 1000} {
		var parts []string
		for i := 0; i < len(text); i += size {
			parts = append(parts, text[i:min(i+size, len(text))], "")
		}
		if got := mac.Tag("key", parts...); got != want {
			t.Errorf("pieces of %d bytes: %x", size, got)
		}
		if got := mac.Tag("key", append([]string{"", ""}, parts...)...); got != want {
			t.Errorf("pieces of %d bytes behind empty ones: %x", size, got)
		}
	}
}

// P3.4: bytes 0 behind a key, up to 64 in all, are no part of it; in front of it they are.
func TestKeyWithZerosBehindIt(t *testing.T) {
	for k := range 65 {
		key := bytesOf(k)
		want := mac.Tag(key, "text")
		for more := range 64 - k + 1 {
			if got := mac.Tag(key+strings.Repeat("\x00", more), "text"); got != want {
				t.Errorf("a key of %d bytes and %d of 0: %x, not %x", k, more, got, want)
			}
		}
		if mac.Tag(key+strings.Repeat("\x00", 65-k), "text") == want {
			t.Errorf("a key of %d bytes, and 65 in all", k)
		}
		if k > 0 && mac.Tag("\x00"+key, "text") == want {
			t.Errorf("a key of %d bytes behind a byte 0", k)
		}
	}
}

// P3.4: a key of more than 64 bytes is its sum, one of 64 is not.
func TestLongKeyIsItsSum(t *testing.T) {
	for _, k := range []int{65, 66, 100, 128, 129, 1000, 1 << 17} {
		key := bytesOf(k)
		s := sha256.Sum256([]byte(key))
		want := mac.Tag(string(s[:]), "te", "xt")
		if got := mac.Tag(key, "text"); got != want {
			t.Errorf("a key of %d bytes: %x, not %x", k, got, want)
		}
		if mac.Make(key, "label", 3) != mac.Make(string(s[:]), "label", 3) {
			t.Errorf("a key of %d bytes: made keys differ", k)
		}
	}
	for _, k := range []int{0, 32, 63, 64} {
		key := bytesOf(k)
		s := sha256.Sum256([]byte(key))
		if mac.Tag(key, "text") == mac.Tag(string(s[:]), "text") {
			t.Errorf("a key of %d bytes is tagged by its sum", k)
		}
	}
}

// P3.1: a made key is the tag of the label and the number, as they are laid.
func TestMake(t *testing.T) {
	numbers := []int{0, 1, -1, 9, 10, 1 << 40, math.MaxInt - 1, math.MaxInt, math.MinInt + 1, math.MinInt}
	labels := []string{"", "a", "label", "1:", "\x00", "\xff\xfe", bytesOf(64), bytesOf(api.MaxText - 1), bytesOf(api.MaxText)}
	for _, k := range []int{0, 1, 32, 64, 65, 1000} {
		key := bytesOf(k)
		for _, label := range labels {
			for _, n := range numbers {
				d := right(key, strconv.Itoa(len(label))+":"+label+strconv.Itoa(n)+";")
				if got := mac.Make(key, label, n); got != string(d[:]) {
					t.Errorf("a key of %d bytes, a label of %d, %d: %x, not %x", k, len(label), n, got, d)
				}
			}
		}
	}
}

// P3.1: a label of more than 16384 bytes makes no key.
func TestMakeOfTooLongLabel(t *testing.T) {
	for _, size := range []int{16385, 16386, 1 << 15, 1 << 20} {
		for _, n := range []int{0, 1, math.MinInt} {
			if got := mac.Make("key", bytesOf(size), n); got != "" {
				t.Errorf("a label of %d bytes: %x", size, got)
			}
		}
	}
	if got := mac.Make("key", bytesOf(16384), 0); len(got) != 32 {
		t.Errorf("a label of 16384 bytes: %x", got)
	}
}

// P3.1: keys that are made for one label or number are none for another one.
func TestMadeKeysDiffer(t *testing.T) {
	seen := map[string]int{}
	for i, made := range []string{
		mac.Make("k", "a", 1), mac.Make("k", "a", 2), mac.Make("k", "a", -1), mac.Make("k", "b", 1), mac.Make("k", "", 1),
		mac.Make("l", "a", 1), mac.Make("", "a", 1), mac.Make("k", "a1", 1), mac.Make("k", "a", 11), mac.Make("k", "1:a", 1),
	} {
		if j := seen[made]; j > 0 || len(made) != 32 {
			t.Errorf("key %d is key %d: %x", i, j-1, made)
		}
		seen[made] = i + 1
	}
}

// P3.2: 32 bytes are a digest and the digest those bytes.
func TestBytesAndDigest(t *testing.T) {
	for _, s := range []string{bytesOf(32), strings.Repeat("\x00", 32), strings.Repeat("\xff", 32), "0123456789abcdefghijklmnopqrstuv"} {
		d, e := mac.Digest(s)
		if e != api.OK || d != api.Digest([]byte(s)) {
			t.Errorf("Digest(%x): %x, %d", s, d, int(e))
		}
		if got := mac.Bytes(api.Digest([]byte(s))); got != s {
			t.Errorf("Bytes(%x): %x", s, got)
		}
	}
	if got := mac.Bytes(api.Digest{}); got != strings.Repeat("\x00", 32) {
		t.Errorf("Bytes of zero: %x", got)
	}
	if got := mac.Bytes(api.Digest{0: 1, 31: 2}); got != "\x01"+strings.Repeat("\x00", 30)+"\x02" {
		t.Errorf("Bytes in order: %x", got)
	}
}

// P3.2: all other lengths are none, and nothing is told beside the error.
func TestDigestOfOtherLengths(t *testing.T) {
	for _, size := range []int{0, 1, 2, 30, 31, 33, 34, 63, 64, 65, 1000, 1 << 17} {
		want := api.ErrShort
		if size > 32 {
			want = api.ErrForm
		}
		for _, s := range []string{bytesOf(size), strings.Repeat("\x00", size)} {
			if d, e := mac.Digest(s); e != want || d != (api.Digest{}) {
				t.Errorf("%d bytes: %x, %d, not %d", size, d, int(e), int(want))
			}
		}
	}
}

// R3, R4: what is handed in stays as it is, its spare room too, and the same is answered again.
func TestTagLeavesItsTexts(t *testing.T) {
	texts := []string{"a", "", "bc", "spare"}
	first := mac.Tag("key", texts[:3]...)
	if !slices.Equal(texts, []string{"a", "", "bc", "spare"}) {
		t.Errorf("changed: %q", texts)
	}
	if again := mac.Tag("key", texts[:3]...); again != first {
		t.Errorf("%x, then %x", first, again)
	}
}
