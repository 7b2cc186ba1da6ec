package lay_test

import (
	"math"
	"slices"
	"strconv"
	"strings"
	"testing"
	"unsafe"

	"affidavit/api"
	"affidavit/lay"
)

// numbers are the edges of int, and what is beside them.
func numbers() []int {
	return []int{0, 1, -1, 7, 9, 10, -10, -40, 99, 100, 101, 12345, -12345, math.MaxInt - 1, math.MaxInt, math.MinInt + 1, math.MinInt}
}

// texts are texts that look like laid ones, bytes that are no runes, and the greatest one.
func texts() []string {
	return []string{"", "a", "abc", "0", "1:", "0:", ";", "-", "(", ")", "()", "1;", "3:abc", "\x00", "\xff\xfe", "ä", strings.Repeat("x", 10), strings.Repeat(")", api.MaxText-1), strings.Repeat("y", api.MaxText)}
}

// P1.1: a number's bytes.
func TestNumberLaid(t *testing.T) {
	for n, want := range map[int]string{0: "0;", 7: "7;", -1: "-1;", -40: "-40;", 100: "100;", math.MaxInt64: "9223372036854775807;", math.MinInt64: "-9223372036854775808;"} {
		if got := lay.Number(n); got != want {
			t.Errorf("Number(%d): %q, not %q", n, got, want)
		}
	}
}

// P1.1: a text's bytes, up to the limit and above it.
func TestTextLaid(t *testing.T) {
	most := strings.Repeat("m", api.MaxText)
	for _, c := range []struct {
		s, want string
		e       api.Errno
	}{
		{"", "0:", api.OK},
		{"abc", "3:abc", api.OK},
		{"\x00\xff;:()", "6:\x00\xff;:()", api.OK},
		{"ä", "2:ä", api.OK},
		{"0123456789", "10:0123456789", api.OK},
		{most, "16384:" + most, api.OK},
		{most + "m", "", api.ErrBig},
		{most + most, "", api.ErrBig},
	} {
		if got, e := lay.Text(c.s); got != c.want || e != c.e {
			t.Errorf("Text of %d bytes: %.20q, %d, not %.20q, %d", len(c.s), got, e, c.want, c.e)
		}
	}
}

// P1.1: numbers' bytes, up to the limit and above it.
func TestNumbersLaid(t *testing.T) {
	most := make([]int, api.MaxList)
	for _, c := range []struct {
		l    []int
		want string
		e    api.Errno
	}{
		{nil, "()", api.OK},
		{[]int{}, "()", api.OK},
		{[]int{1, 2}, "(1;2;)", api.OK},
		{[]int{2, 1}, "(2;1;)", api.OK},
		{[]int{-40, 0, math.MinInt64}, "(-40;0;-9223372036854775808;)", api.OK},
		{most, "(" + strings.Repeat("0;", api.MaxList) + ")", api.OK},
		{make([]int, api.MaxList+1), "", api.ErrBig},
	} {
		if got, e := lay.Numbers(c.l); got != c.want || e != c.e {
			t.Errorf("Numbers of %d: %.20q, %d, not %.20q, %d", len(c.l), got, e, c.want, c.e)
		}
	}
}

// P1.1: texts' bytes, up to both limits and above each.
func TestTextsLaid(t *testing.T) {
	long := strings.Repeat("l", api.MaxText)
	for _, c := range []struct {
		l    []string
		want string
		e    api.Errno
	}{
		{nil, "()", api.OK},
		{[]string{"a", "", "bc"}, "(1:a0:2:bc)", api.OK},
		{[]string{"()", ";"}, "(2:()1:;)", api.OK},
		{[]string{"a", long}, "(1:a16384:" + long + ")", api.OK},
		{make([]string, api.MaxList), "(" + strings.Repeat("0:", api.MaxList) + ")", api.OK},
		{make([]string, api.MaxList+1), "", api.ErrBig},
		{[]string{long + "l"}, "", api.ErrBig},
		{[]string{"a", long + "l", "b"}, "", api.ErrBig},
		{append(make([]string, api.MaxList-1), long+"l"), "", api.ErrBig},
	} {
		if got, e := lay.Texts(c.l); got != c.want || e != c.e {
			t.Errorf("Texts of %d: %.20q, %d, not %.20q, %d", len(c.l), got, e, c.want, c.e)
		}
	}
}

// wrongPlaces are places that no text of size bytes has.
func wrongPlaces(size int) []int {
	return []int{-1, -2, size + 1, size + 2, math.MaxInt, math.MinInt}
}

// P1.2, P1.3, P1.4: a place that is not from 0 to the number of bytes is told ahead of all else.
func TestWrongPlaces(t *testing.T) {
	for _, s := range []string{"", "5", "5;", "01;", "1:a", "(5;)", "(1:a)", "x"} {
		for _, at := range wrongPlaces(len(s)) {
			if n, next, e := lay.ReadNumber(s, at); n != 0 || next != 0 || e != api.ErrRange {
				t.Errorf("ReadNumber(%q, %d): %d, %d, %d", s, at, n, next, e)
			}
			if got, next, e := lay.ReadText(s, at); got != "" || next != 0 || e != api.ErrRange {
				t.Errorf("ReadText(%q, %d): %q, %d, %d", s, at, got, next, e)
			}
			if l, next, e := lay.ReadNumbers(s, at); len(l) != 0 || next != 0 || e != api.ErrRange {
				t.Errorf("ReadNumbers(%q, %d): %v, %d, %d", s, at, l, next, e)
			}
			if l, next, e := lay.ReadTexts(s, at); len(l) != 0 || next != 0 || e != api.ErrRange {
				t.Errorf("ReadTexts(%q, %d): %q, %d, %d", s, at, l, next, e)
			}
		}
	}
}

// P1.2: numbers, and each error with those that it goes ahead of.
func TestReadNumber(t *testing.T) {
	many := strings.Repeat("9", 10000)
	for _, c := range []struct {
		s       string
		at      int
		n, next int
		e       api.Errno
	}{
		{"0;", 0, 0, 2, api.OK},
		{"-40;", 0, -40, 4, api.OK},
		{"10;", 1, 0, 3, api.OK},
		{"a-1;", 1, -1, 4, api.OK},
		{"--1;", 1, -1, 4, api.OK},
		{"5;5", 0, 5, 2, api.OK},
		{"9223372036854775807;", 0, math.MaxInt64, 20, api.OK},
		{"-9223372036854775808;", 0, math.MinInt64, 21, api.OK},

		{"", 0, 0, 0, api.ErrShort},
		{"5;", 2, 0, 0, api.ErrShort},
		{"-", 0, 0, 0, api.ErrShort},
		{"5", 0, 0, 0, api.ErrShort},
		{"-5", 0, 0, 0, api.ErrShort},
		{"-0", 0, 0, 0, api.ErrShort},
		{"01", 0, 0, 0, api.ErrShort},
		{"00", 0, 0, 0, api.ErrShort},
		{many, 0, 0, 0, api.ErrShort},

		{";", 0, 0, 0, api.ErrForm},
		{"-;", 0, 0, 0, api.ErrForm},
		{"--1;", 0, 0, 0, api.ErrForm},
		{"+1;", 0, 0, 0, api.ErrForm},
		{" 1;", 0, 0, 0, api.ErrForm},
		{"1 ;", 0, 0, 0, api.ErrForm},
		{"x", 0, 0, 0, api.ErrForm},
		{"5:", 0, 0, 0, api.ErrForm},
		{"5-;", 0, 0, 0, api.ErrForm},
		{"1_0;", 0, 0, 0, api.ErrForm},
		{"1/;", 0, 0, 0, api.ErrForm},
		{"0x1;", 0, 0, 0, api.ErrForm},
		{"01;", 0, 0, 0, api.ErrForm},
		{"00;", 0, 0, 0, api.ErrForm},
		{"-0;", 0, 0, 0, api.ErrForm},
		{"-00;", 0, 0, 0, api.ErrForm},
		{"-01;", 0, 0, 0, api.ErrForm},
		{"0" + many + ";", 0, 0, 0, api.ErrForm},
		{many + "x", 0, 0, 0, api.ErrForm},

		{"9223372036854775808;", 0, 0, 0, api.ErrBig},
		{"-9223372036854775809;", 0, 0, 0, api.ErrBig},
		{"18446744073709551616;", 0, 0, 0, api.ErrBig},
		{"18446744073709551621;", 0, 0, 0, api.ErrBig},
		{many + ";", 0, 0, 0, api.ErrBig},
		{"-" + many + ";", 0, 0, 0, api.ErrBig},
	} {
		if n, next, e := lay.ReadNumber(c.s, c.at); n != c.n || next != c.next || e != c.e {
			t.Errorf("ReadNumber(%.30q, %d): %d, %d, %d, not %d, %d, %d", c.s, c.at, n, next, e, c.n, c.next, c.e)
		}
	}
}

// P1.3: texts, and each error with those that it goes ahead of.
func TestReadText(t *testing.T) {
	most := strings.Repeat("m", api.MaxText)
	many := strings.Repeat("9", 10000)
	for _, c := range []struct {
		s    string
		at   int
		text string
		next int
		e    api.Errno
	}{
		{"0:", 0, "", 2, api.OK},
		{"3:abc", 0, "abc", 5, api.OK},
		{"3:abcd", 0, "abc", 5, api.OK},
		{"10:0123456789", 1, "", 3, api.OK},
		{"x2:\xff\x00y", 1, "\xff\x00", 5, api.OK},
		{"16384:" + most, 0, most, 6 + api.MaxText, api.OK},

		{"", 0, "", 0, api.ErrShort},
		{"3:abc", 5, "", 0, api.ErrShort},
		{"3", 0, "", 0, api.ErrShort},
		{"03", 0, "", 0, api.ErrShort},
		{many, 0, "", 0, api.ErrShort},

		{":", 0, "", 0, api.ErrForm},
		{"-1:a", 0, "", 0, api.ErrForm},
		{"-", 0, "", 0, api.ErrForm},
		{"-0:", 0, "", 0, api.ErrForm},
		{"+1:a", 0, "", 0, api.ErrForm},
		{"x", 0, "", 0, api.ErrForm},
		{"1;a", 0, "", 0, api.ErrForm},
		{"1 :a", 0, "", 0, api.ErrForm},
		{"01:a", 0, "", 0, api.ErrForm},
		{"00:", 0, "", 0, api.ErrForm},
		{"03:a", 0, "", 0, api.ErrForm},
		{"0" + many + ":", 0, "", 0, api.ErrForm},
		{many + ";", 0, "", 0, api.ErrForm},

		{"16385:" + most + "m", 0, "", 0, api.ErrBig},
		{"16385:", 0, "", 0, api.ErrBig},
		{"9223372036854775807:", 0, "", 0, api.ErrBig},
		{"9223372036854775808:", 0, "", 0, api.ErrBig},
		{"18446744073709551617:a", 0, "", 0, api.ErrBig},
		{many + ":", 0, "", 0, api.ErrBig},

		{"1:", 0, "", 0, api.ErrShort},
		{"3:ab", 0, "", 0, api.ErrShort},
		{"16384:" + most[1:], 0, "", 0, api.ErrShort},
	} {
		if text, next, e := lay.ReadText(c.s, c.at); text != c.text || next != c.next || e != c.e {
			t.Errorf("ReadText(%.30q, %d): %.20q, %d, %d, not %.20q, %d, %d", c.s, c.at, text, next, e, c.text, c.next, c.e)
		}
	}
}

// P1.4: numbers, and the first item's error.
func TestReadNumbers(t *testing.T) {
	full := "(" + strings.Repeat("7;", api.MaxList)
	for _, c := range []struct {
		s    string
		at   int
		l    []int
		next int
		e    api.Errno
	}{
		{"()", 0, nil, 2, api.OK},
		{"(1;2;)", 0, []int{1, 2}, 6, api.OK},
		{"((-1;)()", 1, []int{-1}, 6, api.OK},
		{full + ")", 0, slices.Repeat([]int{7}, api.MaxList), len(full) + 1, api.OK},

		{"", 0, nil, 0, api.ErrShort},
		{"()", 2, nil, 0, api.ErrShort},
		{"(", 0, nil, 0, api.ErrShort},
		{"(1", 0, nil, 0, api.ErrShort},
		{"(1;", 0, nil, 0, api.ErrShort},
		{"(-", 0, nil, 0, api.ErrShort},

		{")", 0, nil, 0, api.ErrForm},
		{"1;)", 0, nil, 0, api.ErrForm},
		{"[1;)", 0, nil, 0, api.ErrForm},
		{"(1)", 0, nil, 0, api.ErrForm},
		{"(1;,2;)", 0, nil, 0, api.ErrForm},
		{"(01;)", 0, nil, 0, api.ErrForm},
		{"(-0;)", 0, nil, 0, api.ErrForm},
		{"(())", 0, nil, 0, api.ErrForm},
		{"(1:a)", 0, nil, 0, api.ErrForm},

		{"(9223372036854775808;)", 0, nil, 0, api.ErrBig},
		{"(9223372036854775808;x", 0, nil, 0, api.ErrBig},
		{"(x;9223372036854775808;)", 0, nil, 0, api.ErrForm},
		{full + "7;)", 0, nil, 0, api.ErrBig},
		{full + "7", 0, nil, 0, api.ErrBig},
		{full + "x", 0, nil, 0, api.ErrBig},
		{full, 0, nil, 0, api.ErrBig},
		{full[:len(full)-2], 0, nil, 0, api.ErrShort},
		{full[:len(full)-2] + "x", 0, nil, 0, api.ErrForm},
	} {
		if l, next, e := lay.ReadNumbers(c.s, c.at); !slices.Equal(l, c.l) || next != c.next || e != c.e {
			t.Errorf("ReadNumbers(%.30q, %d): %.20v, %d, %d, not %.20v, %d, %d", c.s, c.at, l, next, e, c.l, c.next, c.e)
		}
	}
}

// P1.4: texts, and the first item's error.
func TestReadTexts(t *testing.T) {
	full := "(" + strings.Repeat("1:)", api.MaxList)
	for _, c := range []struct {
		s    string
		at   int
		l    []string
		next int
		e    api.Errno
	}{
		{"()", 0, nil, 2, api.OK},
		{"(1:a0:2:bc)x", 0, []string{"a", "", "bc"}, 11, api.OK},
		{"((1:))", 1, []string{")"}, 6, api.OK},
		{full + ")", 0, slices.Repeat([]string{")"}, api.MaxList), len(full) + 1, api.OK},

		{"", 0, nil, 0, api.ErrShort},
		{"x", 1, nil, 0, api.ErrShort},
		{"(", 0, nil, 0, api.ErrShort},
		{"(2", 0, nil, 0, api.ErrShort},
		{"(2:a", 0, nil, 0, api.ErrShort},
		{"(2:a)", 0, nil, 0, api.ErrShort},

		{")", 0, nil, 0, api.ErrForm},
		{"1:a)", 0, nil, 0, api.ErrForm},
		{"(1;)", 0, nil, 0, api.ErrForm},
		{"(01:a)", 0, nil, 0, api.ErrForm},
		{"(-1:a)", 0, nil, 0, api.ErrForm},
		{"(1:ax)", 0, nil, 0, api.ErrForm},

		{"(16385:)", 0, nil, 0, api.ErrBig},
		{"(x16385:)", 0, nil, 0, api.ErrForm},
		{full + "0:)", 0, nil, 0, api.ErrBig},
		{full + "x", 0, nil, 0, api.ErrBig},
		{full, 0, nil, 0, api.ErrBig},
		{full[:len(full)-3], 0, nil, 0, api.ErrShort},
		{full[:len(full)-3] + "x", 0, nil, 0, api.ErrForm},
	} {
		if l, next, e := lay.ReadTexts(c.s, c.at); !slices.Equal(l, c.l) || next != c.next || e != c.e {
			t.Errorf("ReadTexts(%.30q, %d): %.20q, %d, %d, not %.20q, %d, %d", c.s, c.at, l, next, e, c.l, c.next, c.e)
		}
	}
}

// surroundings are what may stand ahead of laid bytes, and behind them.
func surroundings() []string { return []string{"", "0", "-", ";", ":", "(", ")", "12:", "(1;", "\xff"} }

// P1.5: a number that was laid is read as it was, whatever is around it.
func TestNumberThereAndBack(t *testing.T) {
	for _, n := range numbers() {
		laid := lay.Number(n)
		for _, ahead := range surroundings() {
			for _, behind := range surroundings() {
				got, next, e := lay.ReadNumber(ahead+laid+behind, len(ahead))
				if got != n || next != len(ahead)+len(laid) || e != api.OK {
					t.Errorf("%d between %q and %q: %d, %d, %d", n, ahead, behind, got, next, e)
				}
			}
		}
	}
}

// P1.5: likewise a text.
func TestTextThereAndBack(t *testing.T) {
	for _, s := range texts() {
		laid, _ := lay.Text(s)
		for _, ahead := range surroundings() {
			for _, behind := range surroundings() {
				got, next, e := lay.ReadText(ahead+laid+behind, len(ahead))
				if got != s || next != len(ahead)+len(laid) || e != api.OK {
					t.Errorf("%.20q between %q and %q: %.20q, %d, %d", s, ahead, behind, got, next, e)
				}
			}
		}
	}
}

// P1.5: likewise lists of numbers and of texts.
func TestListsThereAndBack(t *testing.T) {
	for _, ahead := range surroundings() {
		for _, behind := range surroundings() {
			for size := range len(numbers()) + 1 {
				l := numbers()[:size]
				laid, _ := lay.Numbers(l)
				got, next, e := lay.ReadNumbers(ahead+laid+behind, len(ahead))
				if !slices.Equal(got, l) || next != len(ahead)+len(laid) || e != api.OK {
					t.Errorf("%v between %q and %q: %v, %d, %d", l, ahead, behind, got, next, e)
				}
			}
			for size := range len(texts()) + 1 {
				l := texts()[:size]
				laid, _ := lay.Texts(l)
				got, next, e := lay.ReadTexts(ahead+laid+behind, len(ahead))
				if !slices.Equal(got, l) || next != len(ahead)+len(laid) || e != api.OK {
					t.Errorf("%d texts between %q and %q: %.20q, %d, %d", size, ahead, behind, got, next, e)
				}
			}
		}
	}
}

// eachString hands over all strings of up to size bytes of an alphabet.
func eachString(alphabet string, size int, f func(string)) {
	var grow func(string)
	grow = func(s string) {
		f(s)
		if len(s) == size {
			return
		}
		for i := range len(alphabet) {
			grow(s + alphabet[i:i+1])
		}
	}
	grow("")
}

// P1.5: what is read is laid as the very bytes, of all short strings, from each place on.
func TestReadIsLaidAgain(t *testing.T) {
	read := [4]int{}
	same := func(kind int, s string, at, next int, laid string) {
		read[kind]++
		if next < at || next > len(s) || s[at:next] != laid {
			t.Errorf("kind %d, %q from %d to %d is laid as %q", kind, s, at, next, laid)
		}
	}
	eachString("-012;:()", 6, func(s string) {
		for at := range len(s) + 1 {
			if n, next, e := lay.ReadNumber(s, at); e == api.OK {
				same(0, s, at, next, lay.Number(n))
			}
			if text, next, e := lay.ReadText(s, at); e == api.OK {
				laid, _ := lay.Text(text)
				same(1, s, at, next, laid)
			}
			if l, next, e := lay.ReadNumbers(s, at); e == api.OK {
				laid, _ := lay.Numbers(l)
				same(2, s, at, next, laid)
			}
			if l, next, e := lay.ReadTexts(s, at); e == api.OK {
				laid, _ := lay.Texts(l)
				same(3, s, at, next, laid)
			}
		}
	})
	if slices.Contains(read[:], 0) {
		t.Error("of some kind nothing was read", read)
	}
}

// bare tells a list of texts by a way of its own: two are the same just if the lists are.
func bare(l []string) string {
	var b strings.Builder
	for _, s := range l {
		b.WriteString(strconv.Quote(s))
	}
	return b.String()
}

// apart fails if laid bytes of two unlike things begin each other.
func apart(t *testing.T, laid map[string]string) {
	t.Helper()
	for a, x := range laid {
		for b, y := range laid {
			if a != b && strings.HasPrefix(x, y) {
				t.Errorf("%.30q begins %.30q", y, x)
			}
		}
	}
}

// P1.6: of two unlike numbers (texts, lists) neither one's bytes begin the other one's.
func TestApart(t *testing.T) {
	laidNumbers, laidTexts, laidLists, laidRows := map[string]string{}, map[string]string{}, map[string]string{}, map[string]string{}
	for _, n := range numbers() {
		laidNumbers[strconv.Itoa(n)] = lay.Number(n)
	}
	for n := -120; n <= 120; n++ {
		laidNumbers[strconv.Itoa(n)] = lay.Number(n)
	}
	apart(t, laidNumbers)
	for _, s := range texts() {
		laidTexts[s], _ = lay.Text(s)
	}
	eachString("1:;)", 4, func(s string) { laidTexts[s], _ = lay.Text(s) })
	apart(t, laidTexts)
	eachString("012", 4, func(s string) {
		var l []int
		var row []string
		for i := range len(s) {
			l = append(l, []int{0, 1, -11}[s[i]-'0'])
			row = append(row, []string{"", ")", "1:"}[s[i]-'0'])
		}
		laidLists[s], _ = lay.Numbers(l)
		laidRows[bare(row)], _ = lay.Texts(row)
	})
	apart(t, laidLists)
	apart(t, laidRows)
}

// R3: what is handed in is not changed, its spare room neither.
func TestHandedInStays(t *testing.T) {
	n := []int{3, 2, 1, 9, 9}
	s := []string{"c", "b", "a", "z", "z"}
	lay.Numbers(n[:3])
	lay.Texts(s[:3])
	if !slices.Equal(n, []int{3, 2, 1, 9, 9}) || !slices.Equal(s, []string{"c", "b", "a", "z", "z"}) {
		t.Error(n, s)
	}
}

// R3: what is answered is new memory.
func TestAnswersAreNew(t *testing.T) {
	const row = "(5:abcde3:xyz)"
	s := strings.Clone(row)
	from := uintptr(unsafe.Pointer(unsafe.StringData(s)))
	shares := func(part string) bool {
		p := uintptr(unsafe.Pointer(unsafe.StringData(part)))
		return p >= from && p < from+uintptr(len(s))
	}
	text, _, _ := lay.ReadText(s, 1)
	l, _, _ := lay.ReadTexts(s, 0)
	if text != "abcde" || shares(text) || len(l) != 2 || shares(l[0]) || shares(l[1]) {
		t.Error("a text that was read is a piece of what was handed in")
	}
	l[0] = "changed"
	if again, _, _ := lay.ReadTexts(s, 0); again[0] != "abcde" {
		t.Error("two answers share a list")
	}
}
