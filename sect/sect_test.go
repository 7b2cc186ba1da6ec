package sect_test

import (
	"math"
	"math/rand"
	"slices"
	"strings"
	"testing"
	"unsafe"

	"affidavit/api"
	"affidavit/sect"
)

// diskOf is a disk that there may be.
func diskOf(t *testing.T, sectors int) *sect.Disk {
	t.Helper()
	d, e := sect.New(sectors)
	if e != api.OK || d == nil {
		t.Fatalf("%d sectors: a disk: %v, %d", sectors, d != nil, int(e))
	}
	return d
}

// whole is a sector that has a text, and bytes 0 behind it.
func whole(s string) string { return s + strings.Repeat("\x00", 64-len(s)) }

// torn is a sector that has the first bytes of a text, and those of another one behind them.
func torn(now, old string, kept int) string { return whole(now)[:kept] + whole(old)[kept:] }

// want asks for an error.
func want(t *testing.T, what string, got, e api.Errno) {
	t.Helper()
	if got != e {
		t.Fatalf("%s: %d, and not %d", what, int(got), int(e))
	}
}

// write is a write that may be.
func write(t *testing.T, d *sect.Disk, i int, s string) {
	t.Helper()
	want(t, "Write", d.Write(i, s), api.OK)
}

// sync is a Sync that may be.
func sync(t *testing.T, d *sect.Disk) {
	t.Helper()
	want(t, "Sync", d.Sync(), api.OK)
}

// arm is an Arm that may be.
func arm(t *testing.T, d *sect.Disk, n int) {
	t.Helper()
	want(t, "Arm", d.Arm(n), api.OK)
}

// crash is a crash, behind which the disk is up, and has no loose sector.
func crash(t *testing.T, d *sect.Disk, keep ...int) {
	t.Helper()
	want(t, "Crash", d.Crash(keep), api.OK)
	if d.Down() {
		t.Fatal("it is down behind a crash")
	}
	loose(t, d)
}

// reads asks for a sector's 64 bytes.
func reads(t *testing.T, d *sect.Disk, i int, s string) {
	t.Helper()
	got, e := d.Read(i)
	if e != api.OK || got != s {
		t.Fatalf("sector %d: %q, %d, and not %q", i, got, int(e), s)
	}
}

// loose asks for the sectors that have old bytes.
func loose(t *testing.T, d *sect.Disk, l ...int) {
	t.Helper()
	if got := d.Loose(); !slices.Equal(got, l) {
		t.Fatalf("loose: %v, and not %v", got, l)
	}
}

// up asks for a disk that is, or is not.
func up(t *testing.T, d *sect.Disk, is bool) {
	t.Helper()
	if d.Down() == is {
		t.Fatalf("up: %v, and not %v", !is, is)
	}
}

// notArmed asks for a disk that goes down at none of many writes. It leaves the disk synced.
func notArmed(t *testing.T, d *sect.Disk) {
	t.Helper()
	for range 200 {
		write(t, d, 0, "w")
		sync(t, d)
	}
	up(t, d, true)
}

// texts are such that a sector has room for: none, bytes that are no runes, bytes 0, and the longest ones.
func texts() []string {
	return []string{
		"", "a", "\x00", "\xff", "\xff\xfe\x80", "ä", "\xef\xbf\xbd", "a\x00b", "\xc3", "aa\x00\x00",
		strings.Repeat("y", 63), strings.Repeat("\xfe", 64), strings.Repeat("z", 64), strings.Repeat("ä", 32), strings.Repeat("\x00", 64),
	}
}

// P6.1: so many sectors there may be, and each has 64 bytes 0.
func TestNew(t *testing.T) {
	for _, n := range []int{1, 2, 3, 63, 64, 65, 511, 512} {
		d := diskOf(t, n)
		if d.Sectors() != n || d.Down() || len(d.Loose()) != 0 {
			t.Errorf("%d sectors: %d, down: %v, loose: %v", n, d.Sectors(), d.Down(), d.Loose())
		}
		for i := range n {
			reads(t, d, i, strings.Repeat("\x00", 64))
		}
		notArmed(t, d)
	}
}

// P6.1: fewer and more sectors there may not be.
func TestNewRefused(t *testing.T) {
	for _, n := range []int{0, -1, 513, 514, -512, 1 << 32, 1<<32 + 1, math.MaxInt, math.MinInt, math.MinInt + 1} {
		if d, e := sect.New(n); d != nil || e != api.ErrArg {
			t.Errorf("%d sectors: a disk: %v, %d", n, d != nil, int(e))
		}
	}
}

// P6.1: what is done with one disk is not done with another one.
func TestTwoDisks(t *testing.T) {
	a, b := diskOf(t, 2), diskOf(t, 2)
	write(t, a, 0, "a")
	arm(t, a, 1)
	reads(t, b, 0, whole(""))
	loose(t, b)
	want(t, "Write", a.Write(1, "a"), api.ErrDown)
	up(t, b, true)
	write(t, b, 1, "b")
	crash(t, a, 64, 64)
	loose(t, b, 1)
	reads(t, a, 1, whole("a"))
	reads(t, b, 1, whole("b"))
}

// P6.4: the chapter's example.
func TestExample(t *testing.T) {
	d := diskOf(t, 1)
	write(t, d, 0, "aa")
	sync(t, d)
	write(t, d, 0, "bbb")
	crash(t, d, 1)
	reads(t, d, 0, "ba"+strings.Repeat("\x00", 62))
}

// P6.2, P6.3: a sector has what was written, and bytes 0 behind it, whatever it had.
func TestWrite(t *testing.T) {
	for _, first := range texts() {
		for _, then := range texts() {
			d := diskOf(t, 3)
			write(t, d, 1, first)
			reads(t, d, 1, whole(first))
			loose(t, d, 1)
			write(t, d, 1, then)
			reads(t, d, 1, whole(then))
			loose(t, d, 1)
			sync(t, d)
			reads(t, d, 1, whole(then))
			loose(t, d)
		}
	}
}

// P6.2: texts of all lengths, a shorter one over a longer one.
func TestWriteLengths(t *testing.T) {
	for n := 64; n >= 0; n-- {
		d := diskOf(t, 1)
		write(t, d, 0, strings.Repeat("l", 64))
		write(t, d, 0, strings.Repeat("s", n))
		reads(t, d, 0, strings.Repeat("s", n)+strings.Repeat("\x00", 64-n))
	}
}

// P6.2, P6.3: the first and the last sector there are, and none beside them.
func TestRange(t *testing.T) {
	for _, n := range []int{1, 2, 512} {
		d := diskOf(t, n)
		for _, i := range []int{0, n - 1} {
			write(t, d, i, "x")
			reads(t, d, i, whole("x"))
		}
		sync(t, d)
		for _, i := range []int{-1, n, n + 1, -n, -n - 1, 1 << 32, -1 << 32, math.MaxInt, math.MinInt} {
			want(t, "Write", d.Write(i, "y"), api.ErrRange)
			if s, e := d.Read(i); s != "" || e != api.ErrRange {
				t.Errorf("%d sectors, sector %d: %q, %d", n, i, s, int(e))
			}
		}
		loose(t, d)
		for i := range n {
			s := ""
			if i == 0 || i == n-1 {
				s = "x"
			}
			reads(t, d, i, whole(s))
		}
	}
}

// P6.2: longer texts are refused, and change nothing; of no sector the error is ErrRange.
func TestBig(t *testing.T) {
	d := diskOf(t, 2)
	write(t, d, 0, "x")
	sync(t, d)
	for _, n := range []int{65, 66, 128, 1 << 16, 1 << 20} {
		long := strings.Repeat("l", n)
		want(t, "Write", d.Write(0, long), api.ErrBig)
		want(t, "Write", d.Write(1, long), api.ErrBig)
		want(t, "Write", d.Write(-1, long), api.ErrRange)
		want(t, "Write", d.Write(2, long), api.ErrRange)
	}
	loose(t, d)
	reads(t, d, 0, whole("x"))
	reads(t, d, 1, whole(""))
}

// P6.3: loose are those that were written, each once, rising, whatever was written, up to a Sync or a crash.
func TestLoose(t *testing.T) {
	d := diskOf(t, 512)
	for _, i := range []int{511, 7, 0, 256, 7, 0} {
		write(t, d, i, "x")
	}
	loose(t, d, 0, 7, 256, 511)
	sync(t, d)
	loose(t, d)
	sync(t, d)
	loose(t, d)
	write(t, d, 7, "x") // The very bytes that it has.
	write(t, d, 3, "")
	loose(t, d, 3, 7)
	crash(t, d)
	loose(t, d)
	for i := 511; i >= 0; i-- {
		write(t, d, i, "")
	}
	if l := d.Loose(); len(l) != 512 || !slices.IsSorted(l) {
		t.Errorf("all: %v", l)
	}
}

// P6.3, R4: asking changes nothing, and counts as no write.
func TestAsking(t *testing.T) {
	d := diskOf(t, 2)
	write(t, d, 0, "a")
	arm(t, d, 1)
	for range 10 {
		reads(t, d, 0, whole("a"))
		loose(t, d, 0)
		up(t, d, true)
		if d.Sectors() != 2 {
			t.Fatal(d.Sectors())
		}
	}
	want(t, "Write", d.Write(0, "b"), api.ErrDown)
}

// P6.4: an armed disk goes down at the n-th write, Write or Sync, and at none ahead of it.
func TestArm(t *testing.T) {
	for n := 1; n <= 20; n++ {
		for _, syncs := range []int{1, 2, 3, n} {
			d := diskOf(t, 1)
			write(t, d, 0, "w")
			arm(t, d, n)
			for i := 1; i <= n; i++ {
				up(t, d, true)
				e := d.Sync
				if i%syncs != 0 {
					e = func() api.Errno { return d.Write(0, "x") }
				}
				if i < n {
					want(t, "ahead of it", e(), api.OK)
				} else {
					want(t, "at it", e(), api.ErrDown)
				}
			}
			up(t, d, false)
		}
	}
}

// P6.4: a Sync with nothing to be made safe is a write, too.
func TestArmEmptySyncs(t *testing.T) {
	d := diskOf(t, 1)
	arm(t, d, 3)
	sync(t, d)
	sync(t, d)
	want(t, "Sync", d.Sync(), api.ErrDown)
	up(t, d, false)
}

// P6.4: numbers below 1 are refused, and an earlier Arm still counts; great ones may be.
func TestArmNumbers(t *testing.T) {
	bad := []int{0, -1, -2, -1 << 32, math.MinInt}
	d := diskOf(t, 1)
	for _, n := range bad {
		want(t, "Arm", d.Arm(n), api.ErrArg)
	}
	notArmed(t, d)
	arm(t, d, 2)
	for _, n := range bad {
		want(t, "Arm", d.Arm(n), api.ErrArg)
	}
	write(t, d, 0, "x")
	want(t, "Write", d.Write(0, "y"), api.ErrDown)
	for _, n := range []int{math.MaxInt, 1 << 32, 1000} {
		crash(t, d)
		arm(t, d, n)
		notArmed(t, d)
	}
}

// P6.4: an earlier Arm counts no more, whether it was for sooner or for later.
func TestArmAnew(t *testing.T) {
	for first := 1; first <= 5; first++ {
		for done := range first {
			for then := 1; then <= 5; then++ {
				d := diskOf(t, 1)
				arm(t, d, first)
				for range done {
					write(t, d, 0, "x")
				}
				arm(t, d, then)
				for range then - 1 {
					sync(t, d)
				}
				want(t, "Sync", d.Sync(), api.ErrDown)
			}
		}
	}
}

// P6.2: what is refused is no write, and an armed disk does not count it.
func TestRefusedIsNoWrite(t *testing.T) {
	d := diskOf(t, 2)
	arm(t, d, 2)
	refuse := func() {
		for range 5 {
			want(t, "Write", d.Write(-1, "x"), api.ErrRange)
			want(t, "Write", d.Write(2, "x"), api.ErrRange)
			want(t, "Write", d.Write(0, strings.Repeat("x", 65)), api.ErrBig)
			want(t, "Arm", d.Arm(0), api.ErrArg)
			if _, e := d.Read(2); e != api.ErrRange {
				t.Fatal(int(e))
			}
		}
		up(t, d, true)
	}
	refuse()
	write(t, d, 0, "x")
	refuse()
	loose(t, d, 0)
	want(t, "Write", d.Write(1, "y"), api.ErrDown)
	up(t, d, false)
}

// P6.2: a Write at which the disk goes down is done: the sector is loose, and has as many of its bytes as the crash says.
func TestDownAtWrite(t *testing.T) {
	for _, kept := range []int{0, 1, 2, 3, 63, 64} {
		for _, again := range []bool{false, true} {
			d := diskOf(t, 3)
			write(t, d, 1, "old one")
			sync(t, d)
			if again {
				write(t, d, 1, "between")
			}
			arm(t, d, 1)
			want(t, "Write", d.Write(1, "new"), api.ErrDown)
			up(t, d, false)
			loose(t, d, 1)
			crash(t, d, kept)
			reads(t, d, 1, torn("new", "old one", kept))
			reads(t, d, 0, whole(""))
			reads(t, d, 2, whole(""))
		}
	}
}

// P6.2: a Sync at which the disk goes down does nothing: what was loose is torn by the crash.
func TestDownAtSync(t *testing.T) {
	for _, kept := range []int{0, 1, 63, 64} {
		d := diskOf(t, 2)
		write(t, d, 0, "old one")
		sync(t, d)
		write(t, d, 0, "new")
		write(t, d, 1, "too")
		arm(t, d, 1)
		want(t, "Sync", d.Sync(), api.ErrDown)
		up(t, d, false)
		loose(t, d, 0, 1)
		crash(t, d, kept, kept)
		reads(t, d, 0, torn("new", "old one", kept))
		reads(t, d, 1, torn("too", "", kept))
	}
}

// P6.2 to P6.4: a disk that is down does nothing but crash, whatever else is wrong, and tells how many sectors it has, and which are loose.
func TestDown(t *testing.T) {
	d := diskOf(t, 3)
	write(t, d, 2, "kept")
	sync(t, d)
	write(t, d, 0, "a")
	arm(t, d, 1)
	want(t, "Write", d.Write(1, "b"), api.ErrDown)
	for range 3 {
		for _, i := range []int{-1, 0, 1, 2, 3, math.MaxInt, math.MinInt} {
			want(t, "Write", d.Write(i, "c"), api.ErrDown)
			want(t, "Write", d.Write(i, strings.Repeat("c", 65)), api.ErrDown)
			if s, e := d.Read(i); s != "" || e != api.ErrDown {
				t.Errorf("sector %d: %q, %d", i, s, int(e))
			}
			want(t, "Arm", d.Arm(i), api.ErrDown)
		}
		want(t, "Sync", d.Sync(), api.ErrDown)
		up(t, d, false)
		loose(t, d, 0, 1)
		if d.Sectors() != 3 {
			t.Error(d.Sectors())
		}
	}
	crash(t, d, 64, 64)
	reads(t, d, 0, whole("a"))
	reads(t, d, 1, whole("b"))
	reads(t, d, 2, whole("kept"))
	notArmed(t, d)
}

// P6.4: how many bytes a sector keeps of a number.
func TestCrashNumbers(t *testing.T) {
	kept := map[int]int{
		0: 0, 1: 1, 2: 2, 31: 31, 32: 32, 63: 63, 64: 64, 65: 0, 66: 1, 67: 2, 128: 63, 129: 64, 130: 0, 131: 1,
		65 * 1000: 0, 65*1000 + 64: 64, 1 << 32: (1 << 32) % 65, math.MaxInt: math.MaxInt % 65, math.MaxInt - 1: (math.MaxInt - 1) % 65,
		-1: 0, -2: 0, -63: 0, -64: 0, -65: 0, -66: 0, -1 << 32: 0, math.MinInt: 0, math.MinInt + 1: 0,
	}
	long, old := strings.Repeat("n", 64), strings.Repeat("o", 64)
	for n, k := range kept {
		for _, now := range []string{long, "", "ab", "\xff\xfe"} {
			d := diskOf(t, 1)
			write(t, d, 0, old)
			sync(t, d)
			write(t, d, 0, now)
			crash(t, d, n)
			reads(t, d, 0, torn(now, old, k))
		}
	}
}

// P6.4: every number of bytes, of a long and of a short sector.
func TestCrashEveryByte(t *testing.T) {
	for k := range 65 {
		d := diskOf(t, 2)
		write(t, d, 0, "old")
		sync(t, d)
		write(t, d, 0, "newer")
		write(t, d, 1, strings.Repeat("n", 64))
		crash(t, d, k, k+65)
		reads(t, d, 0, torn("newer", "old", k))
		reads(t, d, 1, torn(strings.Repeat("n", 64), "", k))
	}
}

// P6.4: loose sectors take the numbers one by one, rising, however they were written; those that are not loose take none.
func TestCrashOrder(t *testing.T) {
	long := strings.Repeat("n", 64)
	cases := []struct{ keep, kept []int }{
		{nil, []int{0, 0, 0}},
		{[]int{}, []int{0, 0, 0}},
		{[]int{5}, []int{5, 0, 0}},
		{[]int{5, 6}, []int{5, 6, 0}},
		{[]int{5, 6, 7}, []int{5, 6, 7}},
		{[]int{5, 6, 7, 8, 9, 10}, []int{5, 6, 7}},
		{[]int{-1, 6, 7}, []int{0, 6, 7}},
		{[]int{5, -1, 7, 8}, []int{5, 0, 7}},
		{[]int{65, 6, 64}, []int{0, 6, 64}},
		{[]int{0, 0, 7}, []int{0, 0, 7}},
		{[]int{math.MinInt, 129, 66, 3}, []int{0, 64, 1}},
	}
	for _, c := range cases {
		d := diskOf(t, 6)
		write(t, d, 2, "safe")
		sync(t, d)
		for _, i := range []int{4, 0, 3, 0, 4} {
			write(t, d, i, long)
		}
		crash(t, d, c.keep...)
		for at, i := range []int{0, 3, 4} {
			reads(t, d, i, torn(long, "", c.kept[at]))
		}
		reads(t, d, 1, whole(""))
		reads(t, d, 2, whole("safe"))
		reads(t, d, 5, whole(""))
	}
}

// P6.4: all sectors of the greatest disk are torn, each by a number of its own.
func TestCrashAll(t *testing.T) {
	d := diskOf(t, 512)
	keep := make([]int, 600)
	for i := range keep {
		keep[i] = i * 7
	}
	for i := range 512 {
		write(t, d, i, strings.Repeat("o", 64))
	}
	sync(t, d)
	for i := range 512 {
		write(t, d, i, strings.Repeat("n", 64))
	}
	crash(t, d, keep...)
	for i := range 512 {
		reads(t, d, i, strings.Repeat("n", i*7%65)+strings.Repeat("o", 64-i*7%65))
	}
}

// P6.4: of a sector that was written several times the last bytes are torn, and the old ones are what the last Sync made safe.
func TestCrashWrittenTwice(t *testing.T) {
	for k := range 65 {
		d := diskOf(t, 1)
		write(t, d, 0, "first")
		sync(t, d)
		write(t, d, 0, "the second one")
		sync(t, d)
		write(t, d, 0, strings.Repeat("3", 64))
		write(t, d, 0, "4444444")
		write(t, d, 0, "5555")
		crash(t, d, k)
		reads(t, d, 0, torn("5555", "the second one", k))
	}
}

// P6.4: behind a crash what a sector has is safe, and is its old bytes for the next one.
func TestCrashTwice(t *testing.T) {
	d := diskOf(t, 1)
	write(t, d, 0, "aaaa")
	sync(t, d)
	write(t, d, 0, "bbbb")
	crash(t, d, 2)
	reads(t, d, 0, whole("bbaa"))
	crash(t, d)
	reads(t, d, 0, whole("bbaa"))
	crash(t, d, 1)
	reads(t, d, 0, whole("bbaa"))
	write(t, d, 0, "cccc")
	crash(t, d, 1)
	reads(t, d, 0, whole("cbaa"))
	write(t, d, 0, "dddd")
	crash(t, d)
	reads(t, d, 0, whole("cbaa"))
}

// P6.4: a disk that is armed is not so behind a crash; one that was down can be armed again, from there on.
func TestCrashArmed(t *testing.T) {
	d := diskOf(t, 1)
	arm(t, d, 1)
	crash(t, d)
	notArmed(t, d)
	arm(t, d, 2)
	write(t, d, 0, "x")
	want(t, "Sync", d.Sync(), api.ErrDown)
	crash(t, d, 64)
	reads(t, d, 0, whole("x"))
	notArmed(t, d)
	arm(t, d, 2)
	sync(t, d)
	want(t, "Write", d.Write(0, "y"), api.ErrDown)
	crash(t, d)
	reads(t, d, 0, whole("w"))
}

// P6.2 to P6.4: a nil disk.
func TestNil(t *testing.T) {
	var d *sect.Disk
	for _, i := range []int{-1, 0, 1, math.MaxInt, math.MinInt} {
		want(t, "Write", d.Write(i, "x"), api.ErrNil)
		want(t, "Write", d.Write(i, strings.Repeat("x", 65)), api.ErrNil)
		if s, e := d.Read(i); s != "" || e != api.ErrNil {
			t.Errorf("%q, %d", s, int(e))
		}
		want(t, "Arm", d.Arm(i), api.ErrNil)
		want(t, "Crash", d.Crash([]int{i}), api.ErrNil)
	}
	want(t, "Sync", d.Sync(), api.ErrNil)
	want(t, "Crash", d.Crash(nil), api.ErrNil)
	if d.Sectors() != 0 || len(d.Loose()) != 0 || d.Down() {
		t.Errorf("%d, %v, %v", d.Sectors(), d.Loose(), d.Down())
	}
}

// R3: a text that is changed afterwards is not what was kept.
func TestTextNotKept(t *testing.T) {
	b := []byte(strings.Repeat("a", 64))
	d := diskOf(t, 2)
	write(t, d, 0, unsafe.String(&b[0], 64))
	write(t, d, 1, unsafe.String(&b[0], 3))
	for i := range b {
		b[i] = 'b'
	}
	reads(t, d, 0, strings.Repeat("a", 64))
	reads(t, d, 1, whole("aaa"))
}

// R3: what is answered is new memory: it stays as it is, and may be changed.
func TestAnswersNew(t *testing.T) {
	d := diskOf(t, 3)
	write(t, d, 0, "a")
	write(t, d, 2, "c")
	s, _ := d.Read(0)
	again, _ := d.Read(0)
	if unsafe.StringData(s) == unsafe.StringData(again) {
		t.Error("two answers share memory")
	}
	write(t, d, 0, "b")
	if s != whole("a") {
		t.Errorf("an answer has become %q", s)
	}
	l := d.Loose()
	l[0], l[1] = 1, 1
	loose(t, d, 0, 2)
	l = d.Loose()
	sync(t, d)
	if !slices.Equal(l, []int{0, 2}) {
		t.Errorf("an answer has become %v", l)
	}
}

// R3: the numbers of a crash are not changed, their spare room neither, and not kept.
func TestKeepUnchanged(t *testing.T) {
	all := []int{3, -1, 200, 4, 5, 6}
	keep := all[:3]
	d := diskOf(t, 6)
	for i := range 5 {
		write(t, d, i, "nnnnnn")
	}
	crash(t, d, keep...)
	if !slices.Equal(all, []int{3, -1, 200, 4, 5, 6}) {
		t.Errorf("%v", all)
	}
	for i := range all {
		all[i] = 64
	}
	for i, k := range []int{3, 0, 5, 0, 0} {
		reads(t, d, i, torn("nnnnnn", "", k))
		write(t, d, i, "m")
	}
	crash(t, d)
	for i, k := range []int{3, 0, 5, 0, 0} {
		reads(t, d, i, torn("nnnnnn", "", k))
	}
}

// P6.5: what is synced is there behind any crash, at any write; of what was written since there is a beginning.
func TestSafe(t *testing.T) {
	olds, news := []string{"one", "two", "three"}, []string{"EINS", "ZWEI", "DREI"}
	for at := 1; at <= 4; at++ {
		for k := range 65 {
			d := diskOf(t, 3)
			for i, s := range olds {
				write(t, d, i, s)
			}
			sync(t, d)
			arm(t, d, at)
			for i, s := range news {
				d.Write(i, s)
			}
			d.Sync()
			up(t, d, false)
			crash(t, d, k, k, k)
			for i := range olds {
				s := torn(news[i], olds[i], k)
				if i >= at {
					s = whole(olds[i])
				}
				reads(t, d, i, s)
			}
		}
	}
}

// P6.6: what is written to one sector changes no other one, whatever becomes of it.
func TestApart(t *testing.T) {
	const n = 512
	d := diskOf(t, n)
	has := make([]string, n)
	for i := range n {
		has[i] = whole(string([]byte{byte(i), byte(i >> 8), 0xff, byte(i * 7)}))
		write(t, d, i, has[i])
	}
	sync(t, d)
	for _, i := range []int{0, 1, 2, 63, 64, 255, 256, 510, 511} {
		for _, s := range texts() {
			write(t, d, i, s)
			for j := range n {
				if j != i {
					reads(t, d, j, has[j])
				}
			}
			crash(t, d, 9)
			has[i] = torn(s, has[i], 9)
			for j := range n {
				reads(t, d, j, has[j])
			}
		}
	}
}

// story is a disk as somebody else keeps it: what is safe, and all writes since, the last one last.
type story struct {
	safe  []string
	since []entry
	left  int // -1: it is not armed
	down  bool
}

// entry is a write of a sector.
type entry struct {
	i int
	s string
}

// last is a sector's last write since the last Sync.
func (m *story) last(i int) (string, bool) {
	for at := len(m.since) - 1; at >= 0; at-- {
		if m.since[at].i == i {
			return m.since[at].s, true
		}
	}
	return "", false
}

// loose is which sectors were written.
func (m *story) loose() []int {
	var l []int
	for i := range m.safe {
		if _, is := m.last(i); is {
			l = append(l, i)
		}
	}
	return l
}

// hit is what a write that may be answers.
func (m *story) hit() api.Errno {
	if m.left > 0 {
		m.left--
	}
	if m.left == 0 {
		m.down = true
		return api.ErrDown
	}
	return api.OK
}

func (m *story) write(i int, s string) api.Errno {
	switch {
	case m.down:
		return api.ErrDown
	case i < 0 || i >= len(m.safe):
		return api.ErrRange
	case len(s) > 64:
		return api.ErrBig
	}
	m.since = append(m.since, entry{i, whole(s)})
	return m.hit()
}

func (m *story) sync() api.Errno {
	if m.down {
		return api.ErrDown
	}
	e := m.hit()
	if e == api.OK {
		for _, x := range m.since {
			m.safe[x.i] = x.s
		}
		m.since = nil
	}
	return e
}

func (m *story) read(i int) (string, api.Errno) {
	switch {
	case m.down:
		return "", api.ErrDown
	case i < 0 || i >= len(m.safe):
		return "", api.ErrRange
	}
	if s, is := m.last(i); is {
		return s, api.OK
	}
	return m.safe[i], api.OK
}

func (m *story) arm(n int) api.Errno {
	switch {
	case m.down:
		return api.ErrDown
	case n < 1:
		return api.ErrArg
	}
	m.left = n
	return api.OK
}

func (m *story) crash(keep []int) {
	for at, i := range m.loose() {
		k := 0
		if at < len(keep) && keep[at] > 0 {
			k = keep[at] % 65
		}
		s, _ := m.last(i)
		m.safe[i] = s[:k] + m.safe[i][k:]
	}
	m.since, m.left, m.down = nil, -1, false
}

// same asks for a disk that is as its story says.
func same(t *testing.T, d *sect.Disk, m *story) {
	t.Helper()
	up(t, d, !m.down)
	loose(t, d, m.loose()...)
	for i := -1; i <= len(m.safe); i++ {
		s, e := d.Read(i)
		if was, wasE := m.read(i); s != was || e != wasE {
			t.Fatalf("sector %d: %q, %d, and not %q, %d", i, s, int(e), was, int(wasE))
		}
	}
}

// anyText is one of up to 66 bytes.
func anyText(r *rand.Rand) string {
	b := make([]byte, r.Intn(67))
	for i := range b {
		b[i] = byte(r.Intn(256))
	}
	return string(b)
}

// anyNumbers are some, from below 0 to above 64.
func anyNumbers(r *rand.Rand) []int {
	l := make([]int, r.Intn(6))
	for i := range l {
		l[i] = r.Intn(300) - 60
	}
	return l
}

// P6.2 to P6.6: whatever is done, the disk is as its story says.
func TestStories(t *testing.T) {
	r := rand.New(rand.NewSource(6))
	for range 200 {
		n := 1 + r.Intn(6)
		d := diskOf(t, n)
		m := &story{safe: make([]string, n), left: -1}
		for i := range m.safe {
			m.safe[i] = whole("")
		}
		for range 150 {
			switch r.Intn(16) {
			case 0, 1, 2:
				want(t, "Sync", d.Sync(), m.sync())
			case 3, 4:
				a := r.Intn(10) - 1
				want(t, "Arm", d.Arm(a), m.arm(a))
			case 5, 6:
				keep := anyNumbers(r)
				want(t, "Crash", d.Crash(keep), api.OK)
				m.crash(keep)
			default:
				i, s := r.Intn(n+2)-1, anyText(r)
				want(t, "Write", d.Write(i, s), m.write(i, s))
			}
			same(t, d, m)
		}
	}
}
