package cell_test

import (
	"encoding/binary"
	"math"
	"math/rand"
	"slices"
	"strings"
	"testing"
	"unsafe"

	"affidavit/api"
	"affidavit/cell"
	"affidavit/sect"
)

// most is how often a cell may be saved.
const most = 1 << 40

// diskOf is a disk that there may be.
func diskOf(t *testing.T, sectors int) *sect.Disk {
	t.Helper()
	d, e := sect.New(sectors)
	if e != api.OK {
		t.Fatalf("%d sectors: %d", sectors, int(e))
	}
	return d
}

// open is a cell that there may be.
func open(t *testing.T, d *sect.Disk, first, size int) *cell.Cell {
	t.Helper()
	c, e := cell.Open(d, first, size)
	if e != api.OK || c == nil {
		t.Fatalf("from %d on, size %d: a cell: %v, %d", first, size, c != nil, int(e))
	}
	return c
}

// alone is a cell that fills a disk of its own.
func alone(t *testing.T, size int) (*sect.Disk, *cell.Cell) {
	t.Helper()
	d := diskOf(t, 2+2*size)
	return d, open(t, d, 0, size)
}

// want asks for an error.
func want(t *testing.T, what string, got, e api.Errno) {
	t.Helper()
	if got != e {
		t.Fatalf("%s: %d, and not %d", what, int(got), int(e))
	}
}

// save is a Save that may be, behind which nothing is loose.
func save(t *testing.T, d *sect.Disk, c *cell.Cell, s string) {
	t.Helper()
	want(t, "Save", c.Save(s), api.OK)
	loose(t, d)
}

// has asks for a text and a count.
func has(t *testing.T, c *cell.Cell, s string, n int) {
	t.Helper()
	got, count, e := c.Load()
	if e != api.OK || got != s || count != n {
		t.Fatalf("%q, %d, %d, and not %q, %d", got, count, int(e), s, n)
	}
}

// refuses asks for a Load that answers an error, and nothing else.
func refuses(t *testing.T, c *cell.Cell, e api.Errno) {
	t.Helper()
	if s, n, got := c.Load(); s != "" || n != 0 || got != e {
		t.Fatalf("%q, %d, %d, and not error %d", s, n, int(got), int(e))
	}
}

// loose asks for the sectors that are not safe.
func loose(t *testing.T, d *sect.Disk, l ...int) {
	t.Helper()
	if got := d.Loose(); !slices.Equal(got, l) {
		t.Fatalf("loose: %v, and not %v", got, l)
	}
}

// whole is a sector that has a text, and bytes 0 behind it.
func whole(s string) string { return s + strings.Repeat("\x00", 64-len(s)) }

// slot is a slot's bytes.
func slot(count, length, again uint64) string {
	b := binary.BigEndian.AppendUint64(nil, count)
	b = binary.BigEndian.AppendUint64(b, length)
	b = append(b, make([]byte, 40)...)
	return string(binary.BigEndian.AppendUint64(b, again))
}

// said is a slot that says something.
func said(count, length int) string { return slot(uint64(count), uint64(length), uint64(count)) }

// lay writes sectors past the cell, and makes them safe.
func lay(t *testing.T, d *sect.Disk, sectors map[int]string) {
	t.Helper()
	for i, s := range sectors {
		want(t, "Write", d.Write(i, s), api.OK)
	}
	want(t, "Sync", d.Sync(), api.OK)
}

// reads asks for a sector's bytes.
func reads(t *testing.T, d *sect.Disk, i int, s string) {
	t.Helper()
	if got, e := d.Read(i); e != api.OK || got != s {
		t.Fatalf("sector %d: %q, %d, and not %q", i, got, int(e), s)
	}
}

// all is a disk's sectors, one behind the other.
func all(t *testing.T, d *sect.Disk) string {
	t.Helper()
	var b strings.Builder
	for i := range d.Sectors() {
		s, e := d.Read(i)
		want(t, "Read", e, api.OK)
		b.WriteString(s)
	}
	return b.String()
}

// long is a text of so many bytes, all places of which are unlike those of texts with another mark.
func long(n int, mark byte) string {
	b := make([]byte, n)
	for i := range b {
		b[i] = mark ^ byte(i*7+i>>6)
	}
	return string(b)
}

// down lets a disk go down.
func down(t *testing.T, d *sect.Disk) {
	t.Helper()
	want(t, "Arm", d.Arm(1), api.OK)
	want(t, "Sync", d.Sync(), api.ErrDown)
}

// writes is how many writes of the disk a Save is.
func writes(s string) int { return (len(s)+63)/64 + 3 }

// P7.2, P7.3: the chapter's example, without its crash.
func TestExample(t *testing.T) {
	d, c := alone(t, 5)
	save(t, d, c, "a")
	has(t, c, "a", 1)
	save(t, d, c, "b")
	has(t, c, "b", 2)
}

// P7.4: the chapter's example, a crash in the midst of the third save.
func TestExampleCrash(t *testing.T) {
	for at := 1; at <= 4; at++ {
		for k := range 65 {
			d, c := alone(t, 5)
			save(t, d, c, "a")
			save(t, d, c, "b")
			d.Arm(at)
			want(t, "Save", c.Save("c"), api.ErrDown)
			d.Crash([]int{k})
			c = open(t, d, 0, 5)
			if at > 2 && k == 64 {
				has(t, c, "c", 3)
			} else {
				has(t, c, "b", 2)
			}
		}
	}
}

// P7.1: cells that there may be: the smallest and the greatest, at the first place and at the last that has room.
func TestOpen(t *testing.T) {
	for _, x := range []struct{ sectors, first, size int }{
		{4, 0, 1}, {5, 0, 1}, {5, 1, 1}, {512, 508, 1}, {512, 0, 255}, {512, 0, 1}, {511, 1, 254}, {12, 0, 5}, {12, 0, 4}, {12, 2, 4}, {12, 8, 1}, {512, 2, 254},
	} {
		d := diskOf(t, x.sectors)
		c := open(t, d, x.first, x.size)
		refuses(t, c, api.ErrNone)
		if c.Room() != 64*x.size {
			t.Errorf("size %d: room for %d", x.size, c.Room())
		}
		loose(t, d)
		one, two := long(64*x.size, 'o'), long(64*x.size, 't')
		save(t, d, c, one)
		save(t, d, c, two)
		has(t, c, two, 2)
		has(t, open(t, d, x.first, x.size), two, 2)
	}
}

// P7.1: what is behind the last place that has room, and all numbers that may not be, on disks that are up and that are down.
func TestOpenRefused(t *testing.T) {
	cases := []struct{ sectors, first, size int }{
		{4, 1, 1}, {3, 0, 1}, {2, 0, 1}, {1, 0, 1}, {512, 509, 1}, {512, 1, 255}, {511, 0, 255}, {511, 2, 254}, {11, 0, 5}, {12, 1, 5}, {12, 12, 1}, {12, 13, 1}, {510, 0, 255},
		{512, -1, 1}, {512, -1, 255}, {512, -4, 1}, {512, -512, 1}, {512, 0, 0}, {512, 0, -1}, {512, 0, 256}, {512, 0, -255}, {512, 0, 257}, {512, 2, -1}, {512, 512, 1}, {512, 512, -1}, {512, -2, 0},
	}
	for _, n := range []int{math.MaxInt, math.MaxInt - 1, math.MaxInt - 3, math.MaxInt - 4, math.MaxInt / 2, math.MaxInt/2 + 1, 1 << 62, 1 << 32, 1<<32 + 1, math.MinInt, math.MinInt + 1, math.MinInt / 2, -1 << 62, -1 << 32} {
		for _, m := range []int{0, 1, 255, -1, n, math.MinInt, math.MaxInt} {
			cases = append(cases, struct{ sectors, first, size int }{512, n, m}, struct{ sectors, first, size int }{512, m, n})
		}
	}
	for _, x := range cases {
		for _, isDown := range []bool{false, true} {
			d := diskOf(t, x.sectors)
			if isDown {
				down(t, d)
			}
			if c, e := cell.Open(d, x.first, x.size); c != nil || e != api.ErrArg {
				t.Errorf("%d sectors, from %d on, size %d: a cell: %v, %d", x.sectors, x.first, x.size, c != nil, int(e))
			}
			if c, e := cell.Open(nil, x.first, x.size); c != nil || e != api.ErrNil {
				t.Errorf("no disk, from %d on, size %d: a cell: %v, %d", x.first, x.size, c != nil, int(e))
			}
		}
	}
}

// P7.1: on every small disk just those cells that have room.
func TestOpenEverywhere(t *testing.T) {
	for sectors := 1; sectors <= 14; sectors++ {
		d := diskOf(t, sectors)
		for first := -2; first <= 15; first++ {
			for size := -2; size <= 8; size++ {
				e := api.OK
				if first < 0 || size < 1 || sectors < first+2+2*size {
					e = api.ErrArg
				}
				if c, got := cell.Open(d, first, size); got != e || (c != nil) != (e == api.OK) {
					t.Errorf("%d sectors, from %d on, size %d: a cell: %v, %d, and not %d", sectors, first, size, c != nil, int(got), int(e))
				}
			}
		}
	}
}

// P7.1: all sizes there may be.
func TestOpenSizes(t *testing.T) {
	for size := 1; size <= 255; size++ {
		d, c := alone(t, size)
		if c.Room() != 64*size {
			t.Errorf("size %d: room for %d", size, c.Room())
		}
		if c, e := cell.Open(d, 1, size); c != nil || e != api.ErrArg {
			t.Errorf("size %d: a cell: %v, %d", size, c != nil, int(e))
		}
	}
}

// P7.1: no disk, and one that is down.
func TestOpenDown(t *testing.T) {
	if c, e := cell.Open(nil, 0, 1); c != nil || e != api.ErrNil {
		t.Errorf("no disk: a cell: %v, %d", c != nil, int(e))
	}
	d := diskOf(t, 4)
	save(t, d, open(t, d, 0, 1), "a")
	down(t, d)
	if c, e := cell.Open(d, 0, 1); c != nil || e != api.ErrDown {
		t.Errorf("down: a cell: %v, %d", c != nil, int(e))
	}
	d.Crash(nil)
	has(t, open(t, d, 0, 1), "a", 1)
}

// P7.1: to open is no write, and changes nothing; what was saved is there.
func TestOpenChangesNothing(t *testing.T) {
	d, c := alone(t, 2)
	save(t, d, c, "a")
	was := all(t, d)
	d.Arm(1)
	for range 5 {
		has(t, open(t, d, 0, 2), "a", 1)
	}
	if d.Down() || all(t, d) != was {
		t.Error("the disk is another one")
	}
	loose(t, d)
}

// lengths are those at the edges of a sector and of a field.
func lengths(size int) []int {
	l := []int{0, 1, 2, 8, 63, 64}
	for i := 1; i < size; i++ {
		l = append(l, 64*i+1, 64*i+63, 64*i+64)
	}
	return l
}

// P7.2, P7.3, P7.5: texts of all lengths that have room, behind each other, shorter ones behind longer ones.
func TestLengths(t *testing.T) {
	for _, size := range []int{1, 2, 3} {
		for _, first := range lengths(size) {
			for _, then := range lengths(size) {
				d, c := alone(t, size)
				save(t, d, c, long(first, 1))
				has(t, c, long(first, 1), 1)
				save(t, d, c, long(then, 2))
				has(t, c, long(then, 2), 2)
				save(t, d, c, long(first, 3))
				has(t, c, long(first, 3), 3)
				has(t, open(t, d, 0, size), long(first, 3), 3)
			}
		}
	}
}

// P7.2: texts that have no room, of a cell that was saved, of one that never was, and of a disk that is down; nothing changes.
func TestTooLong(t *testing.T) {
	for _, size := range []int{1, 2, 5, 255} {
		d, c := alone(t, size)
		for _, n := range []int{64*size + 1, 64*size + 63, 64*size + 64, 128 * size, 1 << 20} {
			if n <= 64*size {
				continue
			}
			want(t, "Save", c.Save(long(n, 9)), api.ErrBig)
			refuses(t, c, api.ErrNone)
		}
		save(t, d, c, "a")
		was := all(t, d)
		d.Arm(1)
		want(t, "Save", c.Save(long(64*size+1, 9)), api.ErrBig)
		if d.Down() || all(t, d) != was {
			t.Error("the disk is another one")
		}
		has(t, c, "a", 1)
		d.Sync()
		want(t, "Save", c.Save(long(64*size+1, 9)), api.ErrBig)
		want(t, "Save", c.Save(long(64*size, 9)), api.ErrDown)
	}
}

// P7.2, P7.3: bytes that are no runes, bytes 0, and those that slots are made of.
func TestBytes(t *testing.T) {
	every := make([]byte, 256)
	for i := range every {
		every[i] = byte(i)
	}
	d, c := alone(t, 4)
	for i, s := range []string{"\x00", "\xff", "\xff\xfe\x80", "ä", "\xef\xbf\xbd", "a\x00b", "\xc3", "a\x00\x00", "", string(every), said(1, 3), strings.Repeat("\x00", 256), strings.Repeat("\xff", 65), "a\n"} {
		save(t, d, c, s)
		has(t, c, s, i+1)
	}
}

// P7.2, P7.5: many saves in a row.
func TestManySaves(t *testing.T) {
	d, c := alone(t, 3)
	for i := 1; i <= 1000; i++ {
		s := long(i*37%193, byte(i))
		save(t, d, c, s)
		has(t, c, s, i)
	}
	has(t, open(t, d, 0, 3), long(1000*37%193, byte(1000%256)), 1000)
}

// P7.5: the same text again is a save like any other.
func TestSameText(t *testing.T) {
	d, c := alone(t, 1)
	for i := 1; i <= 5; i++ {
		save(t, d, c, "same")
		has(t, c, "same", i)
	}
	for i := 6; i <= 9; i++ {
		save(t, d, c, "")
		has(t, c, "", i)
	}
}

// P7.3: a cell that was never saved.
func TestNeverSaved(t *testing.T) {
	d, c := alone(t, 2)
	refuses(t, c, api.ErrNone)
	refuses(t, c, api.ErrNone)
	d.Crash(nil)
	refuses(t, c, api.ErrNone)
	lay(t, d, map[int]string{2: "a", 3: "b", 4: "c", 5: "d"})
	refuses(t, c, api.ErrNone)
	down(t, d)
	refuses(t, c, api.ErrDown)
}

// P7.2: what stands on the disk behind saves, byte by byte.
func TestLayout(t *testing.T) {
	const first, size = 3, 2
	d := diskOf(t, first+2+2*size+1)
	for i := range d.Sectors() {
		if i < first || i == d.Sectors()-1 {
			lay(t, d, map[int]string{i: "beside"})
		}
	}
	c := open(t, d, first, size)
	asks := func(sectors ...string) {
		t.Helper()
		for i, s := range sectors {
			reads(t, d, first+i, whole(s))
		}
		for _, i := range []int{0, 1, 2, d.Sectors() - 1} {
			reads(t, d, i, whole("beside"))
		}
	}
	asks("", "", "", "", "", "")
	save(t, d, c, "first")
	asks(said(1, 5), "", "first", "", "", "")
	two := long(100, 2)
	save(t, d, c, two)
	asks(said(1, 5), said(2, 100), "first", "", two[:64], two[64:])
	three := long(128, 3)
	save(t, d, c, three)
	asks(said(3, 128), said(2, 100), three[:64], three[64:], two[:64], two[64:])
	save(t, d, c, "")
	asks(said(3, 128), said(4, 0), three[:64], three[64:], two[:64], two[64:])
	save(t, d, c, "f")
	asks(said(5, 1), said(4, 0), "f", three[64:], two[:64], two[64:])
	save(t, d, c, "sixth")
	asks(said(5, 1), said(6, 5), "f", three[64:], "sixth", two[64:])
}

// P7.2: numbers stand as 8 bytes, the highest first, both counts and the length.
func TestLayoutNumbers(t *testing.T) {
	for _, n := range []int{1, 2, 254, 255, 256, 65535, 65536, 0x0102030405, 1<<32 - 1, 1 << 32, most - 3, most - 2, most - 1} {
		d, c := alone(t, 255)
		lay(t, d, map[int]string{0: said(n, 3), 2: "old"})
		has(t, c, "old", n)
		s := long(0x1234, 5)
		save(t, d, c, s)
		reads(t, d, 0, said(n, 3))
		reads(t, d, 1, said(n+1, 0x1234))
		has(t, c, s, n+1)
	}
}

// P7.2: a Save is its text's sectors one by one, a Sync, the slot, a Sync: told by a disk that goes down at each of them.
func TestOrder(t *testing.T) {
	for _, n := range []int{0, 1, 64, 65, 128, 150, 192} {
		for saved := range 3 {
			parts := (n + 63) / 64
			s := long(n, 'n')
			for at := 1; at <= parts+4; at++ {
				d, c := alone(t, 3)
				for i := range saved {
					save(t, d, c, long(192, byte(i)))
				}
				was := all(t, d)
				other := saved % 2
				d.Arm(at)
				e := c.Save(s)
				switch {
				case at > parts+3:
					want(t, "Save", e, api.OK)
					want(t, "the next write", d.Sync(), api.ErrDown)
					continue
				case at <= parts:
					loose(t, d, upTo(2+3*other, at)...)
				case at == parts+1:
					loose(t, d, upTo(2+3*other, parts)...)
				default:
					loose(t, d, other)
				}
				want(t, "Save", e, api.ErrDown)
				d.Crash([]int{64, 64, 64})
				now := was
				for i := range min(at, parts) {
					now = patched(now, 2+3*other+i, s[64*i:min(n, 64*i+64)])
				}
				if at >= parts+2 {
					now = patched(now, other, said(saved+1, n))
				}
				if all(t, d) != now {
					t.Fatalf("%d bytes behind %d saves, down at %d: other sectors", n, saved, at)
				}
			}
		}
	}
}

// upTo is so many numbers from one on.
func upTo(first, n int) []int {
	var l []int
	for i := range n {
		l = append(l, first+i)
	}
	return l
}

// patched is a disk's bytes with another sector.
func patched(disk string, i int, s string) string {
	return disk[:64*i] + whole(s) + disk[64*i+64:]
}

// P7.2: the disk's first error ends a Save: behind it nothing is written, and the disk's next write is its own.
func TestFirstErrorEnds(t *testing.T) {
	d, c := alone(t, 2)
	save(t, d, c, "a")
	for at := 1; at <= 5; at++ {
		d.Arm(at)
		want(t, "Save", c.Save(long(128, 2)), api.ErrDown)
		for range 3 {
			want(t, "Save", c.Save("x"), api.ErrDown)
			want(t, "Save", c.Save(""), api.ErrDown)
			refuses(t, c, api.ErrDown)
		}
		d.Crash(nil)
		has(t, c, "a", 1)
	}
	save(t, d, c, "b")
	has(t, c, "b", 2)
}

// P7.2, P7.3: a disk that is down; the room is the same.
func TestDown(t *testing.T) {
	d, c := alone(t, 2)
	save(t, d, c, "a")
	down(t, d)
	for range 3 {
		want(t, "Save", c.Save("b"), api.ErrDown)
		want(t, "Save", c.Save(""), api.ErrDown)
		want(t, "Save", c.Save(long(129, 1)), api.ErrBig)
		refuses(t, c, api.ErrDown)
		if c.Room() != 128 {
			t.Error(c.Room())
		}
	}
	loose(t, d)
	d.Crash(nil)
	has(t, c, "a", 1)
	save(t, d, c, "b")
	has(t, c, "b", 2)
}

// P7.2, P7.3: a nil cell.
func TestNil(t *testing.T) {
	var c *cell.Cell
	want(t, "Save", c.Save(""), api.ErrNil)
	want(t, "Save", c.Save("a"), api.ErrNil)
	want(t, "Save", c.Save(long(1<<15, 1)), api.ErrNil)
	refuses(t, c, api.ErrNil)
	if c.Room() != 0 {
		t.Error(c.Room())
	}
}

// P7.3: slots that say nothing: the text is the other one's, and the next Save goes to this one; if the other one says nothing either, there is none.
func TestSlotsThatSayNothing(t *testing.T) {
	const room = 128
	top := uint64(math.MaxUint64)
	for _, s := range []string{
		slot(9, 3, 8), slot(8, 3, 9), slot(9, 3, 0), slot(0, 3, 9), slot(9, 3, 9|1<<63), slot(9|1<<63, 3, 9), slot(9, 3, 9|1<<8), slot(9|1<<32, 3, 9), slot(9, 3, 9<<56), slot(9<<56, 3, 9),
		slot(0, 0, 0), slot(0, 3, 0), slot(most+1, 3, most+1), slot(most<<1, 3, most<<1), slot(most|9, 3, most|9), slot(1<<62, 3, 1<<62), slot(1<<63, 3, 1<<63), slot(1<<63|9, 3, 1<<63|9), slot(top, 3, top), slot(top-8, 3, top-8), slot(math.MaxInt64, 3, math.MaxInt64), slot(1<<56, 3, 1<<56),
		slot(9, room+1, 9), slot(9, 2*room, 9), slot(9, top, 9), slot(9, top-2, 9), slot(9, 1<<63, 9), slot(9, 1<<63|3, 9), slot(9, 1<<32, 9), slot(9, 1<<32|3, 9), slot(9, math.MaxInt64, 9), slot(9, 3<<56, 9), slot(9, 1<<40, 9),
		slot(most, room+1, most), strings.Repeat("\xff", 64), strings.Repeat("a", 64), "",
	} {
		for _, which := range []int{0, 1} {
			for _, other := range []int{1, 5, 20} {
				d, c := alone(t, 2)
				lay(t, d, map[int]string{which: s, 1 - which: said(other, 5), 2: "1text", 4: "2text"})
				has(t, c, []string{"2text", "1text"}[which], other)
				save(t, d, c, "new")
				has(t, c, "new", other+1)
				reads(t, d, which, said(other+1, 3))
				reads(t, d, 1-which, said(other, 5))
			}
			d, c := alone(t, 2)
			lay(t, d, map[int]string{which: s, 2: "1text", 4: "2text"})
			refuses(t, c, api.ErrNone)
			save(t, d, c, "new")
			has(t, c, "new", 1)
			reads(t, d, 0, said(1, 3))
			reads(t, d, 2, whole("new"))
			reads(t, d, 4, whole("2text"))
			if which == 1 {
				reads(t, d, 1, whole(s))
			}
		}
		d, c := alone(t, 2)
		lay(t, d, map[int]string{0: s, 1: s, 2: "1text", 4: "2text"})
		refuses(t, c, api.ErrNone)
		save(t, d, c, "new")
		has(t, c, "new", 1)
		save(t, d, c, "newer")
		has(t, c, "newer", 2)
	}
}

// P7.3: counts and lengths at the edges of what a slot may say; what stands between its numbers is not asked for.
func TestSlotsThatSaySomething(t *testing.T) {
	text := [2]string{long(128, 'a'), long(128, 'b')}
	for _, count := range []int{1, 2, 255, 256, 1 << 32, most - 1, most} {
		for _, length := range []int{0, 1, 63, 64, 65, 127, 128} {
			for which := range 2 {
				for _, between := range []string{strings.Repeat("\x00", 40), strings.Repeat("\xff", 40)} {
					s := said(count, length)
					s = s[:16] + between + s[56:]
					d, c := alone(t, 2)
					lay(t, d, map[int]string{which: s, 2: text[0][:64], 3: text[0][64:], 4: text[1][:64], 5: text[1][64:]})
					has(t, c, text[which][:length], count)
				}
			}
		}
	}
}

// P7.3: the slot that says the greater count has the text, whichever it is, by how much ever; P7.2: the next Save goes to the other one.
func TestGreaterCount(t *testing.T) {
	counts := []int{1, 2, 3, 255, 256, 257, 65535, 1 << 32, 1<<32 + 1, most - 1}
	for _, one := range counts {
		for _, two := range counts {
			d, c := alone(t, 1)
			lay(t, d, map[int]string{0: said(one, 4), 1: said(two, 6), 2: "4444", 3: "666666"})
			if one >= two {
				has(t, c, "4444", one)
			} else {
				has(t, c, "666666", two)
			}
			save(t, d, c, "n")
			has(t, c, "n", max(one, two)+1)
			if one >= two {
				reads(t, d, 0, said(one, 4))
				reads(t, d, 2, whole("4444"))
			} else {
				reads(t, d, 1, said(two, 6))
				reads(t, d, 3, whole("666666"))
			}
		}
	}
}

// R6: of two slots that say the same count the first one has the text, and the second one is the other.
func TestSameCount(t *testing.T) {
	for _, n := range []int{1, 7, most - 1, most} {
		for _, l := range [][2]int{{3, 3}, {3, 2}, {2, 3}, {0, 3}, {3, 0}, {0, 0}} {
			d, c := alone(t, 1)
			lay(t, d, map[int]string{0: said(n, l[0]), 1: said(n, l[1]), 2: "one", 3: "two"})
			has(t, c, "one"[:l[0]], n)
			if n == most {
				want(t, "Save", c.Save("new"), api.ErrRange)
				has(t, c, "one"[:l[0]], n)
				continue
			}
			save(t, d, c, "new")
			has(t, c, "new", n+1)
			reads(t, d, 0, said(n, l[0]))
			reads(t, d, 1, said(n+1, 3))
			reads(t, d, 2, whole("one"))
		}
	}
}

// P7.2: a cell is saved 2^40 times, and no more, whichever slot says so.
func TestMostSaves(t *testing.T) {
	for which := range 2 {
		for _, other := range []string{"", said(most-1, 1), said(5, 1), said(most, 1), slot(most+1, 1, most+1)} {
			d, c := alone(t, 1)
			lay(t, d, map[int]string{which: said(most, 4), 1 - which: other, 2: "1111", 3: "2222"})
			was := all(t, d)
			d.Arm(1)
			for range 3 {
				want(t, "Save", c.Save("new"), api.ErrRange)
				want(t, "Save", c.Save(""), api.ErrRange)
				want(t, "Save", c.Save(long(65, 1)), api.ErrBig)
			}
			if d.Down() || all(t, d) != was {
				t.Error("the disk is another one")
			}
		}
	}
	d, c := alone(t, 1)
	lay(t, d, map[int]string{1: said(most-2, 0)})
	save(t, d, c, "last but one")
	has(t, c, "last but one", most-1)
	save(t, d, c, "last")
	has(t, c, "last", most)
	want(t, "Save", c.Save("behind it"), api.ErrRange)
	has(t, c, "last", most)
	down(t, d)
	want(t, "Save", c.Save("down"), api.ErrDown)
	refuses(t, c, api.ErrDown)
}

// tries are how many bytes stay of the loose sectors, one by one: all the same, and unlike.
func tries() [][]int {
	var l [][]int
	for k := range 65 {
		l = append(l, []int{k, k, k}, []int{64, k, 0}, []int{0, 64, k}, []int{k})
	}
	return append(l, nil)
}

// P7.4: a crash at every write of a Save, with every number of bytes that stay: the text is the old one or the new one, whole, with its count; and it is so for a cell that is opened anew, and for the next saves.
func TestCrashEverywhere(t *testing.T) {
	old, now := long(150, 'o'), long(170, 'n')
	for saved := range 4 {
		for at := 1; at <= writes(now); at++ {
			for _, keep := range tries() {
				d, c := alone(t, 3)
				for i := range saved {
					save(t, d, c, long(192-i, byte(i)))
				}
				save(t, d, c, old)
				d.Arm(at)
				want(t, "Save", c.Save(now), api.ErrDown)
				d.Crash(keep)
				n, s := saved+1, old
				if at > writes(now)-2 && len(keep) > 0 && keep[0] == 64 {
					n, s = saved+2, now
				}
				has(t, c, s, n)
				c = open(t, d, 0, 3)
				has(t, c, s, n)
				save(t, d, c, "next")
				has(t, c, "next", n+1)
				save(t, d, c, old)
				has(t, c, old, n+2)
			}
		}
	}
}

// P7.4: a crash in the first Save: there is none, or the text.
func TestCrashFirstSave(t *testing.T) {
	s := long(130, 'f')
	for at := 1; at <= writes(s); at++ {
		for _, keep := range tries() {
			d, c := alone(t, 3)
			d.Arm(at)
			want(t, "Save", c.Save(s), api.ErrDown)
			d.Crash(keep)
			if at > writes(s)-2 && len(keep) > 0 && keep[0] == 64 {
				has(t, c, s, 1)
			} else {
				refuses(t, c, api.ErrNone)
				save(t, d, c, "a")
				has(t, c, "a", 1)
			}
			save(t, d, c, "b")
			if _, n, _ := c.Load(); n != 2 {
				t.Fatal(n)
			}
		}
	}
}

// P7.4: crash upon crash at the slot, torn at every two places, where counts have several bytes that change.
func TestCrashUponCrash(t *testing.T) {
	for _, n := range []int{1, 2, 254, 255, 256, 257, 65534, 65535, 65536, 1<<24 - 1, 1<<32 - 1, 1 << 32, most - 2} {
		for one := range 65 {
			for two := range 65 {
				d, c := alone(t, 1)
				lay(t, d, map[int]string{0: said(n-1, 4), 1: said(n, 5), 2: "was.", 3: "is..."})
				if n == 1 {
					lay(t, d, map[int]string{0: ""})
				}
				before, _ := d.Read(0)
				d.Arm(3)
				want(t, "Save", c.Save("first try"), api.ErrDown)
				d.Crash([]int{one})
				torn := said(n+1, 9)[:one] + before[one:]
				reads(t, d, 0, torn)
				if torn == said(n+1, 9) {
					has(t, c, "first try", n+1)
					continue
				}
				has(t, c, "is...", n)
				d.Arm(3)
				want(t, "Save", c.Save("another one"), api.ErrDown)
				d.Crash([]int{two})
				torn = said(n+1, 11)[:two] + torn[two:]
				reads(t, d, 0, torn)
				if torn == said(n+1, 11) {
					has(t, c, "another one", n+1)
				} else {
					has(t, c, "is...", n)
				}
			}
		}
	}
}

// P7.4: a slot of which all that changes has come is whole, though its last bytes are old ones.
func TestWholeByOldBytes(t *testing.T) {
	d, c := alone(t, 1)
	lay(t, d, map[int]string{1: said(255, 3), 3: "old"})
	d.Arm(3)
	want(t, "Save", c.Save("new"), api.ErrDown)
	d.Crash([]int{62})
	has(t, c, "old", 255)
	d.Arm(3)
	want(t, "Save", c.Save("new"), api.ErrDown)
	d.Crash([]int{63})
	has(t, c, "new", 256)
}

// P7.4: what a crash does between saves.
func TestCrashBetween(t *testing.T) {
	d, c := alone(t, 2)
	for i := 1; i <= 6; i++ {
		s := long(20*i, byte(i))
		save(t, d, c, s)
		d.Crash([]int{i, 64, i})
		has(t, c, s, i)
		d.Crash(nil)
		has(t, open(t, d, 0, 2), s, i)
	}
}

// P7.2, P7.5: a disk that is armed counts the writes of saves, however many saves these are.
func TestArmedInTheMidst(t *testing.T) {
	texts := []string{"", "a", long(64, 2), long(65, 3), long(128, 4), "b", ""}
	total := 0
	for _, s := range texts {
		total += writes(s)
	}
	for at := 1; at <= total+1; at++ {
		d, c := alone(t, 2)
		d.Arm(at)
		last, left := "", at
		for i, s := range texts {
			if left <= writes(s) {
				want(t, "Save", c.Save(s), api.ErrDown)
				d.Crash(nil)
				if i == 0 {
					refuses(t, c, api.ErrNone)
				} else {
					has(t, c, last, i)
				}
				left = 0
				break
			}
			save(t, d, c, s)
			has(t, c, s, i+1)
			last, left = s, left-writes(s)
		}
		if left > 1 {
			t.Fatalf("armed with %d: %d left", at, left)
		}
	}
}

// P7.3: to load is no write, and changes nothing.
func TestLoadChangesNothing(t *testing.T) {
	d, c := alone(t, 2)
	save(t, d, c, "a")
	save(t, d, c, long(128, 1))
	was := all(t, d)
	d.Arm(1)
	for range 5 {
		has(t, c, long(128, 1), 2)
		c.Room()
	}
	if d.Down() || all(t, d) != was {
		t.Error("the disk is another one")
	}
	loose(t, d)
}

// P7.2: two cells beside each other, and what is ahead of them, between them and behind them.
func TestTwoCells(t *testing.T) {
	d := diskOf(t, 1+6+1+8+1)
	for _, i := range []int{0, 7, 16} {
		lay(t, d, map[int]string{i: "beside"})
	}
	a, b := open(t, d, 1, 2), open(t, d, 8, 3)
	refuses(t, b, api.ErrNone)
	save(t, d, a, long(128, 'a'))
	refuses(t, b, api.ErrNone)
	save(t, d, b, long(192, 'b'))
	for i := 2; i <= 8; i++ {
		save(t, d, a, long(128, byte(i)))
		has(t, b, long(192, byte('b'+i-2)), i-1)
		save(t, d, b, long(192, byte('b'+i-1)))
		has(t, a, long(128, byte(i)), i)
	}
	for at := 1; at <= 5; at++ {
		d.Arm(at)
		want(t, "Save", a.Save(long(128, 'x')), api.ErrDown)
		refuses(t, b, api.ErrDown)
		want(t, "Save", b.Save("y"), api.ErrDown)
		d.Crash([]int{30, 30})
		has(t, a, long(128, 8), 8)
		has(t, b, long(192, byte('b'+7)), 8)
	}
	for _, i := range []int{0, 7, 16} {
		reads(t, d, i, whole("beside"))
	}
}

// P7.1: cells on two disks have nothing to do with each other.
func TestTwoDisks(t *testing.T) {
	d, a := alone(t, 1)
	f, b := alone(t, 1)
	save(t, d, a, "a")
	refuses(t, b, api.ErrNone)
	save(t, f, b, "b")
	save(t, f, b, "bb")
	has(t, a, "a", 1)
	down(t, d)
	has(t, b, "bb", 2)
	refuses(t, a, api.ErrDown)
}

// R3: a text that is changed afterwards is not what was saved.
func TestTextNotKept(t *testing.T) {
	b := []byte(long(100, 1))
	d, c := alone(t, 2)
	save(t, d, c, unsafe.String(&b[0], len(b)))
	for i := range b {
		b[i] = 'x'
	}
	has(t, c, long(100, 1), 1)
}

// R3: a text that is handed in is not changed.
func TestTextUnchanged(t *testing.T) {
	b := []byte(long(200, 1))
	d, c := alone(t, 2)
	save(t, d, c, unsafe.String(&b[0], 100))
	d.Arm(2)
	want(t, "Save", c.Save(unsafe.String(&b[0], 128)), api.ErrDown)
	want(t, "Save", c.Save(unsafe.String(&b[0], 200)), api.ErrBig)
	if string(b) != long(200, 1) {
		t.Error("it is another one")
	}
}

// R3: what is answered is new memory, and stays as it is.
func TestAnswersNew(t *testing.T) {
	for _, n := range []int{1, 64, 100, 128} {
		d, c := alone(t, 2)
		save(t, d, c, long(n, 1))
		one, _, _ := c.Load()
		two, _, _ := c.Load()
		if unsafe.StringData(one) == unsafe.StringData(two) {
			t.Error("two answers share memory")
		}
		save(t, d, c, long(n, 2))
		save(t, d, c, long(n, 3))
		if one != long(n, 1) {
			t.Error("an answer is another one")
		}
		b := unsafe.Slice(unsafe.StringData(two), n)
		for i := range b {
			b[i] = 'x'
		}
		has(t, c, long(n, 3), 3)
	}
}

// story is a cell as somebody else keeps it: the last text that is whole, and one that may come.
type story struct {
	text, next string
	count      int
	left       int // writes up to the one at which the disk goes down; 0: it is not armed
	at         int // at which write of the last Save it went down; 0: it is up
}

// save is what a Save answers.
func (m *story) save(s string, room int) api.Errno {
	switch {
	case len(s) > room:
		return api.ErrBig
	case m.at > 0:
		return api.ErrDown
	case m.left > 0 && m.left <= writes(s):
		m.next, m.at, m.left = s, m.left, 0
		return api.ErrDown
	case m.left > 0:
		m.left -= writes(s)
	}
	m.text, m.count = s, m.count+1
	return api.OK
}

// crash is what a crash makes of it. Of a count that is two more the last byte is another one, so that a slot is whole only if all of it stays.
func (m *story) crash(keep int) {
	if m.at > writes(m.next)-2 && keep == 64 {
		m.text, m.count = m.next, m.count+1
	}
	m.at, m.left = 0, 0
}

// load asks for what a Load answers.
func (m *story) load(t *testing.T, c *cell.Cell) {
	t.Helper()
	switch {
	case m.at > 0:
		refuses(t, c, api.ErrDown)
	case m.count == 0:
		refuses(t, c, api.ErrNone)
	default:
		has(t, c, m.text, m.count)
	}
}

// P7.2 to P7.5: whatever is done, the cell is as its story says.
func TestStories(t *testing.T) {
	r := rand.New(rand.NewSource(7))
	for range 300 {
		size, first := 1+r.Intn(4), r.Intn(3)
		d := diskOf(t, first+2+2*size+r.Intn(2))
		c, m := open(t, d, first, size), &story{}
		for range 100 {
			switch r.Intn(8) {
			case 0, 1:
				n := 1 + r.Intn(12)
				if d.Arm(n) == api.OK {
					m.left = n
				}
			case 2, 3:
				keep := []int{64, r.Intn(65)}[r.Intn(2)]
				want(t, "Crash", d.Crash([]int{keep, r.Intn(65), r.Intn(65), r.Intn(65)}), api.OK)
				m.crash(keep)
			case 4:
				if !d.Down() {
					c = open(t, d, first, size)
				}
			default:
				s := long(r.Intn(64*size+4), byte(r.Intn(256)))
				want(t, "Save", c.Save(s), m.save(s, 64*size))
			}
			m.load(t, c)
		}
	}
}
