package nonce_test

import (
	"encoding/binary"
	"math"
	"math/rand"
	"slices"
	"strconv"
	"strings"
	"testing"

	"affidavit/api"
	"affidavit/cell"
	"affidavit/nonce"
	"affidavit/sect"
)

const (
	most = 1 << 40    // the greatest number that may be kept
	last = 1<<40 - 16 // the last number that may be taken
	save = 4          // the disk's writes of a reservation: the text, Sync, the slot, Sync
)

// want asks for an error.
func want(t *testing.T, what string, got, e api.Errno) {
	t.Helper()
	if got != e {
		t.Fatalf("%s: %d, and not %d", what, int(got), int(e))
	}
}

// alone is a cell that fills a disk of its own.
func alone(t *testing.T, size int) (*sect.Disk, *cell.Cell) {
	t.Helper()
	d, e := sect.New(2 + 2*size)
	want(t, "sect.New", e, api.OK)
	c, e := cell.Open(d, 0, size)
	want(t, "cell.Open", e, api.OK)
	return d, c
}

// keeps is a cell that has a text.
func keeps(t *testing.T, s string) (*sect.Disk, *cell.Cell) {
	t.Helper()
	d, c := alone(t, 2)
	want(t, "Save", c.Save(s), api.OK)
	return d, c
}

// open is an allocator that there may be.
func open(t *testing.T, c *cell.Cell) *nonce.Alloc {
	t.Helper()
	a, e := nonce.Open(c)
	if e != api.OK || a == nil {
		t.Fatalf("an allocator: %v, %d", a != nil, int(e))
	}
	return a
}

// from is an allocator that goes on at a number, with its cell.
func from(t *testing.T, n int) (*sect.Disk, *cell.Cell, *nonce.Alloc) {
	t.Helper()
	d, c := keeps(t, strconv.Itoa(n)+";")
	return d, c, open(t, c)
}

// refuses asks for an Open that answers an error, and no allocator.
func refuses(t *testing.T, c *cell.Cell, e api.Errno) {
	t.Helper()
	if a, got := nonce.Open(c); a != nil || got != e {
		t.Fatalf("an allocator: %v, %d, and not error %d", a != nil, int(got), int(e))
	}
}

// at asks for an allocator's next number and its limit.
func at(t *testing.T, a *nonce.Alloc, next, limit int) {
	t.Helper()
	if a.Next() != next || a.Limit() != limit {
		t.Fatalf("next %d, limit %d, and not %d, %d", a.Next(), a.Limit(), next, limit)
	}
}

// takes asks for the number that Take answers.
func takes(t *testing.T, a *nonce.Alloc, n int) {
	t.Helper()
	if got, e := a.Take(); got != n || e != api.OK {
		t.Fatalf("Take: %d, %d, and not %d", got, int(e), n)
	}
}

// some asks for n numbers, the first of which is known.
func some(t *testing.T, a *nonce.Alloc, n, first int) {
	t.Helper()
	l, e := a.Some(n)
	if e != api.OK || !slices.Equal(l, run(first, n)) {
		t.Fatalf("Some(%d): %v, %d, and not from %d on", n, l, int(e), first)
	}
}

// run is n numbers, rising.
func run(first, n int) []int {
	l := make([]int, n)
	for i := range l {
		l[i] = first + i
	}
	return l
}

// someNot asks for an error of Some, beside which there are no numbers, and behind which the allocator is as it was.
func someNot(t *testing.T, a *nonce.Alloc, n int, e api.Errno) {
	t.Helper()
	next, limit := a.Next(), a.Limit()
	if l, got := a.Some(n); len(l) != 0 || got != e {
		t.Fatalf("Some(%d): %v, %d, and not error %d", n, l, int(got), int(e))
	}
	at(t, a, next, limit)
}

// takeNot asks for an error of Take, likewise.
func takeNot(t *testing.T, a *nonce.Alloc, e api.Errno) {
	t.Helper()
	next, limit := a.Next(), a.Limit()
	if n, got := a.Take(); n != 0 || got != e {
		t.Fatalf("Take: %d, %d, and not error %d", n, int(got), int(e))
	}
	at(t, a, next, limit)
}

// kept asks for a cell's text and count.
func kept(t *testing.T, c *cell.Cell, s string, count int) {
	t.Helper()
	got, n, e := c.Load()
	if got != s || n != count || e != api.OK {
		t.Fatalf("the cell: %q, %d, %d, and not %q, %d", got, n, int(e), s, count)
	}
}

// empty asks for a cell that was never saved.
func empty(t *testing.T, c *cell.Cell) {
	t.Helper()
	if _, _, e := c.Load(); e != api.ErrNone {
		t.Fatalf("the cell has something: %d", int(e))
	}
}

// down lets a disk go down.
func down(t *testing.T, d *sect.Disk) {
	t.Helper()
	want(t, "Arm", d.Arm(1), api.OK)
	want(t, "Sync", d.Sync(), api.ErrDown)
}

// crash is a crash of a disk.
func crash(t *testing.T, d *sect.Disk, keep ...int) {
	t.Helper()
	want(t, "Crash", d.Crash(keep), api.OK)
}

// P8.1 to P8.4: the chapter's example.
func TestExample(t *testing.T) {
	d, c := alone(t, 1)
	a := open(t, c)
	takes(t, a, 0)
	at(t, a, 1, 16)
	crash(t, d)
	a = open(t, c)
	takes(t, a, 16)
	at(t, a, 17, 32)
}

// P8.1: Block is what the chapter says.
func TestBlock(t *testing.T) {
	if nonce.Block != 16 {
		t.Error(nonce.Block)
	}
}

// P8.1: no cell.
func TestOpenNil(t *testing.T) { refuses(t, nil, api.ErrNil) }

// P8.1, P8.3: a cell that has nothing: numbers begin with 0, and none is reserved; to open writes nothing.
func TestOpenNothing(t *testing.T) {
	for _, size := range []int{1, 2, 255} {
		d, c := alone(t, size)
		want(t, "Arm", d.Arm(1), api.OK)
		at(t, open(t, c), 0, 0)
		at(t, open(t, c), 0, 0)
		if d.Down() || len(d.Loose()) > 0 {
			t.Error("Open has written")
		}
		empty(t, c)
	}
}

// P8.1: a disk that is down, whatever the cell has; behind the crash it is as it was.
func TestOpenDown(t *testing.T) {
	d, c := alone(t, 1)
	down(t, d)
	refuses(t, c, api.ErrDown)
	crash(t, d)
	at(t, open(t, c), 0, 0)
	for _, s := range []string{"32;", "", "no number", "-1;"} {
		d, c := keeps(t, s)
		down(t, d)
		refuses(t, c, api.ErrDown)
	}
	d, c = keeps(t, "32;")
	down(t, d)
	refuses(t, c, api.ErrDown)
	crash(t, d)
	at(t, open(t, c), 32, 32)
}

// P8.1, P8.3: numbers that may be kept: whole blocks or not.
func TestOpenNumbers(t *testing.T) {
	for _, n := range []int{0, 1, 9, 10, 15, 16, 17, 255, 256, 257, 1 << 31, 1 << 32, last - 1, last, last + 1, most - 1, most} {
		d, c := keeps(t, strconv.Itoa(n)+";")
		want(t, "Arm", d.Arm(1), api.OK)
		at(t, open(t, c), n, n)
		kept(t, c, strconv.Itoa(n)+";", 1)
		if d.Down() {
			t.Error("Open has written")
		}
	}
}

// P8.1: texts that are no number's bytes, or not these alone, or a number that may not be.
func TestOpenForm(t *testing.T) {
	texts := []string{
		"", ";", "-", "-;", "0", "16", "1", "01;", "00;", "016;", "-0;", "-01;", "+16;", "--1;",
		"16;;", "16; ", "16;0", "16;\x00", "16;16;", " 16;", "\x0016;", ";16;", "(16;)", "(16;", "16:", "16,", "2:16", "16;)",
		"1 6;", "1.6;", "1e1;", "0x10;", "a", "a;", "16a;", "\xff;", "١;",
		"-1;", "-16;", "-1099511627776;", "1099511627777;", "1099511627792;", "10995116277760;",
		"9223372036854775807;", "-9223372036854775808;", "9223372036854775808;", "18446744073709551616;", "18446744073709551632;",
		strings.Repeat("9", 127) + ";", "0" + strings.Repeat("0", 100) + ";", strings.Repeat("16;", 40), strings.Repeat("\x00", 128),
	}
	for _, s := range texts {
		_, c := keeps(t, s)
		refuses(t, c, api.ErrForm)
		kept(t, c, s, 1)
	}
}

// P8.1: each number's bytes with a byte fewer, or any byte more at an end: a digit at the front makes another number, but no other byte does.
func TestOpenByteMoreOrFewer(t *testing.T) {
	for _, s := range []string{"0;", "5;", "16;", "272;", "1099511627776;"} {
		_, c := keeps(t, s[:len(s)-1])
		refuses(t, c, api.ErrForm)
		for b := range 256 {
			_, c := keeps(t, s+string([]byte{byte(b)}))
			refuses(t, c, api.ErrForm)
			if b < '1' || b > '9' {
				_, c := keeps(t, string([]byte{byte(b)})+s)
				refuses(t, c, api.ErrForm)
			}
		}
	}
}

// P8.1: the text that counts is the cell's last one.
func TestOpenLast(t *testing.T) {
	_, c := keeps(t, "16;")
	want(t, "Save", c.Save("no number"), api.OK)
	refuses(t, c, api.ErrForm)
	want(t, "Save", c.Save(""), api.OK)
	refuses(t, c, api.ErrForm)
	want(t, "Save", c.Save("48;"), api.OK)
	at(t, open(t, c), 48, 48)
	want(t, "Save", c.Save("32;"), api.OK)
	at(t, open(t, c), 32, 32)
}

// P8.2, P8.3: Take after Take: the cell is saved at a block's first number, and only there.
func TestTake(t *testing.T) {
	d, c := alone(t, 1)
	a := open(t, c)
	for n := range 100 {
		takes(t, a, n)
		at(t, a, n+1, n/16*16+16)
		kept(t, c, strconv.Itoa(n/16*16+16)+";", n/16+1)
		if len(d.Loose()) > 0 {
			t.Fatalf("behind %d it is not safe", n)
		}
	}
}

// P8.2: the last number of a block needs no save, the first one behind it does.
func TestEndOfBlock(t *testing.T) {
	_, c := alone(t, 1)
	a := open(t, c)
	some(t, a, 15, 0)
	at(t, a, 15, 16)
	takes(t, a, 15)
	at(t, a, 16, 16)
	kept(t, c, "16;", 1)
	takes(t, a, 16)
	at(t, a, 17, 32)
	kept(t, c, "32;", 2)
	some(t, a, 15, 17)
	at(t, a, 32, 32)
	kept(t, c, "32;", 2)
	some(t, a, 17, 32)
	at(t, a, 49, 64)
	kept(t, c, "64;", 3)
}

// P8.2, P8.3: how many may be asked for, of an allocator that has nothing: one save, of as many blocks as are needed.
func TestSome(t *testing.T) {
	for n := 1; n <= 256; n++ {
		_, c := alone(t, 1)
		a := open(t, c)
		some(t, a, n, 0)
		limit := (n + 15) / 16 * 16
		at(t, a, n, limit)
		kept(t, c, strconv.Itoa(limit)+";", 1)
		takes(t, a, n)
	}
}

// P8.2: how many may not be asked for.
func TestSomeArg(t *testing.T) {
	for _, n := range []int{0, -1, -16, 257, 258, 272, 512, 1 << 16, 1<<16 + 1, 1 << 32, 1<<32 + 1, most, math.MaxInt, math.MaxInt - 1, math.MinInt, math.MinInt + 1} {
		d, c := alone(t, 1)
		a := open(t, c)
		want(t, "Arm", d.Arm(1), api.OK)
		someNot(t, a, n, api.ErrArg)
		if d.Down() {
			t.Error("it has written")
		}
		empty(t, c)
		want(t, "Arm", d.Arm(100), api.OK)
		some(t, a, 3, 0)
		someNot(t, a, n, api.ErrArg)
		some(t, a, 3, 3)
		at(t, a, 6, 16)
	}
}

// P8.2, P8.4: numbers behind any that were taken, over several blocks: what is reserved is used up, and no block is reserved that is not needed.
func TestSomeBehind(t *testing.T) {
	for _, first := range []int{1, 7, 15, 16, 17, 31, 255, 256} {
		for n := 1; n <= 256; n++ {
			_, c := alone(t, 1)
			a := open(t, c)
			some(t, a, first, 0)
			was := a.Limit()
			some(t, a, n, first)
			limit := max(was, (first+n+15)/16*16)
			at(t, a, first+n, limit)
			count := 1
			if limit > was {
				count = 2
			}
			kept(t, c, strconv.Itoa(limit)+";", count)
		}
	}
}

// P8.2: blocks begin where the last one ended, though that may be at no multiple of 16.
func TestSomeOddBlocks(t *testing.T) {
	for first := range 40 {
		for _, n := range []int{1, 15, 16, 17, 32, 33, 255, 256} {
			_, c, a := from(t, first)
			some(t, a, n, first)
			limit := first + (n+15)/16*16
			at(t, a, first+n, limit)
			kept(t, c, strconv.Itoa(limit)+";", 2)
			at(t, open(t, c), limit, limit)
		}
	}
}

// P8.2: the last number is 2^40 - 16, wherever the blocks lie; what is asked for beyond it is not cut.
func TestLastNumber(t *testing.T) {
	for first := last - 40; first <= last; first++ {
		left := last - first + 1
		_, c, a := from(t, first)
		for _, n := range []int{left + 1, left + 2, 256} {
			someNot(t, a, n, api.ErrRange)
		}
		kept(t, c, strconv.Itoa(first)+";", 1)
		some(t, a, left, first)
		limit := first + (left+15)/16*16
		at(t, a, last+1, limit)
		kept(t, c, strconv.Itoa(limit)+";", 2)
		takeNot(t, a, api.ErrRange)
		someNot(t, a, 1, api.ErrRange)
		kept(t, c, strconv.Itoa(limit)+";", 2)
		at(t, open(t, c), limit, limit)
	}
}

// P8.2: Take up to the last number, and no further, though more are reserved.
func TestTakeToTheLast(t *testing.T) {
	_, c, a := from(t, last-20)
	for n := last - 20; n <= last; n++ {
		takes(t, a, n)
	}
	at(t, a, last+1, last+12)
	for range 20 {
		takeNot(t, a, api.ErrRange)
	}
	kept(t, c, strconv.Itoa(last+12)+";", 3)
}

// P8.2: behind the last number there is none; an allocator that is opened anew has none either.
func TestBehindLastNumber(t *testing.T) {
	for _, first := range []int{last + 1, last + 2, most - 1, most} {
		d, c, a := from(t, first)
		want(t, "Arm", d.Arm(1), api.OK)
		for _, n := range []int{1, 2, 15, 16, 17, 255, 256} {
			someNot(t, a, n, api.ErrRange)
		}
		takeNot(t, a, api.ErrRange)
		if d.Down() {
			t.Error("it has written")
		}
		kept(t, c, strconv.Itoa(first)+";", 1)
	}
}

// P8.2: the greatest limit there can be is one that Open takes.
func TestGreatestLimit(t *testing.T) {
	_, c, a := from(t, last)
	takes(t, a, last)
	at(t, a, last+1, most)
	kept(t, c, "1099511627776;", 2)
	a = open(t, c)
	at(t, a, most, most)
	takeNot(t, a, api.ErrRange)
}

// P8.1, P8.2: the greatest number has room in the smallest cell there is.
func TestSmallestCell(t *testing.T) {
	_, c := alone(t, 1)
	want(t, "Save", c.Save(strconv.Itoa(last-256)+";"), api.OK)
	a := open(t, c)
	some(t, a, 256, last-256)
	some(t, a, 1, last)
	at(t, a, last+1, most)
	kept(t, c, "1099511627776;", 3)
}

// P8.2: of several errors the first one of the chapter is told.
func TestSeveralErrors(t *testing.T) {
	wrong := []int{0, -1, 257, math.MaxInt, math.MinInt}
	for _, n := range wrong {
		if l, e := (*nonce.Alloc)(nil).Some(n); len(l) != 0 || e != api.ErrNil {
			t.Error(l, int(e))
		}
	}
	for _, x := range []struct {
		first        int
		one, several api.Errno
	}{
		{0, api.ErrDown, api.ErrDown},
		{last, api.ErrDown, api.ErrRange},
		{last + 1, api.ErrRange, api.ErrRange},
		{most, api.ErrRange, api.ErrRange},
	} {
		d, _, a := from(t, x.first)
		for _, n := range wrong {
			someNot(t, a, n, api.ErrArg)
		}
		down(t, d)
		for _, n := range wrong {
			someNot(t, a, n, api.ErrArg)
		}
		takeNot(t, a, x.one)
		someNot(t, a, 1, x.one)
		someNot(t, a, 256, x.several)
	}
}

// P8.2: on a disk that is down what is reserved may be taken; what is not may not, not even a part of it.
func TestReservedOnDownDisk(t *testing.T) {
	d, c := alone(t, 1)
	a := open(t, c)
	some(t, a, 20, 0)
	down(t, d)
	takes(t, a, 20)
	some(t, a, 5, 21)
	someNot(t, a, 7, api.ErrDown)
	some(t, a, 6, 26)
	at(t, a, 32, 32)
	takeNot(t, a, api.ErrDown)
	someNot(t, a, 256, api.ErrDown)
	crash(t, d)
	kept(t, c, "32;", 1)
	takes(t, a, 32)
	at(t, a, 33, 48)
	at(t, open(t, c), 48, 48)
}

// spent is a cell that was saved as often as it may be, and keeps a number.
func spent(t *testing.T, n int) *cell.Cell {
	t.Helper()
	d, c := alone(t, 1)
	s := strconv.Itoa(n) + ";"
	b := binary.BigEndian.AppendUint64(nil, most)
	b = binary.BigEndian.AppendUint64(b, uint64(len(s)))
	b = append(b, make([]byte, 40)...)
	b = binary.BigEndian.AppendUint64(b, most)
	want(t, "Write", d.Write(0, string(b)), api.OK)
	want(t, "Write", d.Write(2, s), api.OK)
	want(t, "Sync", d.Sync(), api.OK)
	kept(t, c, s, most)
	return c
}

// P8.2: any error of the cell ends it: one that was saved 2^40 times cannot be saved.
func TestCellSpent(t *testing.T) {
	c := spent(t, 32)
	a := open(t, c)
	takeNot(t, a, api.ErrRange)
	for _, n := range []int{1, 16, 17, 256} {
		someNot(t, a, n, api.ErrRange)
	}
	at(t, a, 32, 32)
	kept(t, c, "32;", most)
}

// P8.2: a reservation whose disk goes down at any of its writes: no number is taken, nor of those that are reserved; the next ones that are asked for are these.
func TestDownInReservation(t *testing.T) {
	for _, n := range []int{13, 16, 17, 29, 30, 255, 256} {
		for write := 1; write <= save; write++ {
			d, c := alone(t, 1)
			a := open(t, c)
			some(t, a, 4, 0)
			want(t, "Arm", d.Arm(write), api.OK)
			someNot(t, a, n, api.ErrDown)
			at(t, a, 4, 16)
			someNot(t, a, n, api.ErrDown)
			some(t, a, 2, 4)
			crash(t, d)
			kept(t, c, "16;", 1)
			some(t, a, n, 6)
			at(t, a, 6+n, (6+n+15)/16*16)
			at(t, open(t, c), a.Limit(), a.Limit())
		}
	}
}

// P8.2: what a reservation writes is four writes, and what needs none writes nothing.
func TestWrites(t *testing.T) {
	d, c := alone(t, 1)
	a := open(t, c)
	want(t, "Arm", d.Arm(save+1), api.OK)
	some(t, a, 30, 0)
	some(t, a, 2, 30)
	if d.Down() {
		t.Fatal("it has written more often")
	}
	takeNot(t, a, api.ErrDown)
	at(t, a, 32, 32)
}

// P8.4: a crash at every write of a reservation, with every number of bytes that stay: an allocator that is opened behind it goes on where the old block ended, or the new one, and none that was taken comes again.
func TestCrashInReservation(t *testing.T) {
	for _, n := range []int{1, 16, 17, 256} {
		for blocks := range 4 {
			for write := 1; write <= save; write++ {
				for keep := range 65 {
					d, c := alone(t, 1)
					a := open(t, c)
					for i := range blocks {
						some(t, a, 16, 16*i)
					}
					want(t, "Arm", d.Arm(write), api.OK)
					someNot(t, a, n, api.ErrDown)
					refuses(t, c, api.ErrDown)
					crash(t, d, keep)
					first := 16 * blocks
					// A slot's last byte is another one each time: it is whole only if all of it stays.
					if write >= save-1 && keep == 64 {
						first += (n + 15) / 16 * 16
					}
					a = open(t, c)
					at(t, a, first, first)
					takes(t, a, first)
					at(t, a, first+1, first+16)
					at(t, open(t, c), first+16, first+16)
				}
			}
		}
	}
}

// P8.2, P8.4: behind such a crash the same allocator goes on where it was, whatever has become of the cell.
func TestCrashAndSameAllocator(t *testing.T) {
	for write := 1; write <= save; write++ {
		for keep := range 65 {
			d, c := alone(t, 1)
			a := open(t, c)
			some(t, a, 10, 0)
			want(t, "Arm", d.Arm(write), api.OK)
			someNot(t, a, 256, api.ErrDown)
			crash(t, d, keep)
			at(t, a, 10, 16)
			some(t, a, 6, 10)
			takes(t, a, 16)
			at(t, a, 17, 32)
			a = open(t, c)
			at(t, a, 32, 32)
			takes(t, a, 32)
		}
	}
}

// P8.4: a crash behind each number that is taken: what is taken behind it is none of those ahead of it, and no block is lost beside the one that was begun.
func TestCrashBehindTake(t *testing.T) {
	for n := 1; n <= 40; n++ {
		d, c := alone(t, 1)
		a := open(t, c)
		for i := range n {
			takes(t, a, i)
		}
		crash(t, d, 64, 64, 64)
		a = open(t, c)
		takes(t, a, (n+15)/16*16)
	}
}

// P8.4: an allocator behind another one on one cell goes on where that one's reservation ended, be all of it taken or nothing.
func TestOneBehindAnother(t *testing.T) {
	_, c := alone(t, 1)
	a := open(t, c)
	b := open(t, c)
	at(t, b, 0, 0)
	some(t, a, 16, 0)
	b = open(t, c)
	at(t, b, 16, 16)
	some(t, b, 17, 16)
	at(t, b, 33, 48)
	at(t, a, 16, 16)
	for i := range 10 {
		b = open(t, c)
		at(t, b, 48+16*i, 48+16*i)
		takes(t, b, 48+16*i)
	}
	for range 5 {
		at(t, open(t, c), 208, 208)
	}
}

// P8.1: allocators on two cells of one disk have nothing to do with each other.
func TestTwoCells(t *testing.T) {
	d, e := sect.New(8)
	want(t, "sect.New", e, api.OK)
	one, e := cell.Open(d, 0, 1)
	want(t, "cell.Open", e, api.OK)
	two, e := cell.Open(d, 4, 1)
	want(t, "cell.Open", e, api.OK)
	a, b := open(t, one), open(t, two)
	some(t, a, 20, 0)
	at(t, b, 0, 0)
	some(t, b, 256, 0)
	takes(t, a, 20)
	takes(t, b, 256)
	crash(t, d)
	at(t, open(t, one), 32, 32)
	at(t, open(t, two), 272, 272)
}

// P8.2, P8.3: no allocator.
func TestNilAllocator(t *testing.T) {
	var a *nonce.Alloc
	if a.Next() != 0 || a.Limit() != 0 {
		t.Error(a.Next(), a.Limit())
	}
	if n, e := a.Take(); n != 0 || e != api.ErrNil {
		t.Error(n, int(e))
	}
	for _, n := range []int{1, 16, 256} {
		if l, e := a.Some(n); len(l) != 0 || e != api.ErrNil {
			t.Error(l, int(e))
		}
	}
}

// R3: what is answered is new memory: whoever changes it, or puts more behind it, changes nothing else.
func TestAnswersNew(t *testing.T) {
	_, c := alone(t, 1)
	a := open(t, c)
	one, _ := a.Some(20)
	two, _ := a.Some(20)
	for i := range one {
		one[i] = -7
	}
	_ = append(one[:3], 900, 901)
	_ = append(one, 902, 903, 904)
	if !slices.Equal(two, run(20, 20)) {
		t.Error(two)
	}
	at(t, a, 40, 48)
	kept(t, c, "48;", 2)
	for i := range two {
		two[i] = 5
	}
	some(t, a, 20, 40)
	at(t, a, 60, 64)
	at(t, open(t, c), 64, 64)
}

// P8.3: looks change nothing.
func TestLooks(t *testing.T) {
	d, c := alone(t, 1)
	a := open(t, c)
	some(t, a, 3, 0)
	want(t, "Arm", d.Arm(1), api.OK)
	for range 40 {
		at(t, a, 3, 16)
	}
	if d.Down() {
		t.Error("they write")
	}
	down(t, d)
	at(t, a, 3, 16)
	crash(t, d)
	at(t, a, 3, 16)
	kept(t, c, "16;", 1)
}

// story is an allocator as somebody else keeps it.
type story struct {
	next, limit int
	safe        int // what the cell keeps
	asked       int // what it may keep behind a crash
	left        int // writes up to the one at which the disk goes down; 0: it is not armed
	at          int // at which write of a reservation it went down; 0: it is up
}

// some is what Some answers.
func (m *story) some(n int) (int, api.Errno) {
	if n < 1 || n > 256 {
		return 0, api.ErrArg
	}
	limit := m.limit
	for m.next+n > limit {
		limit += 16
	}
	if limit > m.limit {
		if e := m.save(limit); e != api.OK {
			return 0, e
		}
	}
	first := m.next
	m.next, m.limit = first+n, limit
	return first, api.OK
}

// save is what the cell's Save answers.
func (m *story) save(limit int) api.Errno {
	switch {
	case m.at > 0:
		return api.ErrDown
	case m.left > 0 && m.left <= save:
		m.at, m.left, m.asked = m.left, 0, limit
		return api.ErrDown
	case m.left > 0:
		m.left -= save
	}
	m.safe = limit
	return api.OK
}

// crash is what a crash makes of it.
func (m *story) crash(keep int) {
	if m.at >= save-1 && keep == 64 {
		m.safe = m.asked
	}
	m.at, m.left = 0, 0
}

// P8.1 to P8.4: whatever is done, the allocator is as its story says, and no number comes twice.
func TestStories(t *testing.T) {
	r := rand.New(rand.NewSource(8))
	for range 300 {
		d, c := alone(t, 1)
		a, m, greatest := open(t, c), &story{}, -1
		for range 200 {
			switch r.Intn(10) {
			case 0, 1:
				n := 1 + r.Intn(12)
				if d.Arm(n) == api.OK {
					m.left = n
				}
			case 2:
				keep := []int{64, r.Intn(65)}[r.Intn(2)]
				crash(t, d, keep)
				m.crash(keep)
			case 3:
				if d.Down() {
					refuses(t, c, api.ErrDown)
					continue
				}
				a = open(t, c)
				m.next, m.limit = m.safe, m.safe
			default:
				n := []int{1, r.Intn(20), r.Intn(260) - 1}[r.Intn(3)]
				l, e := a.Some(n)
				first, wanted := m.some(n)
				want(t, "Some", e, wanted)
				if e == api.OK && (!slices.Equal(l, run(first, n)) || first <= greatest) {
					t.Fatalf("Some(%d): %v, and not from %d on; %d was taken", n, l, first, greatest)
				}
				if e == api.OK {
					greatest = l[n-1]
				}
			}
			at(t, a, m.next, m.limit)
		}
	}
}
