package path_test

import (
	"math/rand"
	"slices"
	"strings"
	"testing"
	"unsafe"

	"affidavit/api"
	"affidavit/path"
)

const (
	// mostBytes is how many bytes a name may have.
	mostBytes = 12
	// mostNames is how many names a path may have.
	mostNames = 6
	// letters are the bytes that names have.
	letters = "abcdefghijklmnopqrstuvwxyz0123456789.-_"
)

// names are texts that are names.
func names() []string {
	return []string{
		"a", "z", "0", "9", "-", "_", "m", "5", "b.txt", "...", "....", ".a", "..a", "a.", "a..", ".-", "..-", "-.", "_..", ".a.", "..a..", "a..b", "--", "__",
		"a.b-c_d", "0123456789", "zzzzzzzzzzz", "abcdefghijkl", "mnopqrstuvwx", "yz0123456789", "............", "------------", "____________", ".-_.-_.-_.-_",
	}
}

// noNames are texts that are none: too short, too long, the two that lead elsewhere, other bytes, some that are no runes among them.
func noNames() []string {
	return []string{
		"", ".", "..", "abcdefghijklm", ".............", "0123456789012", strings.Repeat("a", 14), strings.Repeat("a", 24), strings.Repeat("a", 256), strings.Repeat("a", 268),
		"A", "Z", "aB", "B.txt", " ", "a b", " a", "a ", "\x00", "a\x00", "\x00a", "\n", "a\n", "\na", ".\n", "..\n", "\t", "~", "*", "?", "\\", "a\\b", ":", "a:b", "+", ",", "@", "`", "{", "[", "^", "\x7f",
		"ä", "aä", "ñ", "é", "𝚊", "ａ", "．", "..", "‥", "\x80", "\xff", "a\xff", "\xc3", "\xe2\x82", "a\xc3", "\xc3a", "\xed\xa0\x80", "\xfe\xff", "\xef\xbf\xbd", "ı", "K", "ſ",
	}
}

// nameOf tells whether a text is a name, as somebody else does: by looking each byte up among a name's.
func nameOf(s string) bool {
	if s == "." || s == ".." || len(s) == 0 || len(s) > mostBytes {
		return false
	}
	for _, b := range []byte(s) {
		if strings.IndexByte(letters, b) < 0 {
			return false
		}
	}
	return true
}

// splitOf tells a path's names, as somebody else does: all of them, and then what is wrong with them.
func splitOf(s string) ([]string, api.Errno) {
	if s == "" || s[0] != '/' {
		return nil, api.ErrArg
	}
	if s == "/" {
		return nil, api.OK
	}
	l := strings.Split(s, "/")[1:]
	if slices.ContainsFunc(l, func(x string) bool { return !nameOf(x) }) {
		return nil, api.ErrName
	}
	if len(l) > mostNames {
		return nil, api.ErrDepth
	}
	return l, api.OK
}

// splits asks for what Split answers, and for the way back.
func splits(t *testing.T, s string, want []string, e api.Errno) {
	t.Helper()
	l, got := path.Split(s)
	if !slices.Equal(l, want) || got != e {
		t.Errorf("Split(%.80q): %q, %d, and not %q, %d", s, l, got, want, e)
	}
	if got != api.OK {
		return
	}
	if back := path.Join(l); back != s {
		t.Errorf("Join(Split(%q)): %q", s, back)
	}
}

// shares tells whether two texts share memory.
func shares(a, b string) bool {
	from := func(s string) uintptr { return uintptr(unsafe.Pointer(unsafe.StringData(s))) }
	return len(a) > 0 && len(b) > 0 && from(a) < from(b)+uintptr(len(b)) && from(b) < from(a)+uintptr(len(a))
}

// rows are all lists of at most n of these texts.
func rows(of []string, n int) [][]string {
	all := [][]string{nil}
	for from := 0; n > 0; n-- {
		end := len(all)
		for _, l := range all[from:end] {
			for _, x := range of {
				all = append(all, append(slices.Clip(l), x))
			}
		}
		from = end
	}
	return all
}

// texts are all texts of at most n of these bytes.
func texts(of string, n int) []string {
	var all []string
	for _, l := range rows(strings.Split(of, ""), n) {
		all = append(all, strings.Join(l, ""))
	}
	return all
}

// made is n names, each another one.
func made(n int) []string {
	var l []string
	for i := range n {
		l = append(l, names()[i%len(names())])
	}
	return l
}

// The chapter's examples.
func TestExamples(t *testing.T) {
	splits(t, "/a/b.txt", []string{"a", "b.txt"}, api.OK)
	splits(t, "/a/", nil, api.ErrName)
	splits(t, "a", nil, api.ErrArg)
}

// P19.1: names, and texts that are none.
func TestName(t *testing.T) {
	for _, s := range names() {
		if !path.Name(s) {
			t.Errorf("Name(%q): false", s)
		}
	}
	for _, s := range noNames() {
		if path.Name(s) {
			t.Errorf("Name(%q): true", s)
		}
	}
}

// P19.1: a name has 1 to 12 bytes, whatever they are.
func TestNameLength(t *testing.T) {
	for _, c := range letters {
		for n := range 300 {
			s := strings.Repeat(string(c), n)
			want := n >= 1 && n <= mostBytes && s != "." && s != ".."
			if got := path.Name(s); got != want {
				t.Errorf("Name of %d bytes %q: %v", n, c, got)
			}
		}
	}
	if path.Name(strings.Repeat("a", 1<<24)) {
		t.Error("Name of 2^24 bytes: true")
	}
}

// P19.1: every byte as a name, and at each place of a name of each length.
func TestNameBytes(t *testing.T) {
	for b := range 256 {
		c := string([]byte{byte(b)})
		for n := 1; n <= mostBytes+1; n++ {
			for at := range n {
				s := strings.Repeat("a", at) + c + strings.Repeat("a", n-at-1)
				want := strings.Contains(letters, c) && n <= mostBytes && s != "."
				if got := path.Name(s); got != want {
					t.Errorf("Name(%q): %v", s, got)
				}
			}
		}
	}
}

// P19.1: all names of two bytes, and all short ones of some bytes, dots among them.
func TestNameShort(t *testing.T) {
	for b := range 256 {
		for c := range 256 {
			s := string([]byte{byte(b), byte(c)})
			if got := path.Name(s); got != nameOf(s) {
				t.Errorf("Name(%q): %v", s, got)
			}
		}
	}
	for _, s := range texts("./a-A", 6) {
		if got := path.Name(s); got != nameOf(s) {
			t.Errorf("Name(%q): %v", s, got)
		}
	}
}

// P19.1: a path is '/' alone, or names with a '/' ahead of each.
func TestSplit(t *testing.T) {
	splits(t, "/", nil, api.OK)
	for _, s := range names() {
		splits(t, "/"+s, []string{s}, api.OK)
		splits(t, "/"+s+"/a", []string{s, "a"}, api.OK)
		splits(t, "/a/"+s, []string{"a", s}, api.OK)
		splits(t, "/a/"+s+"/"+s, []string{"a", s, s}, api.OK)
	}
	splits(t, "/a/b/c/d/e/f", []string{"a", "b", "c", "d", "e", "f"}, api.OK)
	splits(t, "/abcdefghijkl/mnopqrstuvwx/yz0123456789/............/------------/____________", []string{"abcdefghijkl", "mnopqrstuvwx", "yz0123456789", "............", "------------", "____________"}, api.OK)
}

// P19.1: what does not begin with '/' is no path, whatever else is wrong with it.
func TestSplitBegin(t *testing.T) {
	for _, s := range []string{"", "a", "a/b", "a/", ".", "..", "A", " ", " /a", "./a", "../a", "\\a", "\x00/a", "\xff", "\xff/a", "a//", "a/b/c/d/e/f/g/h", "A/b/c/d/e/f/g/h", "a/b/c/d/e/f/g/H", "/a"[1:], "／a", "-/", strings.Repeat("a", 1000), "abcdefghijklm"} {
		splits(t, s, nil, api.ErrArg)
	}
	for b := range 256 {
		c := string([]byte{byte(b)})
		if c == "/" {
			continue
		}
		splits(t, c, nil, api.ErrArg)
		splits(t, c+"/", nil, api.ErrArg)
		splits(t, c+"/a", nil, api.ErrArg)
	}
}

// P19.1: an empty name is none, wherever it stands.
func TestSplitEmpty(t *testing.T) {
	for _, s := range []string{"//", "///", "/a/", "/a//", "//a", "//a/", "//a//", "/a//b", "/a/b/", "/a/b//", "/a/b//c", "///a", "/a///b", "/a/b/c/d/e/f/", "/a/b/c/d/e//f", "//a/b/c/d/e/f", "/./", "//.", "/../"} {
		splits(t, s, nil, api.ErrName)
	}
}

// P19.1: what is no name is told, at each place of a path, with every byte.
func TestSplitWrong(t *testing.T) {
	for _, s := range noNames() {
		for n := 1; n <= mostNames; n++ {
			for at := range n {
				l := made(n)
				l[at] = s
				splits(t, "/"+strings.Join(l, "/"), nil, wrongOf(s, n))
			}
		}
	}
	for b := range 256 {
		c := string([]byte{byte(b)})
		for _, s := range []string{"/" + c, "/a" + c, "/" + c + "a", "/" + c + "/a", "/a/" + c, "/a/b" + c + "c/d", "/a" + c + "/b"} {
			want, e := splitOf(s)
			splits(t, s, want, e)
		}
	}
}

// wrongOf is what is wrong with n names, one of which is none: a path of one that is empty is the root.
func wrongOf(s string, n int) api.Errno {
	if s == "" && n == 1 {
		return api.OK
	}
	return api.ErrName
}

// P19.1: at most 6 names.
func TestSplitDepth(t *testing.T) {
	for n := range 101 {
		l := made(n)
		s := "/" + strings.Join(l, "/")
		if n <= mostNames {
			splits(t, s, l, api.OK)
		} else {
			splits(t, s, nil, api.ErrDepth)
		}
	}
	splits(t, strings.Repeat("/a", 6), []string{"a", "a", "a", "a", "a", "a"}, api.OK)
	splits(t, strings.Repeat("/a", 7), nil, api.ErrDepth)
	splits(t, strings.Repeat("/abcdefghijkl", 7), nil, api.ErrDepth)
	splits(t, strings.Repeat("/a", 256), nil, api.ErrDepth)
	splits(t, strings.Repeat("/a", 262), nil, api.ErrDepth)
	splits(t, strings.Repeat("/a", 1<<20), nil, api.ErrDepth)
}

// P19.1: a wrong name goes ahead of the depth, wherever it stands.
func TestSplitNameAheadOfDepth(t *testing.T) {
	for _, s := range noNames() {
		for _, n := range []int{7, 8, 12, 100} {
			for at := range n {
				l := made(n)
				l[at] = s
				splits(t, "/"+strings.Join(l, "/"), nil, api.ErrName)
			}
		}
	}
	for _, s := range []string{"/a/b/c/d/e/f/g/", "//a/b/c/d/e/f/g", "/a/b/c//d/e/f/g", "/A/b/c/d/e/f/g", "/a/b/c/d/e/f/G", "/a/b/c/d/e/f/g/H", "///////", "////////", strings.Repeat("/a", 1<<20) + "/", "//" + strings.Repeat("/a", 1<<20), strings.Repeat("/", 1<<20), strings.Repeat("/..", 100)} {
		splits(t, s, nil, api.ErrName)
	}
}

// P19.1: all short texts of some bytes, and long ones at random, beside somebody else's rules.
func TestSplitAll(t *testing.T) {
	for _, s := range texts("/.aA", 8) {
		want, e := splitOf(s)
		splits(t, s, want, e)
	}
	for _, l := range rows([]string{"a", "", "..", "b-1", "\xff"}, 8) {
		s := "/" + strings.Join(l, "/")
		want, e := splitOf(s)
		splits(t, s, want, e)
	}
}

// chance is a name at random; now and then it is none.
func chance(r *rand.Rand) string {
	const pool = letters + letters + letters + "A\xff"
	b := make([]byte, 1+r.Intn(mostBytes))
	if r.Intn(30) == 0 {
		b = make([]byte, r.Intn(2*mostBytes))
	}
	for i := range b {
		b[i] = pool[r.Intn(len(pool))]
	}
	return string(b)
}

// chances are n names at random; now and then one is none.
func chances(r *rand.Rand, n int) []string {
	var l []string
	for range n {
		l = append(l, chance(r))
	}
	return l
}

// P19.1: paths at random, beside somebody else's rules.
func TestSplitChance(t *testing.T) {
	r := rand.New(rand.NewSource(19))
	count := map[api.Errno]int{}
	for range 100000 {
		s := "/" + strings.Join(chances(r, r.Intn(9)), "/")
		want, e := splitOf(s)
		splits(t, s, want, e)
		count[e]++
	}
	for _, e := range []api.Errno{api.OK, api.ErrName, api.ErrDepth} {
		if count[e] < 1000 {
			t.Errorf("%d paths of 100000 with %d", count[e], e)
		}
	}
}

// P19.2: each name with a '/' ahead; of none '/'.
func TestJoin(t *testing.T) {
	for _, c := range []struct {
		l    []string
		want string
	}{
		{nil, "/"},
		{[]string{}, "/"},
		{[]string{"a"}, "/a"},
		{[]string{"a", "b.txt"}, "/a/b.txt"},
		{[]string{"b.txt", "a"}, "/b.txt/a"},
		{[]string{"a", "a"}, "/a/a"},
		{[]string{"a", "b", "c", "d", "e", "f"}, "/a/b/c/d/e/f"},
		{[]string{"a", "b", "c", "d", "e", "f", "g"}, "/a/b/c/d/e/f/g"},
		{[]string{""}, "/"},
		{[]string{"", ""}, "//"},
		{[]string{"a", ""}, "/a/"},
		{[]string{"", "a"}, "//a"},
		{[]string{"/"}, "//"},
		{[]string{"/a"}, "//a"},
		{[]string{"a/b"}, "/a/b"},
		{[]string{"a/b", "/"}, "/a/b//"},
		{[]string{".", "..", "..."}, "/./../..."},
		{[]string{"A b", "\x00\xff", "ä"}, "/A b/\x00\xff/ä"},
	} {
		if got := path.Join(c.l); got != c.want {
			t.Errorf("Join(%q): %q, and not %q", c.l, got, c.want)
		}
	}
}

// P19.2: of any number of texts, names or not.
func TestJoinMany(t *testing.T) {
	for _, n := range []int{1, 2, 6, 7, 8, 100, 512, 513, 1 << 16} {
		for _, x := range []string{"", "a", "abcdefghijklm", "..", "\xff", strings.Repeat("x", 100)} {
			l := slices.Repeat([]string{x}, n)
			if got := path.Join(l); got != strings.Repeat("/"+x, n) {
				t.Errorf("Join of %d times %q: %d bytes", n, x, len(got))
			}
		}
	}
	long := strings.Repeat("y", 1<<20)
	if got := path.Join([]string{long, "a", long}); got != "/"+long+"/a/"+long {
		t.Errorf("Join of long texts: %d bytes", len(got))
	}
	for _, l := range rows([]string{"a", "bc", "", "/"}, 5) {
		want := "/"
		if len(l) > 0 {
			want = "/" + strings.Join(l, "/")
		}
		if got := path.Join(l); got != want {
			t.Errorf("Join(%q): %q, and not %q", l, got, want)
		}
	}
}

// parts asks for what Parent answers.
func parts(t *testing.T, l, want []string, last string, e api.Errno) {
	t.Helper()
	above, name, got := path.Parent(l)
	if !slices.Equal(above, want) || name != last || got != e {
		t.Errorf("Parent(%.80q): %q, %q, %d, and not %q, %q, %d", l, above, name, got, want, last, e)
	}
}

// P19.2: the names but the last one, and the last one, names or not, however many; of none ErrArg.
func TestParent(t *testing.T) {
	parts(t, nil, nil, "", api.ErrArg)
	parts(t, []string{}, nil, "", api.ErrArg)
	parts(t, []string{"a"}, nil, "a", api.OK)
	parts(t, []string{"a", "b.txt"}, []string{"a"}, "b.txt", api.OK)
	parts(t, []string{"a", "b", "c", "d", "e", "f"}, []string{"a", "b", "c", "d", "e"}, "f", api.OK)
	parts(t, []string{"a", "b", "c", "d", "e", "f", "g"}, []string{"a", "b", "c", "d", "e", "f"}, "g", api.OK)
	parts(t, []string{""}, nil, "", api.OK)
	parts(t, []string{"", ""}, []string{""}, "", api.OK)
	parts(t, []string{"..", "A", "/"}, []string{"..", "A"}, "/", api.OK)
	for _, s := range append(names(), noNames()...) {
		parts(t, []string{s}, nil, s, api.OK)
		parts(t, []string{s, "a"}, []string{s}, "a", api.OK)
		parts(t, []string{"a", s}, []string{"a"}, s, api.OK)
	}
	for n := 1; n <= 600; n++ {
		parts(t, made(n), made(n-1), made(n)[n-1], api.OK)
	}
	for _, l := range rows([]string{"a", "b", ""}, 6)[1:] {
		parts(t, l, l[:len(l)-1], l[len(l)-1], api.OK)
	}
}

// P19.2: an empty list with spare room has no name either.
func TestParentOfRoom(t *testing.T) {
	l := []string{"a", "b"}
	parts(t, l[:0], nil, "", api.ErrArg)
	parts(t, l[:1], nil, "a", api.OK)
}

// below asks for what Below answers.
func below(t *testing.T, l, above []string, want bool) {
	t.Helper()
	if got := path.Below(l, above); got != want {
		t.Errorf("Below(%.80q, %.80q): %v", l, above, got)
	}
}

// P19.2: names that begin with others, and are longer.
func TestBelow(t *testing.T) {
	below(t, nil, nil, false)
	below(t, []string{}, nil, false)
	below(t, nil, []string{}, false)
	below(t, []string{"a"}, nil, true)
	below(t, []string{"a"}, []string{}, true)
	below(t, nil, []string{"a"}, false)
	below(t, []string{"a"}, []string{"a"}, false)
	below(t, []string{"a", "b"}, []string{"a"}, true)
	below(t, []string{"a"}, []string{"a", "b"}, false)
	below(t, []string{"b", "a"}, []string{"a"}, false)
	below(t, []string{"a", "b", "c"}, []string{"a", "b"}, true)
	below(t, []string{"a", "b", "c"}, []string{"a", "c"}, false)
	below(t, []string{"a", "b", "c"}, []string{"b", "c"}, false)
	below(t, []string{""}, nil, true)
	below(t, []string{"", ""}, []string{""}, true)
	below(t, nil, []string{""}, false)
	below(t, []string{"", "a"}, []string{"a"}, false)
}

// P19.2: names are held against each other one by one, whole, and not as bytes of a path.
func TestBelowWhole(t *testing.T) {
	below(t, []string{"ab"}, []string{"a"}, false)
	below(t, []string{"ab", "c"}, []string{"a"}, false)
	below(t, []string{"ab", "c"}, []string{"a", "b"}, false)
	below(t, []string{"a", "bc"}, []string{"a", "b"}, false)
	below(t, []string{"a", "bc", "d"}, []string{"a", "b"}, false)
	below(t, []string{"a", "b"}, []string{"ab"}, false)
	below(t, []string{"a", "b", "c"}, []string{"a/b"}, false)
	below(t, []string{"a/b", "c"}, []string{"a"}, false)
	below(t, []string{"A", "b"}, []string{"a"}, false)
	below(t, []string{"\xff", "b"}, []string{"\xfe"}, false)
}

// P19.2: of two lists that part at any place, of any lengths, none is below the other.
func TestBelowParting(t *testing.T) {
	for long := range 12 {
		for short := range 12 {
			below(t, made(long), made(short), long > short)
			for at := range min(long, short) {
				for _, other := range []string{"x", "", "a-other"} {
					l := made(short)
					l[at] = other
					below(t, made(long), l, false)
				}
			}
		}
	}
	many := slices.Repeat([]string{"a"}, 1<<16)
	below(t, many, many, false)
	below(t, many, many[1:], true)
	below(t, many[1:], many, false)
	below(t, many, append(slices.Repeat([]string{"a"}, 1<<15), "b"), false)
}

// belowOf tells whether names are below others, as somebody else does: by looking up from each one above.
func belowOf(l, above []string) bool {
	for len(l) > 0 {
		l = l[:len(l)-1]
		if slices.Equal(l, above) {
			return true
		}
	}
	return false
}

// P19.2: all short lists with all others.
func TestBelowAll(t *testing.T) {
	all := rows([]string{"a", "b", "ab", ""}, 4)
	for _, l := range all {
		for _, above := range all {
			below(t, l, above, belowOf(l, above))
		}
	}
}

// P19.2: one that is below another one has it somewhere above.
func TestBelowParent(t *testing.T) {
	for _, l := range rows([]string{"a", "b"}, 6)[1:] {
		above, _, e := path.Parent(l)
		if e != api.OK || !path.Below(l, above) || path.Below(above, l) {
			t.Errorf("%q is not below its parent, %q", l, above)
		}
	}
}

// P19.3: a path's names, joined, are the path; Split answers names alone, at most 6.
func TestPathBack(t *testing.T) {
	r := rand.New(rand.NewSource(193))
	paths := texts("/a.", 9)
	for range 50000 {
		paths = append(paths, "/"+strings.Join(chances(r, r.Intn(8)), "/"))
	}
	for _, s := range paths {
		l, e := path.Split(s)
		if e != api.OK {
			continue
		}
		if got := path.Join(l); got != s {
			t.Errorf("Join(Split(%q)): %q", s, got)
		}
		if len(l) > mostNames || slices.ContainsFunc(l, func(x string) bool { return !path.Name(x) }) {
			t.Errorf("Split(%q): %q", s, l)
		}
	}
}

// P19.3: names, at most 6, joined and split, are the names.
func TestNamesBack(t *testing.T) {
	lists := rows([]string{"a", "..."}, mostNames)
	for n := range mostNames + 1 {
		lists = append(lists, made(n))
	}
	for _, a := range names() {
		lists = append(lists, []string{a}, slices.Repeat([]string{a}, mostNames))
		for _, b := range names() {
			lists = append(lists, []string{a, b})
		}
	}
	r := rand.New(rand.NewSource(1933))
	for range 50000 {
		l := chances(r, r.Intn(mostNames+1))
		lists = append(lists, slices.DeleteFunc(l, func(x string) bool { return !path.Name(x) }))
	}
	for _, want := range lists {
		l, e := path.Split(path.Join(want))
		if e != api.OK || !slices.Equal(l, want) {
			t.Errorf("Split(Join(%q)): %q, %d", want, l, e)
		}
	}
}

// R2: with an error there are no names.
func TestNothingBesideErrors(t *testing.T) {
	for _, s := range []string{"", "a", "/a/", "/a/b/c/d/e/f/g", "/a/b/c/d/e/f/g/H"} {
		if l, e := path.Split(s); len(l) != 0 || e == api.OK {
			t.Errorf("Split(%q): %q, %d", s, l, e)
		}
	}
	if l, name, e := path.Parent(nil); len(l) != 0 || name != "" || e != api.ErrArg {
		t.Errorf("Parent of none: %q, %q, %d", l, name, e)
	}
}

// R3: what is handed in is not changed, its spare room neither.
func TestArgumentsStay(t *testing.T) {
	whole := []string{"a", "b", "c", "d", "e", "f", "g", "h"}
	was := slices.Clone(whole)
	for n := range len(whole) + 1 {
		l := whole[:n]
		path.Join(l)
		path.Below(l, whole[:n/2])
		path.Below(whole[:n/2], l)
		path.Below(l, l)
		above, _, _ := path.Parent(l)
		for i := range above {
			above[i] = "x"
		}
		_ = append(above, "x", "x", "x")
		if !slices.Equal(whole, was) {
			t.Fatalf("of %d names: %q", n, whole)
		}
	}
}

// R3: an answer stays as it is, whatever becomes of what was handed in, and of other answers.
func TestAnswersStay(t *testing.T) {
	bytes := []byte("/abc/defghi/j")
	s := unsafe.String(&bytes[0], len(bytes))
	l, _ := path.Split(s)
	again, _ := path.Split(s)
	handed := []string{s[1:4], s[5:11], s[12:]}
	joined := path.Join(handed)
	one := path.Join(handed[:1])
	above, last, _ := path.Parent(handed)
	next, _, _ := path.Parent(handed)
	for i := range bytes {
		bytes[i] = 'z'
	}
	want := []string{"abc", "defghi", "j"}
	if !slices.Equal(l, want) || joined != "/abc/defghi/j" || one != "/abc" || !slices.Equal(above, want[:2]) || last != "j" {
		t.Errorf("behind a change of what was handed in: %q, %q, %q, %q, %q", l, joined, one, above, last)
	}
	l[0], above[0] = "x", "x"
	_ = append(l[:1], "x", "x")
	_ = append(above[:1], "x", "x")
	if !slices.Equal(again, want) || !slices.Equal(next, want[:2]) || !slices.Equal(handed[2:], []string{s[12:]}) {
		t.Errorf("behind a change of what was answered: %q, %q, %q", again, next, handed)
	}
}

// R3: an answer shares no memory with what was handed in.
func TestAnswersAreNew(t *testing.T) {
	s := "/" + strings.Repeat("a", mostBytes) + "/b/" + strings.Repeat("c", mostBytes)
	l, _ := path.Split(s)
	for _, x := range l {
		if shares(x, s) {
			t.Errorf("Split: %q is of what was handed in", x)
		}
	}
	for n := 1; n <= len(l); n++ {
		joined := path.Join(l[:n])
		above, last, _ := path.Parent(l[:n])
		for _, x := range l {
			if shares(joined, x) || shares(last, x) || slices.ContainsFunc(above, func(y string) bool { return shares(x, y) }) {
				t.Errorf("of %d names: %q is of what was handed in", n, x)
			}
		}
	}
}

// R4: an answer hangs on the arguments, not on what was asked ahead of it.
func TestAnswersHangOnArguments(t *testing.T) {
	for range 3 {
		splits(t, "/a/b", []string{"a", "b"}, api.OK)
		splits(t, "/a/b/", nil, api.ErrName)
		splits(t, "/", nil, api.OK)
		parts(t, []string{"a", "b"}, []string{"a"}, "b", api.OK)
		parts(t, nil, nil, "", api.ErrArg)
		below(t, []string{"a", "b"}, []string{"a"}, true)
	}
}
