package tests

import (
	"math"
	"math/rand"
	"reflect"
	"slices"
	"strings"
	"testing"

	"loop.example/g00278/impl"
)

func zeros(n int) string {
	return strings.Repeat("\x00", n)
}

// farNumbers are no page, owner, kind, size or inode; some of them would be
// one if they were cut to a byte or a pair.
func farNumbers() []int {
	return []int{math.MinInt, math.MinInt + 1, -65536, -256, -255, -249, -1, 256, 257, 258, 261, 265, 65536, 65537, 65568, 65728, 1 << 32, 1<<32 + 1, 1<<32 + 7, math.MaxInt - 1, math.MaxInt}
}

// goodInodes are all InodeOk: every owner, every size, pages up and down, the
// first data page and the last.
func goodInodes() []impl.Inode {
	list := []impl.Inode{{}, {Pages: []int{}}}
	for size := 0; size <= 192; size++ {
		up, down := []int{}, []int{}
		for n := 0; 32*n < size; n++ {
			up = append(up, 5+(n+size)%19)
			down = append(down, 23-n)
		}
		list = append(list, impl.Inode{Kind: 1, Owner: size % 10, Size: size, Pages: up})
		if size%16 == 0 {
			list = append(list, impl.Inode{Kind: 2, Owner: (size / 16) % 10, Size: size, Pages: down})
		}
	}
	return list
}

// wrongInodes are none of them InodeOk, each for one reason.
func wrongInodes() []impl.Inode {
	list := []impl.Inode{
		{Owner: 1}, {Owner: 9}, {Owner: -1}, {Size: 1}, {Size: 16}, {Size: -1}, {Size: 32, Pages: []int{5}}, {Pages: []int{0}}, {Pages: []int{5}}, {Pages: make([]int, 12)},
		{Kind: 3}, {Kind: 3, Size: 32, Pages: []int{5}}, {Kind: -1}, {Kind: 4},
		{Kind: 1, Owner: 10}, {Kind: 2, Owner: 10}, {Kind: 1, Owner: -1}, {Kind: 2, Owner: 255},
		{Kind: 1, Size: 193, Pages: []int{5, 6, 7, 8, 9, 10}}, {Kind: 1, Size: 193, Pages: []int{5, 6, 7, 8, 9, 10, 11}}, {Kind: 2, Size: 208, Pages: []int{5, 6, 7, 8, 9, 10, 11}}, {Kind: 1, Size: 224, Pages: []int{5, 6, 7, 8, 9, 10, 11}},
		{Kind: 1, Size: -1}, {Kind: 2, Size: -16}, {Kind: 1, Size: -32}, {Kind: 1, Size: -1, Pages: []int{5}},
		{Kind: 2, Size: 1, Pages: []int{5}}, {Kind: 2, Size: 8, Pages: []int{5}}, {Kind: 2, Size: 15, Pages: []int{5}}, {Kind: 2, Size: 17, Pages: []int{5}}, {Kind: 2, Size: 40, Pages: []int{5, 6}}, {Kind: 2, Size: 191, Pages: []int{5, 6, 7, 8, 9, 10}},
		{Kind: 1, Size: 1}, {Kind: 1, Size: 33, Pages: []int{5}}, {Kind: 1, Size: 192, Pages: []int{5, 6, 7, 8, 9}}, {Kind: 2, Size: 16},
		{Kind: 1, Pages: []int{5}}, {Kind: 2, Pages: []int{5}}, {Kind: 1, Size: 32, Pages: []int{5, 6}}, {Kind: 1, Size: 192, Pages: []int{5, 6, 7, 8, 9, 10, 11}}, {Kind: 2, Size: 32, Pages: []int{5, 6}},
		{Kind: 1, Size: 40, Pages: []int{7, 7}}, {Kind: 2, Size: 48, Pages: []int{23, 23}}, {Kind: 1, Size: 192, Pages: []int{5, 6, 7, 8, 9, 5}}, {Kind: 1, Size: 96, Pages: []int{5, 6, 6}},
		{Kind: 1, Size: 5, Pages: []int{4}}, {Kind: 1, Size: 5, Pages: []int{24}}, {Kind: 1, Size: 5, Pages: []int{0}}, {Kind: 2, Size: 16, Pages: []int{4}}, {Kind: 2, Size: 48, Pages: []int{5, 24}}, {Kind: 1, Size: 40, Pages: []int{4, 5}},
		{Kind: 1, Size: 32, Pages: slices.Repeat([]int{5}, 5000)}, {Kind: 1, Size: 5000 * 32, Pages: slices.Repeat([]int{5}, 5000)},
	}
	for _, far := range farNumbers() {
		list = append(list,
			impl.Inode{Kind: far}, impl.Inode{Kind: far, Size: 1, Pages: []int{5}},
			impl.Inode{Owner: far}, impl.Inode{Kind: 1, Owner: far}, impl.Inode{Kind: 2, Owner: far},
			impl.Inode{Size: far}, impl.Inode{Kind: 1, Size: far}, impl.Inode{Kind: 2, Size: far}, impl.Inode{Kind: 1, Size: far, Pages: []int{5}}, impl.Inode{Kind: 2, Size: far, Pages: []int{5}},
			impl.Inode{Pages: []int{far}}, impl.Inode{Kind: 1, Size: 1, Pages: []int{far}}, impl.Inode{Kind: 2, Size: 48, Pages: []int{5, far}}, impl.Inode{Kind: far, Owner: far, Size: far, Pages: []int{far, far}})
	}
	return list
}

func sameInode(a impl.Inode, b impl.Inode) bool {
	return a.Kind == b.Kind && a.Owner == b.Owner && a.Size == b.Size && slices.Equal(a.Pages, b.Pages)
}

func wantRecord(n impl.Inode) string {
	s := string([]byte{byte(n.Kind), byte(n.Owner), byte(n.Size % 256), byte(n.Size / 256)})
	for _, page := range n.Pages {
		s += string([]byte{byte(page)})
	}
	return s + zeros(16-len(s))
}

// wantInode goes byte by byte and calls nothing of the program.
func wantInode(s string) (impl.Inode, bool) {
	if s == zeros(16) {
		return impl.Inode{}, true
	}
	if len(s) != 16 || s[0] < 1 || s[0] > 2 || s[1] > 9 || s[2] > 192 || s[3] != 0 || s[0] == 2 && s[2]%16 != 0 {
		return impl.Inode{}, false
	}
	n := impl.Inode{Kind: int(s[0]), Owner: int(s[1]), Size: int(s[2])}
	met := [256]bool{}
	for i := range 12 {
		page := s[4+i]
		needed := 32*i < n.Size
		if !needed && page != 0 || needed && (page < 5 || page > 23 || met[page]) {
			return impl.Inode{}, false
		}
		if needed {
			met[page] = true
			n.Pages = append(n.Pages, int(page))
		}
	}
	return n, true
}

func holdInode(t *testing.T, s string) {
	t.Helper()
	want, wantOk := wantInode(s)
	if got, ok := impl.GetInode(s); ok != wantOk || !sameInode(got, want) {
		t.Fatalf("GetInode(%q) = %v, %v, not %v, %v", s, got, ok, want, wantOk)
	}
}

func TestLayoutSizes(t *testing.T) {
	got := []int{impl.Inodes, impl.RecSize, impl.FirstData, impl.MaxFile, impl.KFree, impl.KFile, impl.KDir, impl.NameSize, impl.Anyone, impl.EntrySize}
	if !slices.Equal(got, []int{8, 16, 5, 192, 0, 1, 2, 14, 9, 16}) {
		t.Errorf("a constant of the layout is another number: %v", got)
	}
}

func TestInodeOk(t *testing.T) {
	for _, n := range goodInodes() {
		if !impl.InodeOk(n) {
			t.Errorf("%v is not InodeOk", n)
		}
	}
	for _, n := range wrongInodes() {
		if impl.InodeOk(n) {
			t.Errorf("%v is InodeOk", n)
		}
	}
}

func TestInodeOkOfEachNumber(t *testing.T) {
	for x := -20; x < 600; x++ {
		for _, size := range []int{0, 32} {
			pages := []int{5}[:size/32]
			if impl.InodeOk(impl.Inode{Kind: 1, Owner: x, Size: size, Pages: pages}) != (x >= 0 && x <= 9) {
				t.Errorf("a file of Owner %d", x)
			}
			if impl.InodeOk(impl.Inode{Kind: x, Owner: 3, Size: size, Pages: pages}) != (x == 1 || x == 2) {
				t.Errorf("an inode of Kind %d", x)
			}
		}
		if impl.InodeOk(impl.Inode{Kind: 1, Size: 64, Pages: []int{10, x}}) != (x >= 5 && x <= 23 && x != 10) {
			t.Errorf("a file with page %d", x)
		}
		for count := range 20 {
			pages := []int{5, 6, 7, 8, 9, 10, 11, 12, 13, 14, 15, 16, 17, 18, 19, 20, 21, 22, 23}[:count]
			fits := x >= 0 && x <= 192 && 32*count >= x && 32*count < x+32
			if impl.InodeOk(impl.Inode{Kind: 1, Owner: 9, Size: x, Pages: pages}) != fits {
				t.Errorf("a file of Size %d with %d pages", x, count)
			}
			if impl.InodeOk(impl.Inode{Kind: 2, Owner: 9, Size: x, Pages: pages}) != (fits && x%16 == 0) {
				t.Errorf("a directory of Size %d with %d pages", x, count)
			}
			if impl.InodeOk(impl.Inode{Size: x, Pages: pages}) != (x == 0 && count == 0) {
				t.Errorf("a free inode of Size %d with %d pages", x, count)
			}
		}
	}
}

func TestPutInode(t *testing.T) {
	for _, n := range goodInodes() {
		if got := impl.PutInode(n); got != wantRecord(n) {
			t.Errorf("PutInode(%v) = %q, not %q", n, got, wantRecord(n))
		}
	}
	for _, n := range wrongInodes() {
		if got := impl.PutInode(n); got != "" {
			t.Errorf("PutInode(%v) = %q, though it is not InodeOk", n, got)
		}
	}
	if got := impl.PutInode(impl.Inode{Kind: impl.KFile, Owner: 3, Size: 40, Pages: []int{7, 5}}); got != "\x01\x03\x28\x00\x07\x05\x00\x00\x00\x00\x00\x00\x00\x00\x00\x00" {
		t.Errorf("a file of two pages: %q", got)
	}
	if impl.PutInode(impl.Inode{}) != zeros(16) {
		t.Error("a free inode is not all zeros")
	}
}

func TestInodesComeBack(t *testing.T) {
	for _, n := range goodInodes() {
		if got, ok := impl.GetInode(impl.PutInode(n)); !ok || !sameInode(got, n) {
			t.Errorf("%v comes back as %v, %v", n, got, ok)
		}
	}
}

// TestNoOtherBytesAreAnInode: of every record, each byte is each other one in
// turn, and each place behind what is needed holds more than zeros.
func TestNoOtherBytesAreAnInode(t *testing.T) {
	for _, n := range goodInodes() {
		s := wantRecord(n)
		for i := range 16 {
			room := []byte(s)
			for b := range 256 {
				room[i] = byte(b)
				holdInode(t, string(room))
			}
		}
		for i := 4 + len(n.Pages); i < 16; i++ {
			for _, more := range []string{"\x01", "\x05", "\x17", "\xff"} {
				if got, ok := impl.GetInode(s[:i] + more + s[i+1:]); ok || !sameInode(got, impl.Inode{}) {
					t.Fatalf("GetInode(%q) with %q at place %d = %v, %v", s, more, i, got, ok)
				}
			}
		}
	}
}

func TestRecordsOfAnyBytes(t *testing.T) {
	r := rand.New(rand.NewSource(3))
	near := []byte{0, 0, 0, 1, 2, 5, 6, 7, 9, 10, 16, 23, 24, 32, 33, 48, 64, 96, 192, 193, 255}
	for range 200000 {
		room := make([]byte, 16)
		for i := range r.Intn(17) {
			room[i] = near[r.Intn(len(near))]
		}
		holdInode(t, string(room))
	}
}

func TestRecordsOfOtherLengths(t *testing.T) {
	for _, n := range goodInodes() {
		s := wantRecord(n)
		for _, x := range []string{"", s[:1], s[:4], s[:15], s[1:], s + "\x00", "\x00" + s, s + s, s + "x", s + zeros(10000)} {
			if got, ok := impl.GetInode(x); ok || !sameInode(got, impl.Inode{}) {
				t.Errorf("GetInode of %d bytes = %v, %v", len(x), got, ok)
			}
		}
	}
	for n := range 100 {
		if _, ok := impl.GetInode(zeros(n)); ok != (n == 16) {
			t.Errorf("%d zeros: %v", n, ok)
		}
	}
}

// goodNames are of 1 byte up to 14, of each kind of byte, and of dots.
func goodNames() []string {
	return []string{"a", "z", "0", "9", "ab.c", "a.", ".a", "..a", "a..", "...", "....", "..............", "abcdefghijklmn", "opqrstuvwxyz01", "23456789.abcde", "0.0", "m"}
}

func wrongNames() []string {
	return []string{
		"", ".", "..", "abcdefghijklmno", "...............", strings.Repeat("a", 100000), "A", "Z", "aB", "a b", " ", "a/", "/", "-", "_", "`", "{", ":", "a\x00", "\x00", "\x00a", "abcdefghijklm\x00", "\x00\x00", "a\n",
		"\xff", "a\xff", "\x80", "\xc3\xa4", "h\u00e4", "\u20ac", "\U0001f600", "\u0661", "\uff41", "\ufffd", "\xe2\x82", "\xae", "a\xae", "\xe1",
	}
}

func wantEntry(e impl.Entry) string {
	return string([]byte{byte(e.Ino), byte(len(e.Name))}) + e.Name + zeros(14-len(e.Name))
}

func isNameByte(b byte) bool {
	return strings.IndexByte("abcdefghijklmnopqrstuvwxyz0123456789.", b) >= 0
}

// readEntry goes byte by byte and calls nothing of the program.
func readEntry(s string) (impl.Entry, bool) {
	if len(s) != 16 || s[0] < 1 || s[0] > 7 || s[1] < 1 || s[1] > 14 {
		return impl.Entry{}, false
	}
	count := int(s[1])
	for i := range 14 {
		if i < count && !isNameByte(s[2+i]) || i >= count && s[2+i] != 0 {
			return impl.Entry{}, false
		}
	}
	name := s[2 : 2+count]
	if name == "." || name == ".." {
		return impl.Entry{}, false
	}
	return impl.Entry{Ino: int(s[0]), Name: name}, true
}

func TestEntryOk(t *testing.T) {
	for ino := -300; ino < 600; ino++ {
		for _, name := range goodNames() {
			if impl.EntryOk(impl.Entry{Ino: ino, Name: name}) != (ino >= 1 && ino <= 7) {
				t.Errorf("the entry %d, %q", ino, name)
			}
		}
		for _, name := range wrongNames() {
			if impl.EntryOk(impl.Entry{Ino: ino, Name: name}) {
				t.Errorf("the entry %d, %q is EntryOk", ino, name)
			}
		}
	}
	for _, far := range farNumbers() {
		if impl.EntryOk(impl.Entry{Ino: far, Name: "a"}) {
			t.Errorf("an entry of Ino %d is EntryOk", far)
		}
	}
}

func TestEntryOkOfEachByte(t *testing.T) {
	for b := range 256 {
		one := string([]byte{byte(b)})
		if got := impl.EntryOk(impl.Entry{Ino: 1, Name: one}); got != (isNameByte(byte(b)) && b != '.') {
			t.Errorf("a name of the byte %d: %v", b, got)
		}
		for i := range 14 {
			name := "abcdefghijklmn"[:i] + one + "abcdefghijklmn"[i+1:]
			if got := impl.EntryOk(impl.Entry{Ino: 7, Name: name}); got != isNameByte(byte(b)) {
				t.Errorf("a name with the byte %d at place %d: %v", b, i, got)
			}
		}
	}
	for n := range 30 {
		if impl.EntryOk(impl.Entry{Ino: 1, Name: strings.Repeat("q", n)}) != (n >= 1 && n <= 14) {
			t.Errorf("a name of %d bytes", n)
		}
		if impl.EntryOk(impl.Entry{Ino: 1, Name: strings.Repeat(".", n)}) != (n >= 3 && n <= 14) {
			t.Errorf("a name of %d dots", n)
		}
	}
}

func TestPutEntry(t *testing.T) {
	for _, ino := range append(farNumbers(), 0, 1, 2, 6, 7, 8, 9, 255) {
		for _, name := range goodNames() {
			e, want := impl.Entry{Ino: ino, Name: name}, ""
			if ino >= 1 && ino <= 7 {
				want = wantEntry(e)
			}
			if got := impl.PutEntry(e); got != want {
				t.Errorf("PutEntry(%v) = %q, not %q", e, got, want)
			}
		}
		for _, name := range wrongNames() {
			if got := impl.PutEntry(impl.Entry{Ino: ino, Name: name}); got != "" {
				t.Errorf("PutEntry(%d, %q) = %q", ino, name, got)
			}
		}
	}
	if got := impl.PutEntry(impl.Entry{Ino: 3, Name: "ab.c"}); got != "\x03\x04ab.c\x00\x00\x00\x00\x00\x00\x00\x00\x00\x00" {
		t.Errorf("an entry: %q", got)
	}
}

func TestEntriesComeBack(t *testing.T) {
	for ino := 1; ino <= 7; ino++ {
		for _, name := range goodNames() {
			e := impl.Entry{Ino: ino, Name: name}
			if got, ok := impl.GetEntry(impl.PutEntry(e)); !ok || got != e {
				t.Errorf("%v comes back as %v, %v", e, got, ok)
			}
		}
	}
}

func TestNoOtherBytesAreAnEntry(t *testing.T) {
	for n, name := range goodNames() {
		s := wantEntry(impl.Entry{Ino: 1 + n%7, Name: name})
		for i := range 16 {
			room := []byte(s)
			for b := range 256 {
				room[i] = byte(b)
				want, wantOk := readEntry(string(room))
				if got, ok := impl.GetEntry(string(room)); ok != wantOk || got != want {
					t.Fatalf("GetEntry(%q) = %v, %v, not %v, %v", room, got, ok, want, wantOk)
				}
			}
		}
		for _, x := range []string{"", s[:1], s[:2], s[:15], s[1:], s + "\x00", "\x00" + s, s + s, s + "a", s + zeros(10000)} {
			if got, ok := impl.GetEntry(x); ok || got != (impl.Entry{}) {
				t.Errorf("GetEntry of %d bytes = %v, %v", len(x), got, ok)
			}
		}
	}
	for _, name := range wrongNames() {
		if len(name) <= 14 {
			s := wantEntry(impl.Entry{Ino: 1, Name: name})
			if got, ok := impl.GetEntry(s); ok || got != (impl.Entry{}) {
				t.Errorf("GetEntry(%q) = %v, %v", s, got, ok)
			}
		}
	}
	if _, ok := impl.GetEntry(zeros(16)); ok {
		t.Error("zeros are an entry")
	}
}

// goodDirs are of 0 .. 7 entries, in many orders.
func goodDirs() [][]impl.Entry {
	r := rand.New(rand.NewSource(33))
	list := [][]impl.Entry{nil, {}}
	for range 60 {
		inos, names := r.Perm(7), r.Perm(len(goodNames()))
		dir := []impl.Entry{}
		for n := range r.Intn(8) {
			dir = append(dir, impl.Entry{Ino: 1 + inos[n], Name: goodNames()[names[n]]})
		}
		list = append(list, dir)
	}
	return append(list, sevenEntries())
}

func sevenEntries() []impl.Entry {
	return []impl.Entry{{Ino: 7, Name: "g"}, {Ino: 1, Name: "a"}, {Ino: 3, Name: "aa"}, {Ino: 2, Name: "..."}, {Ino: 6, Name: "a.a"}, {Ino: 5, Name: "abcdefghijklmn"}, {Ino: 4, Name: "0"}}
}

// manyEntries have an Ino twice where they are more than 7, as they must; no
// Name twice.
func manyEntries(n int) []impl.Entry {
	list := []impl.Entry{}
	for i := range n {
		list = append(list, impl.Entry{Ino: 1 + i%7, Name: "n" + strings.Repeat("x", i%13) + string([]byte{byte('a' + i%26)})})
	}
	return list
}

func wrongDirs() [][]impl.Entry {
	seven := sevenEntries()
	list := [][]impl.Entry{
		{{}}, {{Ino: 1}}, {{Name: "a"}}, {{Ino: 8, Name: "a"}}, {{Ino: 1, Name: "."}}, {{Ino: 1, Name: ".."}}, {{Ino: 1, Name: "abcdefghijklmno"}},
		{{Ino: 1, Name: "a"}, {Ino: 1, Name: "a"}}, {{Ino: 1, Name: "a"}, {Ino: 2, Name: "a"}}, {{Ino: 1, Name: "a"}, {Ino: 1, Name: "b"}},
		{{Ino: 1, Name: "a"}, {}}, {{}, {Ino: 1, Name: "a"}}, {{Ino: 1, Name: "a"}, {Ino: 2, Name: "B"}}, {{Ino: 2, Name: ""}, {Ino: 1, Name: "a"}},
		{{Ino: 1, Name: "a"}, {Ino: 2, Name: "b"}, {Ino: 3, Name: "a"}}, {{Ino: 1, Name: "a"}, {Ino: 2, Name: "b"}, {Ino: 1, Name: "c"}},
		manyEntries(8), manyEntries(11), manyEntries(12), manyEntries(13), manyEntries(14), manyEntries(26), slices.Repeat(seven, 2000),
	}
	for i := range 7 {
		for j := range 7 {
			if i != j {
				name, ino := slices.Clone(seven), slices.Clone(seven)
				name[i].Name, ino[i].Ino = seven[j].Name, seven[j].Ino
				list = append(list, name, ino)
			}
		}
		for _, far := range append(farNumbers(), 0, 8) {
			wrong := slices.Clone(seven)
			wrong[i].Ino = far
			list = append(list, wrong)
		}
		for _, bad := range wrongNames() {
			wrong := slices.Clone(seven)
			wrong[i].Name = bad
			list = append(list, wrong)
		}
	}
	return list
}

func wantDir(list []impl.Entry) string {
	s := ""
	for _, e := range list {
		s += wantEntry(e)
	}
	return s
}

// readDir goes entry by entry and calls nothing of the program.
func readDir(s string) ([]impl.Entry, bool) {
	list, names, inos := []impl.Entry{}, map[string]int{}, map[int]int{}
	for ; s != ""; s = s[16:] {
		e, ok := readEntry(s[:min(16, len(s))])
		if !ok || names[e.Name] > 0 || inos[e.Ino] > 0 {
			return nil, false
		}
		names[e.Name], inos[e.Ino] = 1, 1
		list = append(list, e)
	}
	return list, true
}

func holdDir(t *testing.T, s string) {
	t.Helper()
	want, wantOk := readDir(s)
	if got, ok := impl.GetDir(s); ok != wantOk || !slices.Equal(got, want) {
		t.Fatalf("GetDir(%q) = %v, %v, not %v, %v", s, got, ok, want, wantOk)
	}
}

func TestPutDir(t *testing.T) {
	for _, dir := range goodDirs() {
		if got := impl.PutDir(dir); got != wantDir(dir) {
			t.Errorf("PutDir(%v) = %q", dir, got)
		}
	}
	for _, dir := range wrongDirs() {
		if got := impl.PutDir(dir); got != "" {
			t.Errorf("PutDir of %d entries that are no directory has %d bytes", len(dir), len(got))
		}
	}
}

func TestDirectoriesComeBack(t *testing.T) {
	for _, dir := range goodDirs() {
		if got, ok := impl.GetDir(impl.PutDir(dir)); !ok || !slices.Equal(got, dir) {
			t.Errorf("%v comes back as %v, %v", dir, got, ok)
		}
	}
	if got, ok := impl.GetDir(""); !ok || len(got) != 0 {
		t.Errorf("the empty text as a directory: %v, %v", got, ok)
	}
}

func TestNoOtherBytesAreADirectory(t *testing.T) {
	for _, dir := range goodDirs() {
		s := wantDir(dir)
		holdDir(t, s)
		for i := range len(s) {
			for _, b := range []byte{0, 1, 2, 3, 7, 8, 14, 15, '.', 'a', 'z', 'A', 255, s[i] + 1, s[i] - 1} {
				holdDir(t, s[:i]+string([]byte{b})+s[i+1:])
			}
			holdDir(t, s[:i])
			holdDir(t, s[i:])
		}
		for n := range 40 {
			for _, more := range []string{zeros(n), strings.Repeat("a", n), pattern(1, n)} {
				if n > 0 {
					if got, ok := impl.GetDir(s + more); ok || len(got) != 0 {
						t.Fatalf("GetDir with %d bytes behind = %v, %v", n, got, ok)
					}
				}
				holdDir(t, more+s)
			}
		}
	}
}

func TestTextsThatAreNoDirectory(t *testing.T) {
	for _, n := range []int{1, 2, 7, 8, 9, 11, 12, 13, 14, 26} {
		s := wantDir(manyEntries(n))
		holdDir(t, s)
		if _, ok := impl.GetDir(s); ok != (n <= 7) {
			t.Errorf("a text of %d entries: %v", n, ok)
		}
	}
	a, b, c := wantEntry(impl.Entry{Ino: 1, Name: "a"}), wantEntry(impl.Entry{Ino: 2, Name: "a"}), wantEntry(impl.Entry{Ino: 1, Name: "c"})
	for _, s := range []string{a + a, a + b, b + a, a + c, c + a, a + zeros(16), zeros(16) + a, zeros(16), zeros(192), a[:15], a + "\x00", a + b[:15], "\x00" + a, strings.Repeat(a, 12), strings.Repeat(a, 13), strings.Repeat(a, 10000)} {
		if got, ok := impl.GetDir(s); ok || len(got) != 0 {
			t.Errorf("GetDir of %d bytes that are no directory = %v, %v", len(s), got, ok)
		}
	}
}

func TestRecAt(t *testing.T) {
	for ino, want := range []int{32, 48, 64, 80, 96, 112, 128, 144} {
		if got := impl.RecAt(ino); got != want {
			t.Errorf("RecAt(%d) = %d, not %d", ino, got, want)
		}
	}
	for _, ino := range append(farNumbers(), -2, 8, 9, 16, 255, math.MinInt/16, math.MaxInt/16, math.MaxInt/16+1, 1<<60, 1<<60+1, -1<<60) {
		if got := impl.RecAt(ino); got != -1 {
			t.Errorf("RecAt(%d) = %d", ino, got)
		}
	}
}

// memoryWith has no byte in it that is a zero, but in the record.
func memoryWith(ino int, rec string) string {
	mem := pattern(40, 768)
	at := 32 + 16*ino
	return mem[:at] + rec + mem[at+16:]
}

func wantData(mem string, n impl.Inode) string {
	room := []byte{}
	for i := range n.Size {
		room = append(room, mem[32*n.Pages[i/32]+i%32])
	}
	return string(room)
}

func TestLoad(t *testing.T) {
	for _, n := range goodInodes() {
		for ino := range 8 {
			mem := memoryWith(ino, wantRecord(n))
			want, data := n, wantData(mem, n)
			if n.Kind == 0 {
				want, data = impl.Inode{}, ""
			}
			got, bytes, ok := impl.Load(mem, ino)
			if ok != (n.Kind != 0) || !sameInode(got, want) || bytes != data {
				t.Errorf("Load of inode %d, %v = %v, %q, %v", ino, n, got, bytes, ok)
			}
		}
	}
}

func TestLoadPutsPagesInTheirOrder(t *testing.T) {
	mem := memoryWith(7, "\x01\x08\xc0\x00\x17\x05\x16\x06\x15\x07"+zeros(6))
	_, data, ok := impl.Load(mem, 7)
	want := mem[736:768] + mem[160:192] + mem[704:736] + mem[192:224] + mem[672:704] + mem[224:256]
	if !ok || data != want {
		t.Errorf("a file of six pages: %q, %v", data, ok)
	}
	mem = memoryWith(0, "\x02\x09\x30\x00\x09\x08"+zeros(10))
	if _, data, ok := impl.Load(mem, 0); !ok || data != mem[288:320]+mem[256:272] {
		t.Errorf("a directory of a page and a half: %q, %v", data, ok)
	}
}

func isNothing(n impl.Inode, data string, ok bool) bool {
	return !ok && data == "" && sameInode(n, impl.Inode{})
}

func TestLoadOfNothing(t *testing.T) {
	rec := "\x01\x03\x28\x00\x07\x05" + zeros(10)
	for ino := range 8 {
		mem := memoryWith(ino, rec)
		for other := range 8 {
			if other != ino && !isNothing(impl.Load(mem, other)) {
				t.Errorf("inode %d, whose record is none, is loaded", other)
			}
		}
		for _, far := range append(farNumbers(), -2, 8, 9, 24, 1<<60, 1<<60+ino, math.MinInt/16+ino) {
			if !isNothing(impl.Load(mem, far)) {
				t.Errorf("inode %d is loaded", far)
			}
		}
		for _, wrong := range []string{"", mem[:1], mem[:160], mem[:767], mem[1:], mem + "\x00", "\x00" + mem, mem + mem, strings.Repeat("\x01", 100000)} {
			if !isNothing(impl.Load(wrong, ino)) {
				t.Errorf("inode %d of a memory of %d bytes is loaded", ino, len(wrong))
			}
		}
		for _, bad := range []string{rec[:15] + "\x01", rec[:6] + "\x08" + rec[7:], rec[:5] + "\x07" + rec[6:], rec[:5] + "\x04" + rec[6:], rec[:5] + "\x18" + rec[6:], "\x02" + rec[1:], "\x03" + rec[1:], "\x00" + rec[1:], "\x01\x0a" + rec[2:], rec[:3] + "\x01" + rec[4:], zeros(16), zeros(15) + "\x01", strings.Repeat("\xff", 16)} {
			if !isNothing(impl.Load(memoryWith(ino, bad), ino)) {
				t.Errorf("inode %d with the record %q is loaded", ino, bad)
			}
		}
	}
}

func TestLoadHeedsNothingElse(t *testing.T) {
	n := impl.Inode{Kind: 1, Owner: 2, Size: 70, Pages: []int{23, 5, 11}}
	for _, rest := range []string{zeros(768), pattern(7, 768), strings.Repeat("\xff", 768)} {
		room := []byte(rest)
		copy(room[32+16*4:], wantRecord(n))
		for _, page := range n.Pages {
			copy(room[32*page:], pattern(page, 32))
		}
		if got, data, ok := impl.Load(string(room), 4); !ok || !sameInode(got, n) || data != pattern(23, 32)+pattern(5, 32)+pattern(11, 6) {
			t.Errorf("Load = %v, %q, %v", got, data, ok)
		}
	}
}

func TestLayoutAnswersAreNewMemory(t *testing.T) {
	for _, name := range goodNames() {
		e := impl.Entry{Ino: 5, Name: strings.Clone(name)}
		s := impl.PutEntry(e)
		got, _ := impl.GetEntry(s)
		dir, _ := impl.GetDir(s)
		if sharesMemory(s, e.Name) || sharesMemory(got.Name, s) || sharesMemory(dir[0].Name, s) || sharesMemory(impl.PutDir([]impl.Entry{e}), e.Name) {
			t.Errorf("an answer of %q shares memory with an argument", name)
		}
	}
	mem := memoryWith(3, "\x01\x03\xc0\x00\x05\x06\x07\x08\x09\x0a"+zeros(6))
	n, data, _ := impl.Load(mem, 3)
	if sharesMemory(data, mem) {
		t.Error("what Load answers shares memory with an argument")
	}
	n.Pages[0] = -7
	if again, _, _ := impl.Load(mem, 3); again.Pages[0] != 5 {
		t.Error("a change in one answer of Load shows in another")
	}
	one, _ := impl.GetInode(mem[80:96])
	one.Pages[0] = -7
	if two, _ := impl.GetInode(mem[80:96]); two.Pages[0] != 5 {
		t.Error("a change in one answer of GetInode shows in another")
	}
	first, _ := impl.GetDir(wantDir(sevenEntries()))
	first[0].Name = "changed"
	if second, _ := impl.GetDir(wantDir(sevenEntries())); !slices.Equal(second, sevenEntries()) {
		t.Error("a change in one answer of GetDir shows in another")
	}
}

func TestLayoutWritesIntoNoArgument(t *testing.T) {
	for _, n := range append(goodInodes(), wrongInodes()...) {
		room := append(slices.Clone(n.Pages), 11, 12, 13)
		before := slices.Clone(room)
		given := impl.Inode{Kind: n.Kind, Owner: n.Owner, Size: n.Size, Pages: room[:len(n.Pages)]}
		impl.InodeOk(given)
		impl.PutInode(given)
		if !slices.Equal(room, before) {
			t.Fatalf("the pages of %v, or what is behind them, were written into", n)
		}
	}
	for _, dir := range append(goodDirs(), wrongDirs()...) {
		room := append(slices.Clone(dir), manyEntries(3)...)
		before := slices.Clone(room)
		impl.PutDir(room[:len(dir)])
		if !slices.Equal(room, before) {
			t.Fatalf("a list of %d entries, or what is behind it, was written into", len(dir))
		}
	}
}

func layoutAnswers(s string, i int, n impl.Inode) []any {
	e := impl.Entry{Ino: i, Name: s}
	a, b := impl.GetInode(s)
	c, d := impl.GetEntry(s)
	f, g := impl.GetDir(s)
	h, j, k := impl.Load(s, i)
	return []any{a, b, c, d, f, g, h, j, k, impl.InodeOk(n), impl.PutInode(n), impl.EntryOk(e), impl.PutEntry(e), impl.PutDir([]impl.Entry{e, e, {Ino: 1, Name: "a"}}), impl.RecAt(i)}
}

// TestLayoutAnswersAtAnyArguments: a panic fails the test by itself; the same
// question twice has the same answer.
func TestLayoutAnswersAtAnyArguments(t *testing.T) {
	list := append(memTexts(), zeros(16), zeros(768), strings.Repeat("\xff", 16), strings.Repeat("\xff", 768), strings.Repeat("\x01", 16), strings.Repeat("\x01", 192), strings.Repeat("\x02", 768), pattern(2, 100000))
	for _, s := range list {
		for _, i := range append(places(), farNumbers()...) {
			n := impl.Inode{Kind: i, Owner: i, Size: i, Pages: []int{i, len(s)}}
			if !reflect.DeepEqual(layoutAnswers(s, i, n), layoutAnswers(s, i, n)) {
				t.Errorf("at %d and a text of %d bytes: two answers to one question", i, len(s))
			}
		}
	}
	if impl.PutDir(slices.Repeat([]impl.Entry{{Ino: 1, Name: "a"}}, 1000000)) != "" {
		t.Error("a long list is a directory")
	}
}
