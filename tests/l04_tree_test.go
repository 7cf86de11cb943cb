package tests

import (
	"math/rand"
	"reflect"
	"slices"
	"strconv"
	"strings"
	"testing"

	"loop.example/g00278/impl"
)

const head = "TNR1\x00\x00\x00\x00\x00\x00\x00\x00\x00\x00\x00\x00\x00\x00\x00\x00\x00\x00\x00\x00\x00\x00\x00\x00\x00\x00\x00\x00"

// held is an inode of a memory that a test builds, with the bytes that stand
// in its pages.
type held struct {
	ino   int
	kind  int
	owner int
	data  string
	pages []int
}

func fileOf(ino int, owner int, data string, pages ...int) held {
	return held{ino: ino, kind: 1, owner: owner, data: data, pages: pages}
}

func dirOf(ino int, owner int, list []impl.Entry, pages ...int) held {
	return held{ino: ino, kind: 2, owner: owner, data: wantDir(list), pages: pages}
}

// build lays inodes into a memory whose other pages hold what rest does. It
// asks nothing: what it builds may be as wrong as a test wants it.
func build(rest string, list []held) string {
	room := []byte(head + zeros(128) + rest[160:])
	for _, h := range list {
		copy(room[32+16*h.ino:], wantRecord(impl.Inode{Kind: h.kind, Owner: h.owner, Size: len(h.data), Pages: h.pages}))
		for n, page := range h.pages {
			copy(room[32*page:], h.data[min(32*n, len(h.data)):min(32*n+32, len(h.data))])
		}
	}
	return string(room)
}

func entry(ino int, name string) impl.Entry {
	return impl.Entry{Ino: ino, Name: name}
}

// smallTree is of two files and a directory in inode 0, and one file below.
func smallTree() []held {
	return []held{
		dirOf(0, 9, []impl.Entry{entry(4, "b"), entry(2, "a"), entry(1, "e")}, 5, 9),
		fileOf(1, 0, ""),
		fileOf(2, 3, pattern(2, 40), 8, 7),
		fileOf(3, 8, "x", 23),
		dirOf(4, 8, []impl.Entry{entry(3, "c")}, 6),
	}
}

func allInRoot() []held {
	list := []held{dirOf(0, 4, sevenEntries(), 20, 5, 19, 6)}
	for ino := 1; ino <= 7; ino++ {
		list = append(list, fileOf(ino, ino, pattern(ino, 2*ino), 8+ino))
	}
	return list
}

// chain has each inode of an order below the one ahead of it; the last one is
// a directory without entries, or a file.
func chain(order []int, last held) []held {
	list := []held{}
	for n, ino := range order[:7] {
		list = append(list, dirOf(ino, n, []impl.Entry{entry(order[n+1], "n"+strconv.Itoa(n))}, 5+2*n))
	}
	last.ino = order[7]
	return append(list, last)
}

// goodTrees have the document's edges.
func goodTrees() [][]held {
	return [][]held{
		{dirOf(0, 0, nil)}, {dirOf(0, 8, nil)}, {dirOf(0, 9, nil)},
		smallTree(), allInRoot(),
		chain([]int{0, 1, 2, 3, 4, 5, 6, 7}, fileOf(0, 8, "end", 23)),
		chain([]int{0, 7, 6, 5, 4, 3, 2, 1}, dirOf(0, 8, nil)),
		chain([]int{0, 4, 1, 7, 2, 6, 3, 5}, fileOf(0, 9, "")),
		{dirOf(0, 9, []impl.Entry{entry(7, "most"), entry(1, "none")}, 11), fileOf(7, 0, pattern(9, 192), 23, 5, 22, 6, 21, 7), fileOf(1, 8, "")},
		{dirOf(0, 1, []impl.Entry{entry(1, "a"), entry(2, "a."), entry(3, "a0"), entry(4, "...")}, 5, 6), dirOf(1, 9, []impl.Entry{entry(5, "b"), entry(6, "a"), entry(7, "abcdefghijklmn")}, 7, 8), fileOf(2, 2, "\x00", 9), fileOf(3, 3, "\xff\x0a", 10), dirOf(4, 4, nil), fileOf(5, 5, " \n/", 11), dirOf(6, 6, nil), fileOf(7, 7, "")},
	}
}

// goodMemories have zeros, other bytes, and wrong records in the pages that
// no inode has, and behind what it has of a page.
func goodMemories() []string {
	list := []string{}
	for _, tree := range goodTrees() {
		for _, rest := range []string{zeros(768), pattern(60, 768), strings.Repeat("\xff", 768)} {
			list = append(list, build(rest, tree))
		}
	}
	return list
}

// told is what a memory tells, as the document's sentences say it one by one;
// it calls nothing of the program.
type told struct {
	inodes  [8]impl.Inode
	parent  [8]int
	name    [8]string
	holders [8]int
}

func (w *told) read(mem string) bool {
	if len(mem) != 768 || mem[:32] != head {
		return false
	}
	pages := [24]int{}
	for ino := range 8 {
		n, ok := wantInode(mem[32+16*ino : 48+16*ino])
		if !ok {
			return false
		}
		for _, page := range n.Pages {
			pages[page]++
		}
		w.inodes[ino] = n
	}
	return w.inodes[0].Kind == 2 && slices.Max(pages[:]) <= 1 && w.readDirs(mem)
}

func (w *told) readDirs(mem string) bool {
	for ino, n := range w.inodes {
		if n.Kind != 2 {
			continue
		}
		list, ok := readDir(wantData(mem, n))
		if !ok {
			return false
		}
		for _, e := range list {
			w.holders[e.Ino]++
			w.parent[e.Ino], w.name[e.Ino] = ino, e.Name
		}
	}
	for ino := 1; ino < 8; ino++ {
		free := w.inodes[ino].Kind == 0
		if free && w.holders[ino] != 0 || !free && w.holders[ino] != 1 {
			return false
		}
	}
	return true
}

// path goes up from an inode; more than seven steps lead nowhere.
func (w *told) path(ino int) (string, bool) {
	path := ""
	for range 8 {
		if ino == 0 {
			return "/" + strings.TrimPrefix(path, "/"), true
		}
		path = "/" + w.name[ino] + path
		ino = w.parent[ino]
	}
	return "", false
}

func wantTree(mem string) ([]impl.File, []int, bool) {
	w := told{}
	if !w.read(mem) {
		return nil, nil, false
	}
	files, used := []impl.File{}, []int{}
	for ino, n := range w.inodes {
		path, ok := w.path(ino)
		if n.Kind == 0 {
			continue
		}
		if !ok {
			return nil, nil, false
		}
		f := impl.File{Ino: ino, Path: path, Kind: n.Kind, Owner: n.Owner}
		if n.Kind == 1 {
			f.Data = wantData(mem, n)
		}
		files, used = append(files, f), append(used, n.Pages...)
	}
	slices.Sort(used)
	return files, used, true
}

func wantTreeText(files []impl.File) string {
	if len(files) == 0 {
		return "bad\n"
	}
	byPath, paths, s := map[string]impl.File{}, []string{}, ""
	for _, f := range files {
		byPath[f.Path] = f
		paths = append(paths, f.Path)
	}
	slices.Sort(paths)
	for _, path := range paths {
		f, hex := byPath[path], "-"
		if f.Data != "" {
			hex = ""
		}
		for _, b := range []byte(f.Data) {
			hex += strconv.FormatInt(int64(b>>4), 16) + strconv.FormatInt(int64(b&15), 16)
		}
		s += string("-fd"[f.Kind]) + " " + path + " " + strconv.Itoa(f.Owner) + " " + hex + "\n"
	}
	return s
}

// holdTree asks all functions of a memory; it answers whether that is sound.
func holdTree(t *testing.T, mem string) bool {
	t.Helper()
	files, used, sound := wantTree(mem)
	if got := impl.Sound(mem); got != sound {
		t.Fatalf("Sound = %v of %q", got, mem)
	}
	if got := impl.Files(mem); !slices.Equal(got, files) {
		t.Fatalf("Files = %v, not %v, of %q", got, files, mem)
	}
	if got := impl.Used(mem); !slices.Equal(got, used) {
		t.Fatalf("Used = %v, not %v, of %q", got, used, mem)
	}
	if got := impl.TreeText(mem); got != wantTreeText(files) {
		t.Fatalf("TreeText = %q, not %q", got, wantTreeText(files))
	}
	for _, f := range files {
		if got := impl.Find(mem, f.Path); got != f.Ino {
			t.Fatalf("%q of inode %d is found at %d", f.Path, f.Ino, got)
		}
	}
	if !sound && impl.Find(mem, "/") != -1 {
		t.Fatalf("/ is found in a memory that is not sound")
	}
	return sound
}

func refuseTree(t *testing.T, what string, mem string) {
	t.Helper()
	if impl.Sound(mem) || len(impl.Files(mem)) != 0 || len(impl.Used(mem)) != 0 || impl.TreeText(mem) != "bad\n" || impl.Find(mem, "/") != -1 || impl.Find(mem, "/a") != -1 {
		t.Errorf("%s: taken for a file system", what)
	}
	if holdTree(t, mem) {
		t.Errorf("%s: the test's own reading takes it", what)
	}
}

func TestSoundMemories(t *testing.T) {
	for n, mem := range goodMemories() {
		if !holdTree(t, mem) {
			t.Errorf("memory %d is not sound: %q", n, mem)
		}
	}
}

func TestFilesOfASmallTree(t *testing.T) {
	mem := build(pattern(50, 768), smallTree())
	want := []impl.File{
		{Ino: 0, Path: "/", Kind: 2, Owner: 9},
		{Ino: 1, Path: "/e", Kind: 1, Owner: 0},
		{Ino: 2, Path: "/a", Kind: 1, Owner: 3, Data: pattern(2, 40)},
		{Ino: 3, Path: "/b/c", Kind: 1, Owner: 8, Data: "x"},
		{Ino: 4, Path: "/b", Kind: 2, Owner: 8},
	}
	if got := impl.Files(mem); !slices.Equal(got, want) {
		t.Errorf("Files = %v", got)
	}
	if got := impl.Used(mem); !slices.Equal(got, []int{5, 6, 7, 8, 9, 23}) {
		t.Errorf("Used = %v", got)
	}
	if got, want := impl.TreeText(mem), "d / 9 -\nf /a 3 "+impl.Hex(pattern(2, 40))+"\nd /b 8 -\nf /b/c 8 78\nf /e 0 -\n"; got != want {
		t.Errorf("TreeText = %q, not %q", got, want)
	}
}

// TestTreeTextGoesByBytes: a dot is less than the / of what lies below, a
// digit is more.
func TestTreeTextGoesByBytes(t *testing.T) {
	mem := build(zeros(768), goodTrees()[9])
	want := "d / 1 -\nd /... 4 -\nd /a 9 -\nf /a. 2 00\nd /a/a 6 -\nf /a/abcdefghijklmn 7 -\nf /a/b 5 200a2f\nf /a0 3 ff0a\n"
	if got := impl.TreeText(mem); got != want {
		t.Errorf("TreeText = %q, not %q", got, want)
	}
}

func TestChainsOfAllInodes(t *testing.T) {
	mem := build(zeros(768), chain([]int{0, 7, 6, 5, 4, 3, 2, 1}, fileOf(0, 9, pattern(3, 190), 6, 8, 10, 12, 14, 16)))
	if !holdTree(t, mem) || impl.Find(mem, "/n0/n1/n2/n3/n4/n5/n6") != 1 || impl.Find(mem, "/n0/n1/n2/n3/n4/n5") != 2 {
		t.Errorf("a chain of eight: %q", impl.TreeText(mem))
	}
	if got := impl.Used(mem); !slices.Equal(got, []int{5, 6, 7, 8, 9, 10, 11, 12, 13, 14, 15, 16, 17}) {
		t.Errorf("the pages of a chain: %v", got)
	}
}

func TestAllPagesUsed(t *testing.T) {
	list := []held{dirOf(0, 9, []impl.Entry{entry(1, "a"), entry(2, "b"), entry(3, "c")}, 14, 5), fileOf(1, 1, pattern(1, 192), 6, 7, 8, 9, 10, 11), fileOf(2, 2, pattern(2, 161), 23, 22, 21, 20, 19, 18), fileOf(3, 3, pattern(3, 160), 12, 13, 15, 16, 17)}
	mem := build(zeros(768), list)
	if !holdTree(t, mem) || len(impl.Used(mem)) != 19 {
		t.Errorf("all data pages in use: %v", impl.Used(mem))
	}
}

func TestFind(t *testing.T) {
	mem := build(zeros(768), smallTree())
	for path, want := range map[string]int{"/": 0, "/e": 1, "/a": 2, "/b/c": 3, "/b": 4} {
		if got := impl.Find(mem, path); got != want {
			t.Errorf("Find(%q) = %d, not %d", path, got, want)
		}
	}
	none := []string{"", " ", "//", "///", "a", "b/c", "b", "/a/", "/b/", "/b/c/", "//a", "//b/c", "/b//c", "/./a", "/b/../a", "/.", "/..", "/b/.", "/c", "/b/a", "/a/c", "/A", "/B/c", "/a ", " /a", "/a\x00", "/a\n", "/\x00", "/b/c/c", "/d", "/b/cc", "/bb", "/b/", "c", "\xff", "/\xff", "d / 9 -", strings.Repeat("/b", 50000), strings.Repeat("/", 50000)}
	for _, path := range none {
		if got := impl.Find(mem, path); got != -1 {
			t.Errorf("Find(%q) = %d", path, got)
		}
	}
	for _, path := range append(none, "/", "/a", "/b/c") {
		for _, bad := range []string{"", mem[1:], mem + "\x00", zeros(768), "X" + mem[1:]} {
			if got := impl.Find(bad, path); got != -1 {
				t.Errorf("Find of %q in a memory that is not sound = %d", path, got)
			}
		}
	}
}

// TestEachIsFoundByItsPath is promise 4, asked by the program alone.
func TestEachIsFoundByItsPath(t *testing.T) {
	r := rand.New(rand.NewSource(41))
	list := goodMemories()
	for range 3000 {
		list = append(list, build(pattern(r.Intn(200), 768), randomTree(r)))
	}
	for _, mem := range list {
		if !impl.Sound(mem) {
			t.Fatalf("not sound: %q", mem)
		}
		pages, paths := []int{}, map[string]int{}
		for n, f := range impl.Files(mem) {
			if got := impl.Find(mem, f.Path); got != f.Ino {
				t.Fatalf("%q of inode %d is found at %d", f.Path, f.Ino, got)
			}
			paths[f.Path]++
			if len(paths) != n+1 {
				t.Fatalf("two files have the path %q", f.Path)
			}
			inode, _, _ := impl.Load(mem, f.Ino)
			pages = append(pages, inode.Pages...)
		}
		slices.Sort(pages)
		if !slices.Equal(slices.Compact(slices.Clone(pages)), pages) || !slices.Equal(pages, impl.Used(mem)) {
			t.Fatalf("the pages of all are %v, Used %v", pages, impl.Used(mem))
		}
	}
}

// randomTree is sound: each inode hangs on one that was there ahead of it.
func randomTree(r *rand.Rand) []held {
	free, names := r.Perm(19), r.Perm(len(goodNames()))
	inos := append([]int{0}, shifted(r.Perm(7))...)[:1+r.Intn(8)]
	entries, kinds := [8][]impl.Entry{}, [8]int{2}
	for n, ino := range inos[1:] {
		kinds[ino] = 1 + r.Intn(2)
		dir := inos[r.Intn(n+1)]
		for kinds[dir] != 2 {
			dir = inos[r.Intn(n+1)]
		}
		entries[dir] = append(entries[dir], entry(ino, goodNames()[names[n]]))
	}
	list := []held{}
	for _, ino := range inos {
		h := dirOf(ino, r.Intn(10), entries[ino])
		if kinds[ino] == 1 {
			h = fileOf(ino, r.Intn(10), pattern(r.Intn(250), r.Intn(60)))
		}
		for len(h.pages)*32 < len(h.data) {
			h.pages, free = append(h.pages, 5+free[0]), free[1:]
		}
		list = append(list, h)
	}
	return list
}

func shifted(list []int) []int {
	for n := range list {
		list[n]++
	}
	return list
}

// TestChangedTrees: one to three changes in what is built, most of which leave
// no file system.
func TestChangedTrees(t *testing.T) {
	r := rand.New(rand.NewSource(42))
	count := [2]int{}
	for range 20000 {
		list := randomTree(r)
		for range 1 + r.Intn(3) {
			changeTree(r, list)
		}
		if holdTree(t, build(zeros(768), list)) {
			count[1]++
		} else {
			count[0]++
		}
	}
	if count[0] < 2000 || count[1] < 1000 {
		t.Errorf("too few of one sort to tell: %v", count)
	}
}

func changeTree(r *rand.Rand, list []held) {
	h := &list[r.Intn(len(list))]
	room := []byte(h.data)
	switch r.Intn(6) {
	case 0:
		h.ino = r.Intn(8)
	case 1:
		h.owner = r.Intn(12)
	case 2:
		if len(h.pages) > 0 {
			h.pages[r.Intn(len(h.pages))] = 3 + r.Intn(22)
		}
	case 3:
		if len(room) >= 16 {
			room[16*r.Intn(len(room)/16)] = byte(r.Intn(9))
			h.data = string(room)
		}
	case 4:
		if h.kind == 2 && len(room)%32 == 16 {
			h.data = string(room) + wantEntry(entry(1+r.Intn(7), "new"))
		}
	case 5:
		if len(room) > 0 {
			room[r.Intn(len(room))] = "ab.\x00\x01\x02\xff/"[r.Intn(8)]
			h.data = string(room)
		}
	}
}

// TestAllGraphsOfFour: inode 0 and three others, each free, a file, or a
// directory with any of the three in it, itself too.
func TestAllGraphsOfFour(t *testing.T) {
	sound := 0
	for graph := range 8 * 10 * 10 * 10 {
		list, rest := []held{dirOf(0, 9, someOf(graph%8), pagesOf(0, graph%8)...)}, graph/8
		for ino := 1; ino <= 3; ino++ {
			switch kind := rest % 10; kind {
			case 8:
			case 9:
				list = append(list, fileOf(ino, ino, "f", 20+ino))
			default:
				list = append(list, dirOf(ino, ino, someOf(kind), pagesOf(ino, kind)...))
			}
			rest /= 10
		}
		if holdTree(t, build(zeros(768), list)) {
			sound++
		}
	}
	// Of 0 .. 3 inodes that hang on 0, in every shape, each a directory or,
	// where nothing hangs on it, a file: 1, then 3 of 2, 3 of 8 and 1 of 56.
	if sound != 1+3*2+3*8+56 {
		t.Errorf("%d of all graphs are sound", sound)
	}
}

func someOf(set int) []impl.Entry {
	list := []impl.Entry{}
	for ino := 3; ino >= 1; ino-- {
		if set>>(ino-1)&1 == 1 {
			list = append(list, entry(ino, "n"+strconv.Itoa(ino)))
		}
	}
	return list
}

func pagesOf(ino int, set int) []int {
	pages := []int{5 + 2*ino, 6 + 2*ino}
	return pages[:(len(someOf(set))*16+31)/32]
}

func TestOtherHeads(t *testing.T) {
	for _, tree := range [][]held{{dirOf(0, 9, nil)}, smallTree()} {
		mem := build(zeros(768), tree)
		for i := range 32 {
			for b := range 256 {
				if room := []byte(mem); room[i] != byte(b) {
					room[i] = byte(b)
					refuseTree(t, "a byte "+strconv.Itoa(b)+" at place "+strconv.Itoa(i), string(room))
				}
			}
		}
	}
}

func TestMemoriesOfOtherLengths(t *testing.T) {
	for _, mem := range goodMemories() {
		for _, bad := range []string{"", mem[:1], mem[:32], mem[:160], mem[:760], mem[:767], mem[1:], mem + "\x00", mem + "x", "\x00" + mem, mem + mem, mem + zeros(100000)} {
			refuseTree(t, strconv.Itoa(len(bad))+" bytes", bad)
		}
	}
}

// TestEachByteOfTheRecords: each place of the records and of the directories
// with bytes that may stand there, and some that may not.
func TestEachByteOfTheRecords(t *testing.T) {
	for _, tree := range goodTrees() {
		mem := build(zeros(768), tree)
		for i := 32; i < 768; i++ {
			for _, b := range []byte{0, 1, 2, 3, 4, 5, 6, 7, 8, 9, 10, 14, 15, 16, 17, 23, 24, 32, 33, 48, 112, 192, 193, '.', '/', 'a', 'z', 255} {
				if i >= 160 && b > 9 && b < '.' || mem[i] == b {
					continue
				}
				room := []byte(mem)
				room[i] = b
				if _, _, want := wantTree(string(room)); impl.Sound(string(room)) != want {
					t.Fatalf("a byte %d at place %d of %q: not %v", b, i, mem, want)
				}
			}
		}
	}
}

func TestRecordsThatAreNone(t *testing.T) {
	for ino := range 8 {
		for _, mem := range goodMemories() {
			at := 32 + 16*ino
			for _, rec := range []string{zeros(15) + "\x01", "\x00\x09" + zeros(14), "\x03\x01" + zeros(14), "\x01\x0a" + zeros(14), "\x02\x0a" + zeros(14), "\x01\x01\x01" + zeros(13), "\x02\x01\x08\x00\x05" + zeros(11), "\x01\x01\xc1\x00\x05\x06\x07\x08\x09\x0a\x0b" + zeros(5), "\x01\x01\x01\x00\x04" + zeros(11), "\x01\x01\x01\x00\x18" + zeros(11), strings.Repeat("\xff", 16)} {
				refuseTree(t, "a record that is none", mem[:at]+rec+mem[at+16:])
			}
		}
	}
}

// TestTreesThatAreNone have one fault each, in what is else as good as it was.
func TestTreesThatAreNone(t *testing.T) {
	root := dirOf(0, 9, []impl.Entry{entry(1, "a"), entry(2, "b")}, 5)
	one, two := fileOf(1, 1, "abc", 6), dirOf(2, 2, []impl.Entry{entry(3, "c")}, 7)
	three := fileOf(3, 3, "")
	if !impl.Sound(build(zeros(768), []held{root, one, two, three})) {
		t.Fatal("what is to be changed is not sound")
	}
	for what, list := range map[string][]held{
		"nothing at all":                              {},
		"inode 0 free":                                {one, two, three},
		"inode 0 free, and no other":                  {held{}},
		"inode 0 a file":                              {fileOf(0, 9, wantDir([]impl.Entry{entry(1, "a"), entry(2, "b")}), 5), one, two, three},
		"inode 0 a file of no bytes":                  {fileOf(0, 9, "")},
		"a page of a file and a directory":            {root, fileOf(1, 1, "abc", 7), two, three},
		"a page of a file and inode 0":                {root, fileOf(1, 1, "abc", 5), two, three},
		"a page of two files":                         {root, one, two, fileOf(3, 3, pattern(1, 40), 10, 6)},
		"the last page of two files":                  {root, fileOf(1, 1, pattern(1, 192), 10, 11, 12, 13, 14, 15), two, fileOf(3, 3, pattern(1, 192), 18, 19, 20, 21, 22, 15)},
		"a page twice in one file":                    {root, fileOf(1, 1, pattern(1, 40), 6, 6), two, three},
		"a directory of other bytes":                  {root, one, held{ino: 2, kind: 2, owner: 2, data: pattern(1, 16), pages: []int{7}}, three},
		"a directory of zeros":                        {root, one, held{ino: 2, kind: 2, owner: 2, data: zeros(16), pages: []int{7}}, three},
		"a second entry of zeros":                     {root, one, held{ino: 2, kind: 2, owner: 2, data: wantEntry(entry(3, "c")) + zeros(16), pages: []int{7}}, three},
		"inode 0 of other bytes":                      {held{kind: 2, owner: 9, data: pattern(3, 32), pages: []int{5}}, one, two, three},
		"an entry for inode 0":                        {root, one, dirOf(2, 2, []impl.Entry{entry(3, "c"), entry(0, "d")}, 7), three},
		"an entry for inode 8":                        {root, one, dirOf(2, 2, []impl.Entry{entry(3, "c"), entry(8, "d")}, 7), three},
		"two entries of one name":                     {dirOf(0, 9, []impl.Entry{entry(1, "a"), entry(2, "a")}, 5), one, two, three},
		"two entries of one directory for one":        {dirOf(0, 9, []impl.Entry{entry(1, "a"), entry(2, "b"), entry(1, "c")}, 5, 8), one, two, three},
		"an entry whose inode is free":                {root, one, two},
		"an entry of inode 0 that is free":            {root, two, three},
		"an inode of no entry":                        {root, one, two, three, fileOf(4, 4, "")},
		"a directory of no entry":                     {root, one, two, three, dirOf(7, 4, nil)},
		"a directory of no entry with a file":         {root, one, two, three, dirOf(5, 4, []impl.Entry{entry(4, "x")}, 9), fileOf(4, 4, "")},
		"a directory of no entry with another's file": {root, one, two, three, dirOf(4, 4, []impl.Entry{entry(1, "a")}, 9)},
		"a file that two directories have":            {root, one, dirOf(2, 2, []impl.Entry{entry(3, "c"), entry(1, "a")}, 7), three},
		"a file that two below have":                  {root, dirOf(1, 1, []impl.Entry{entry(3, "c")}, 6), two, three},
		"a directory that two have":                   {dirOf(0, 9, []impl.Entry{entry(1, "a"), entry(2, "b"), entry(3, "c")}, 5, 8), one, two, dirOf(3, 3, nil)},
		"one that has itself, of no other":            {root, one, two, three, dirOf(4, 4, []impl.Entry{entry(4, "d")}, 9)},
		"one that has itself, and is found":           {root, one, dirOf(2, 2, []impl.Entry{entry(2, "b")}, 7)},
		"one that has itself, found, and a file":      {root, one, dirOf(2, 2, []impl.Entry{entry(3, "c"), entry(2, "b")}, 7), three},
		"two that have each other, of no other":       {root, one, two, three, dirOf(4, 4, []impl.Entry{entry(5, "x")}, 9), dirOf(5, 4, []impl.Entry{entry(4, "x")}, 10)},
		"two that have each other, one found":         {root, one, two, dirOf(3, 3, []impl.Entry{entry(2, "b")}, 8)},
		"three in a ring, of no other":                {root, one, two, three, dirOf(4, 4, []impl.Entry{entry(5, "x")}, 9), dirOf(5, 4, []impl.Entry{entry(6, "x")}, 10), dirOf(6, 4, []impl.Entry{entry(4, "x")}, 11)},
		"a ring of all but inode 0":                   append([]held{dirOf(0, 9, nil)}, ringOfSeven()...),
		"a ring of all but inode 0, found":            append([]held{dirOf(0, 9, []impl.Entry{entry(3, "x")}, 23)}, ringOfSeven()...),
	} {
		for _, rest := range []string{zeros(768), pattern(70, 768)} {
			refuseTree(t, what, build(rest, list))
		}
	}
}

func ringOfSeven() []held {
	list := []held{}
	for ino := 1; ino <= 7; ino++ {
		list = append(list, dirOf(ino, 1, []impl.Entry{entry(1+ino%7, "next")}, 6+ino))
	}
	return list
}

// TestManyWaysEnd: each directory has all those of greater Ino, so that there
// are many ways to the last one, or all have all.
func TestManyWaysEnd(t *testing.T) {
	list, page := []held{}, 5
	for ino := range 8 {
		entries := manyEntries(7)[ino:]
		h := dirOf(ino, 9, entries)
		for 32*len(h.pages) < len(h.data) {
			h.pages, page = append(h.pages, page), page+1
		}
		list = append(list, h)
	}
	refuseTree(t, "each has all behind it", build(zeros(768), list))
	for ino := range list {
		list[ino] = dirOf(ino, 9, sevenEntries(), 5, 6, 7, 8)
	}
	refuseTree(t, "all have all", build(zeros(768), list))
}

func TestFormat(t *testing.T) {
	for owner := -300; owner < 600; owner++ {
		want := ""
		if owner >= 0 && owner <= 9 {
			want = head + "\x02" + string([]byte{byte(owner)}) + zeros(734)
		}
		got := impl.Format(owner)
		if got != want {
			t.Errorf("Format(%d) = %q", owner, got)
		}
		if want != "" && (!holdTree(t, got) || impl.TreeText(got) != "d / "+strconv.Itoa(owner)+" -\n" || len(impl.Used(got)) != 0) {
			t.Errorf("Format(%d) tells %q", owner, impl.TreeText(got))
		}
	}
	for _, far := range farNumbers() {
		if got := impl.Format(far); got != "" {
			t.Errorf("Format(%d) = %q", far, got)
		}
	}
}

func TestTreeAnswersAreNewMemory(t *testing.T) {
	for _, tree := range goodTrees() {
		mem := build(zeros(768), tree)
		files := impl.Files(mem)
		for n, f := range files {
			if sharesMemory(f.Path, mem) || sharesMemory(f.Data, mem) || sharesMemory(impl.TreeText(mem), mem) {
				t.Errorf("an answer for %q shares memory with an argument", f.Path)
			}
			files[n] = impl.File{Ino: -7, Path: "changed"}
		}
		used := impl.Used(mem)
		for n := range used {
			used[n] = -7
		}
		holdTree(t, mem)
	}
}

func treeAnswers(mem string, path string, owner int) []any {
	return []any{impl.Sound(mem), impl.Files(mem), impl.Find(mem, path), impl.Used(mem), impl.Format(owner), impl.TreeText(mem)}
}

// TestTreeAnswersAtAnyArguments: a panic fails the test by itself; the same
// question twice has the same answer.
func TestTreeAnswersAtAnyArguments(t *testing.T) {
	list := append(memTexts(), zeros(768), strings.Repeat("\xff", 768), pattern(2, 768), head+pattern(2, 736), head+zeros(736), pattern(2, 100000))
	list = append(list, goodMemories()...)
	for n, mem := range list {
		for _, path := range append(texts(), "/", "/a", mem) {
			owner := append(places(), farNumbers()...)[n%20]
			if !reflect.DeepEqual(treeAnswers(mem, path, owner), treeAnswers(mem, path, owner)) {
				t.Errorf("two answers to one question, at %q", path)
			}
		}
	}
	r := rand.New(rand.NewSource(43))
	for range 20000 {
		room := []byte(head + zeros(736))
		for range r.Intn(40) {
			room[32+r.Intn(256)] = byte(r.Intn(12))
		}
		holdTree(t, string(room))
	}
}
