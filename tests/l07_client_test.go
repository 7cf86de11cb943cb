package tests

import (
	"math"
	"math/rand"
	"reflect"
	"slices"
	"strconv"
	"strings"
	"testing"

	"loop.example/g00278/impl"
)

// The want functions of this file are what the document says of a client,
// sentence by sentence; they call nothing of the program.

func wantPuts(mem string, list []impl.Put) string {
	room := []byte(mem)
	for _, p := range list {
		if allLieIn(mem, p.At, len(p.Bytes)) {
			copy(room[p.At:], p.Bytes)
		}
	}
	return string(room)
}

// wantWritten has so many of the pages as are needed, and then the record.
func wantWritten(ino int, n impl.Inode, pages []int, data string) ([]impl.Put, bool) {
	count := (len(data) + 31) / 32
	if len(data) > 192 || count > len(pages) {
		return nil, false
	}
	list, text := []impl.Put{}, data+zeros(31)
	for i, page := range pages[:count] {
		list = append(list, impl.Put{At: 32 * page, Bytes: text[32*i : 32*i+32]})
	}
	rec := wantRecord(impl.Inode{Kind: n.Kind, Owner: n.Owner, Size: len(data), Pages: pages[:count]})
	return append(list, impl.Put{At: 32 + 16*ino, Bytes: rec}), true
}

// wantStanding is the record of an inode where all is as the chapter wants it.
func wantStanding(l impl.Loan, mem string, ino int, kind int) (impl.Inode, bool) {
	if _, ok := wantLoan(l); !ok || len(mem) != 768 || ino < 0 || ino > 7 {
		return impl.Inode{}, false
	}
	n, ok := wantInode(mem[32+16*ino : 48+16*ino])
	return n, ok && n.Kind == kind
}

// hasPage asks of the records that are one alone.
func hasPage(mem string, inos []int, page int) bool {
	for _, ino := range inos {
		if n, ok := wantInode(mem[32+16*ino : 48+16*ino]); ok && slices.Contains(n.Pages, page) {
			return true
		}
	}
	return false
}

func wantPutFile(l impl.Loan, mem string, data string) ([]impl.Put, bool) {
	n, ok := wantStanding(l, mem, l.Ino, 1)
	if !ok {
		return nil, false
	}
	pages := slices.Clone(n.Pages)
	for _, page := range slices.Concat(l.Pages, l.Pool) {
		if !slices.Contains(n.Pages, page) {
			pages = append(pages, page)
		}
	}
	return wantWritten(l.Ino, n, pages, data)
}

func isDirList(list []impl.Entry) bool {
	for _, e := range list {
		if e.Ino < 1 || e.Ino > 7 || len(e.Name) < 1 || len(e.Name) > 14 {
			return false
		}
	}
	_, ok := readDir(wantDir(list))
	return ok && len(list) <= 12
}

func wantPutNames(l impl.Loan, mem string, list []impl.Entry) ([]impl.Put, bool) {
	n, ok := wantStanding(l, mem, l.Ino, 2)
	if !ok || !isDirList(list) {
		return nil, false
	}
	pages := slices.Clone(n.Pages)
	for _, page := range slices.Concat(l.Pages, l.Pool) {
		if !slices.Contains(n.Pages, page) && !hasPage(mem, l.Fresh, page) {
			pages = append(pages, page)
		}
	}
	return wantWritten(l.Ino, n, pages, wantDir(list))
}

func wantNames(l impl.Loan, mem string) ([]impl.Entry, bool) {
	if len(mem) != 768 || l.Ino < 0 || l.Ino > 7 {
		return nil, false
	}
	n, ok := wantInode(mem[32+16*l.Ino : 48+16*l.Ino])
	if !ok || n.Kind != 2 {
		return nil, false
	}
	return readDir(wantData(mem, n))
}

func wantMake(l impl.Loan, mem string, name string, kind int) ([]impl.Put, int, bool) {
	list, ok := wantNames(l, mem)
	if !ok || kind != 1 && kind != 2 {
		return nil, 0, false
	}
	for _, ino := range l.Fresh {
		if slices.ContainsFunc(list, func(e impl.Entry) bool { return e.Ino == ino }) {
			continue
		}
		puts, ok := wantPutNames(l, mem, append(list, entry(ino, name)))
		if !ok {
			return nil, 0, false
		}
		rec := string([]byte{byte(kind), byte(l.Client)}) + zeros(14)
		return append([]impl.Put{{At: 32 + 16*ino, Bytes: rec}}, puts...), ino, true
	}
	return nil, 0, false
}

func wantRemove(l impl.Loan, mem string, name string) ([]impl.Put, bool) {
	list, _ := wantNames(l, mem)
	at := slices.IndexFunc(list, func(e impl.Entry) bool { return e.Name == name })
	if at < 0 {
		return nil, false
	}
	return wantPutNames(l, mem, slices.Delete(list, at, at+1))
}

func wantFill(l impl.Loan, mem string, ino int, data string) ([]impl.Put, bool) {
	n, ok := wantStanding(l, mem, ino, 1)
	if !ok || !slices.Contains(l.Fresh, ino) {
		return nil, false
	}
	others := []int{l.Ino}
	for _, fresh := range l.Fresh {
		if fresh != ino {
			others = append(others, fresh)
		}
	}
	pages := slices.Clone(n.Pages)
	for _, page := range l.Pool {
		if !slices.Contains(n.Pages, page) && !hasPage(mem, others, page) {
			pages = append(pages, page)
		}
	}
	return wantWritten(ino, n, pages, data)
}

// wish is what a client asks for.
type wish struct {
	data string
	list []impl.Entry
	name string
	kind int
	ino  int
}

// holdWish asks all functions for it; it tells which were true, in the order
// of the document.
func holdWish(t *testing.T, l impl.Loan, mem string, w wish) [6]bool {
	t.Helper()
	told := [6]bool{}
	hold := func(n int, what string, got []impl.Put, ok bool, want []impl.Put, wantOk bool) {
		t.Helper()
		told[n] = ok
		if ok != wantOk || !slices.Equal(got, want) {
			t.Fatalf("%s = %v, %v, not %v, %v, for %+v of %+v in %q", what, got, ok, want, wantOk, w, l, mem)
		}
	}
	got, ok := impl.PutFile(l, mem, w.data)
	want, wantOk := wantPutFile(l, mem, w.data)
	hold(0, "PutFile", got, ok, want, wantOk)
	got, ok = impl.PutNames(l, mem, w.list)
	want, wantOk = wantPutNames(l, mem, w.list)
	hold(1, "PutNames", got, ok, want, wantOk)
	got, ino, ok := impl.Make(l, mem, w.name, w.kind)
	want, wantIno, wantOk := wantMake(l, mem, w.name, w.kind)
	hold(2, "Make", got, ok, want, wantOk)
	if ino != wantIno {
		t.Fatalf("Make of inode %d, not %d, for %+v of %+v in %q", ino, wantIno, w, l, mem)
	}
	got, ok = impl.Remove(l, mem, w.name)
	want, wantOk = wantRemove(l, mem, w.name)
	hold(3, "Remove", got, ok, want, wantOk)
	names, ok := impl.Names(l, mem)
	wantList, wantOk := wantNames(l, mem)
	if told[4] = ok; ok != wantOk || !slices.Equal(names, wantList) {
		t.Fatalf("Names = %v, %v, not %v, %v, of %+v in %q", names, ok, wantList, wantOk, l, mem)
	}
	got, ok = impl.Fill(l, mem, w.ino, w.data)
	want, wantOk = wantFill(l, mem, w.ino, w.data)
	hold(5, "Fill", got, ok, want, wantOk)
	return told
}

// refuseWish asks that nothing is told but what Names tells.
func refuseWish(t *testing.T, what string, l impl.Loan, mem string, w wish) {
	t.Helper()
	told := holdWish(t, l, mem, w)
	told[4] = false
	if told != [6]bool{} {
		t.Errorf("%s: told are %v", what, told)
	}
}

// holdTaken is promise 7 for what was told: it lies within the loan, and is
// taken. It answers the memory behind it.
func holdTaken(t *testing.T, what string, l impl.Loan, mem string, list []impl.Put, ok bool) string {
	t.Helper()
	if !ok || len(list) == 0 {
		t.Fatalf("%s: nothing is told", what)
	}
	for _, p := range list {
		if !impl.Within(l, p.At, len(p.Bytes)) {
			t.Fatalf("%s: %d bytes at %d do not lie within %+v", what, len(p.Bytes), p.At, l)
		}
	}
	now := impl.Puts(mem, list)
	if now != wantPuts(mem, list) {
		t.Fatalf("%s: Puts = %q", what, now)
	}
	if !impl.Verdict(now, l) {
		t.Fatalf("%s: not taken is %v, of %+v", what, list, l)
	}
	return now
}

func holdData(t *testing.T, what string, mem string, ino int, want impl.Inode, data string) {
	t.Helper()
	want.Size = len(data)
	if n, got, ok := impl.Load(mem, ino); !ok || got != data || n.Size != want.Size || n.Kind != want.Kind || n.Owner != want.Owner {
		t.Fatalf("%s: inode %d is %v with %q, not %v with %q", what, ino, n, got, want, data)
	}
}

func holdNames(t *testing.T, what string, l impl.Loan, mem string, want []impl.Entry) {
	t.Helper()
	if got, ok := impl.Names(l, mem); !ok || !slices.Equal(got, want) {
		t.Fatalf("%s: the names are %v, %v, not %v", what, got, ok, want)
	}
}

// lentIn is a loan of what a test builds, and the memory that it was lent in.
func lentIn(h held, client int, pool []int, fresh []int) (impl.Loan, string) {
	return lentOf(h, client, 5, "\x00", pool, fresh), build(zeros(768), []held{h})
}

func putsOf(list ...any) []impl.Put {
	puts := []impl.Put{}
	for n := 0; n < len(list); n += 2 {
		puts = append(puts, impl.Put{At: list[n].(int), Bytes: list[n+1].(string)})
	}
	return puts
}

func TestPuts(t *testing.T) {
	for _, c := range []struct {
		mem  string
		list []impl.Put
		want string
	}{
		{"abcdef", nil, "abcdef"},
		{"abcdef", putsOf(1, "XY"), "aXYdef"},
		{"abcdef", putsOf(0, "XY", 1, "12"), "X12def"},
		{"abcdef", putsOf(1, "12", 0, "XY"), "XY2def"},
		{"abcdef", putsOf(5, "XY", 6, "", 4, "12", -1, "z", 6, "z"), "abcd12"},
		{"abcdef", putsOf(0, "abcdefg", 0, "ABCDEF"), "ABCDEF"},
		{"", putsOf(0, "", 0, "a", 1, ""), ""},
		{"ab", putsOf(math.MaxInt, "x", math.MinInt, "x", math.MaxInt-1, "xyz", -1, "ab", 1, "\xff"), "a\xff"},
	} {
		if got := impl.Puts(c.mem, c.list); got != c.want {
			t.Errorf("Puts(%q, %v) = %q", c.mem, c.list, got)
		}
	}
}

func TestPutsOfAnyPlaces(t *testing.T) {
	r := rand.New(rand.NewSource(71))
	strange := memTexts()
	far := memPlaces()
	for range 3000 {
		mem := strange[r.Intn(len(strange))]
		list := []impl.Put{}
		for range r.Intn(6) {
			p := impl.Put{At: r.Intn(40), Bytes: pattern(r.Intn(250), r.Intn(20))}
			if r.Intn(4) == 0 {
				p = impl.Put{At: far[r.Intn(len(far))], Bytes: strange[r.Intn(len(strange))]}
			}
			list = append(list, p)
		}
		if got := impl.Puts(mem, list); got != wantPuts(mem, list) {
			t.Fatalf("Puts(%q, %v) = %q", mem, list, got)
		}
	}
	many := slices.Repeat(putsOf(3, "a", 2, "bc", 9, "z"), 3000)
	if got := impl.Puts("012345", many); got != "01bc45" {
		t.Errorf("many puts: %q", got)
	}
}

// TestPutFile is of a file whose record has its pages in another order than
// the loan, and one of the pool.
func TestPutFile(t *testing.T) {
	l := lentOf(fileOf(1, 3, pattern(5, 70), 9, 6, 12), 4, 5, "\x00", []int{7, 10}, nil)
	mem := build(pattern(60, 768), []held{fileOf(1, 3, pattern(6, 70), 12, 7, 9)})
	data := pattern(8, 160)
	rec := func(size int, pages string) string {
		return "\x01\x03" + string([]byte{byte(size), 0}) + pages + zeros(12-len(pages))
	}
	for size, want := range map[int][]impl.Put{
		0:   putsOf(48, rec(0, "")),
		1:   putsOf(384, data[:1]+zeros(31), 48, rec(1, "\x0c")),
		31:  putsOf(384, data[:31]+"\x00", 48, rec(31, "\x0c")),
		32:  putsOf(384, data[:32], 48, rec(32, "\x0c")),
		33:  putsOf(384, data[:32], 224, data[32:33]+zeros(31), 48, rec(33, "\x0c\x07")),
		97:  putsOf(384, data[:32], 224, data[32:64], 288, data[64:96], 192, data[96:97]+zeros(31), 48, rec(97, "\x0c\x07\x09\x06")),
		160: putsOf(384, data[:32], 224, data[32:64], 288, data[64:96], 192, data[96:128], 320, data[128:], 48, rec(160, "\x0c\x07\x09\x06\x0a")),
	} {
		got, ok := impl.PutFile(l, mem, data[:size])
		if !ok || !slices.Equal(got, want) {
			t.Errorf("PutFile of %d bytes = %v, %v", size, got, ok)
		}
		now := holdTaken(t, "PutFile", l, mem, got, ok)
		holdData(t, "PutFile", now, 1, impl.Inode{Kind: 1, Owner: 3}, data[:size])
	}
	if got, ok := impl.PutFile(l, mem, pattern(8, 161)); ok || len(got) != 0 {
		t.Errorf("a sixth page: %v", got)
	}
}

// TestPutFileOfEachSize: as many pages as there are hold so many bytes, and
// not one more; beyond MaxFile there is no file.
func TestPutFileOfEachSize(t *testing.T) {
	pages, pool := []int{23, 5, 22, 6, 21, 7}, []int{8, 9, 19, 20}
	for own := range 7 {
		for more := range 5 {
			l, mem := lentIn(fileOf(7, 9, pattern(1, 32*own), pages[:own]...), 8, pool[:more], nil)
			most := min(192, 32*(own+more))
			for size := range 260 {
				data := pattern(size, size)
				list, ok := impl.PutFile(l, mem, data)
				if ok != (size <= most) {
					t.Fatalf("%d bytes into %d pages and %d: %v", size, own, more, ok)
				}
				holdWish(t, l, mem, wish{data: data})
				if ok {
					now := holdTaken(t, "PutFile", l, mem, list, ok)
					holdData(t, "PutFile", now, 7, impl.Inode{Kind: 1, Owner: 9}, data)
				}
			}
			refuseWish(t, "very many bytes", l, mem, wish{data: zeros(100000)})
		}
	}
}

// TestPutFileKeepsWhoseItIs: Kind and Owner are those of the record as it
// stands, whatever the loan tells.
func TestPutFileKeepsWhoseItIs(t *testing.T) {
	for owner := range 10 {
		l, mem := lentIn(fileOf(2, owner, "abc", 6), owner%9, []int{7, 8}, nil)
		list, ok := impl.PutFile(l, mem, pattern(3, 64))
		now := holdTaken(t, "PutFile", l, mem, list, ok)
		holdData(t, "PutFile", now, 2, impl.Inode{Kind: 1, Owner: owner}, pattern(3, 64))
		other := build(zeros(768), []held{fileOf(2, 9-owner, "")})
		if list, ok := impl.PutFile(l, other, "x"); !ok || list[1].Bytes != wantRecord(impl.Inode{Kind: 1, Owner: 9 - owner, Size: 1, Pages: []int{6}}) {
			t.Errorf("PutFile in a memory of another owner: %v, %v", list, ok)
		}
	}
}

// TestPutFileAgainAndAgain: from one size to each other one.
func TestPutFileAgainAndAgain(t *testing.T) {
	l, mem := lentIn(fileOf(3, 2, pattern(1, 40), 11, 9), 2, []int{5, 10, 12, 20}, nil)
	for from := 0; from <= 192; from += 8 {
		for to := 0; to <= 192; to += 8 {
			list, ok := impl.PutFile(l, mem, pattern(7, from))
			mem = holdTaken(t, "PutFile", l, mem, list, ok)
			list, ok = impl.PutFile(l, mem, pattern(8, to))
			mem = holdTaken(t, "PutFile", l, mem, list, ok)
			holdData(t, "PutFile", mem, 3, impl.Inode{Kind: 1, Owner: 2}, pattern(8, to))
		}
	}
}

// TestRecordsThatAreNotTheKind: none, free, and of the other kind.
func TestRecordsThatAreNotTheKind(t *testing.T) {
	file, _ := lentIn(fileOf(1, 3, "abc", 6), 3, []int{7, 8}, nil)
	dir, _ := lentIn(dirOf(1, 3, []impl.Entry{entry(2, "a")}, 6), 3, []int{7, 8}, []int{4, 5})
	for what, h := range map[string]held{
		"free":                     {ino: 1},
		"kind 3":                   {ino: 1, kind: 3, owner: 3},
		"kind 255":                 {ino: 1, kind: 255},
		"owner 10":                 {ino: 1, kind: 1, owner: 10},
		"a free one with an owner": {ino: 1, owner: 3},
		"a page too few":           {ino: 1, kind: 1, owner: 3, data: "x"},
		"a page too many":          {ino: 1, kind: 1, owner: 3, pages: []int{6}},
		"a page twice":             {ino: 1, kind: 1, owner: 3, data: pattern(1, 40), pages: []int{6, 6}},
		"page 4":                   {ino: 1, kind: 1, owner: 3, data: "x", pages: []int{4}},
		"page 24":                  {ino: 1, kind: 1, owner: 3, data: "x", pages: []int{24}},
		"half an entry":            {ino: 1, kind: 2, owner: 3, data: "12345678", pages: []int{6}},
	} {
		rec := wantRecord(impl.Inode{Kind: h.kind, Owner: h.owner, Size: len(h.data), Pages: h.pages})
		mem := impl.With(build(zeros(768), []held{fileOf(4, 3, "")}), 48, rec)
		for _, l := range []impl.Loan{file, dir} {
			for _, list := range [][]impl.Entry{nil, {entry(2, "a")}} {
				w := wish{data: "x", list: list, name: "a", kind: 1}
				refuseWish(t, what, l, mem, w)
				if _, ok := impl.Names(l, mem); ok {
					t.Errorf("%s: there are names", what)
				}
			}
		}
	}
	mem := build(zeros(768), []held{dirOf(1, 3, []impl.Entry{entry(2, "a")}, 6)})
	for _, data := range []string{"", "x", wantEntry(entry(2, "a"))} {
		if list, ok := impl.PutFile(dir, mem, data); ok || len(list) != 0 {
			t.Errorf("a directory is written as a file: %v", list)
		}
	}
	mem = build(zeros(768), []held{fileOf(1, 3, wantEntry(entry(2, "a")), 6)})
	refuseWish(t, "a file's names", file, mem, wish{data: zeros(193), list: []impl.Entry{entry(2, "a")}, name: "a", kind: 1})
	refuseWish(t, "a file without names", file, mem, wish{data: zeros(193), name: "b", kind: 2})
	if list, ok := impl.Names(file, mem); ok || len(list) != 0 {
		t.Errorf("a file has names: %v", list)
	}
}

// TestPutNames is of a directory that grows: its record has a page of the pool,
// and a new file has another one.
func TestPutNames(t *testing.T) {
	three := []impl.Entry{entry(3, "c"), entry(2, "b"), entry(6, "f")}
	l := lentOf(dirOf(1, 9, three, 9, 6), 2, 5, "\x00", []int{7, 10, 11, 12}, []int{4, 5})
	mem := build(pattern(60, 768), []held{dirOf(1, 9, three[:2], 11), fileOf(4, 2, pattern(1, 40), 12, 7), fileOf(5, 2, "")})
	list := []impl.Entry{three[1], entry(4, "new"), three[0], entry(5, "newer"), three[2], entry(7, "g"), entry(1, "a")}
	data := wantDir(list)
	rec := func(size int, pages string) string {
		return "\x02\x09" + string([]byte{byte(size), 0}) + pages + zeros(12-len(pages))
	}
	for count, want := range [][]impl.Put{
		putsOf(48, rec(0, "")),
		putsOf(352, data[:16]+zeros(16), 48, rec(16, "\x0b")),
		putsOf(352, data[:32], 48, rec(32, "\x0b")),
		putsOf(352, data[:32], 288, data[32:48]+zeros(16), 48, rec(48, "\x0b\x09")),
		putsOf(352, data[:32], 288, data[32:64], 48, rec(64, "\x0b\x09")),
		putsOf(352, data[:32], 288, data[32:64], 192, data[64:80]+zeros(16), 48, rec(80, "\x0b\x09\x06")),
		putsOf(352, data[:32], 288, data[32:64], 192, data[64:96], 48, rec(96, "\x0b\x09\x06")),
		putsOf(352, data[:32], 288, data[32:64], 192, data[64:96], 320, data[96:]+zeros(16), 48, rec(112, "\x0b\x09\x06\x0a")),
	} {
		got, ok := impl.PutNames(l, mem, list[:count])
		if !ok || !slices.Equal(got, want) {
			t.Errorf("PutNames of %d entries = %v, %v", count, got, ok)
		}
		if count > 5 {
			continue // the entries behind these are of inodes that were not lent
		}
		now := holdTaken(t, "PutNames", l, mem, got, ok)
		holdNames(t, "PutNames", l, now, list[:count])
		holdData(t, "PutNames", now, 4, impl.Inode{Kind: 1, Owner: 2}, pattern(1, 40))
	}
	mem = build(pattern(60, 768), []held{dirOf(1, 9, three[:2], 11), fileOf(4, 2, pattern(1, 40), 12, 7), fileOf(5, 2, "x", 10)})
	if got, ok := impl.PutNames(l, mem, list[:6]); !ok || len(got) != 4 {
		t.Errorf("PutNames of 6 entries = %v, %v", got, ok)
	}
	if got, ok := impl.PutNames(l, mem, list); ok || len(got) != 0 {
		t.Errorf("a page of a new file is taken: %v", got)
	}
}

// TestPutNamesOfNoRoom: as many pages as are needed, and one too few.
func TestPutNamesOfNoRoom(t *testing.T) {
	list := sevenEntries()
	for own := range 5 {
		for more := range 5 {
			for taken := range more + 1 {
				l, mem := lentIn(dirOf(0, 9, list[:2*own-own/4], []int{20, 5, 19, 6}[:own]...), 4, []int{7, 8, 9, 10}[:more], []int{1, 7})
				mem = impl.With(mem, impl.RecAt(7), wantRecord(impl.Inode{Kind: 1, Owner: 4, Size: 32 * taken, Pages: []int{7, 8, 9, 10}[more-taken : more]}))
				for count := range 8 {
					got, ok := impl.PutNames(l, mem, list[:count])
					if ok != ((count+1)/2 <= own+more-taken) || !ok && len(got) != 0 {
						t.Errorf("%d entries into %d pages and %d, of which %d are taken: %v", count, own, more, taken, got)
					}
					holdWish(t, l, mem, wish{list: list[:count]})
				}
			}
		}
	}
}

// TestPutNamesOfFreshThatAreNone: a record that is none has no pages, one that
// no entry names has; those that the directory itself has stay its own.
func TestPutNamesOfFreshThatAreNone(t *testing.T) {
	l, mem := lentIn(dirOf(0, 9, nil), 4, []int{7, 8}, []int{1, 2})
	one := []impl.Entry{entry(1, "a")}
	for _, c := range []struct {
		first, second string
		page          int
	}{
		{zeros(16), zeros(16), 7},
		{"\x01\x04\x01\x00\x07" + zeros(11), zeros(16), 8},
		{zeros(16), "\x01\x04\x01\x00\x07" + zeros(11), 8},
		{zeros(16), "\x02\x00\x10\x00\x07" + zeros(11), 8},
		{zeros(16), "\x01\x04\x01\x00\x08" + zeros(11), 7},
		{"\x01\x04\x01\x00\x08" + zeros(11), "\x01\x04\x01\x00\x07" + zeros(11), 0},
		{"\x01\x04\x21\x00\x08\x07" + zeros(10), zeros(16), 0},
		{"\x01\x04\x00\x00\x07" + zeros(11), "\x03\x04\x01\x00\x07" + zeros(11), 7},
		{"\x01\x0a\x01\x00\x07" + zeros(11), "\x01\x04\x01\x00\x07" + zeros(10) + "\x01", 7},
	} {
		now := impl.With(impl.With(mem, 48, c.first), 64, c.second)
		got, ok := impl.PutNames(l, now, one)
		if ok != (c.page > 0) || ok && got[0].At != 32*c.page {
			t.Errorf("PutNames beside %q and %q = %v, %v", c.first, c.second, got, ok)
		}
		holdWish(t, l, now, wish{list: one})
	}
	mem = build(zeros(768), []held{dirOf(0, 9, one, 8), fileOf(1, 4, "x", 8)})
	if got, ok := impl.PutNames(l, mem, append(one, entry(2, "b"), entry(3, "c"))); !ok || got[0].At != 256 || got[1].At != 224 {
		t.Errorf("the directory's own page: %v, %v", got, ok)
	}
}

func TestPutNamesOfOtherEntries(t *testing.T) {
	l, mem := lentIn(dirOf(0, 9, nil), 4, []int{7, 8, 9, 10}, []int{1, 2})
	for _, list := range goodDirs() {
		got, ok := impl.PutNames(l, mem, list)
		if !ok || len(got) != 1+(len(list)+1)/2 {
			t.Errorf("PutNames of %v = %v, %v", list, got, ok)
		}
		if names, ok := impl.Names(l, impl.Puts(mem, got)); !ok || !slices.Equal(names, list) {
			t.Errorf("%v come back as %v", list, names)
		}
	}
	for _, list := range append(wrongDirs(), manyEntries(12), manyEntries(13)) {
		if got, ok := impl.PutNames(l, mem, list); ok || len(got) != 0 {
			t.Errorf("PutNames of %v = %v", list[:min(14, len(list))], got)
		}
	}
}

// TestNewEntries goes from an empty directory to two new ones, file by file.
func TestNewEntries(t *testing.T) {
	for _, kind := range []int{1, 2} {
		k, _ := impl.KeeperNew(impl.Anyone)
		k = mustLend(t, k, 5, 0, 9)
		l, mem := k.Loans[0], k.Dev.Mem
		list, ino, ok := impl.Make(l, mem, "abcdefghijklmn", kind)
		one := entry(1, "abcdefghijklmn")
		want := putsOf(48, string([]byte{byte(kind), 5})+zeros(14), 160, wantEntry(one)+zeros(16), 32, "\x02\x09\x10\x00\x05"+zeros(11))
		if !slices.Equal(list, want) || ino != 1 {
			t.Fatalf("Make = %v, %d, %v", list, ino, ok)
		}
		mem = holdTaken(t, "Make", l, mem, list, ok)
		holdNames(t, "Make", l, mem, []impl.Entry{one})
		list, ino, ok = impl.Make(l, mem, "b", 3-kind)
		two := entry(2, "b")
		want = putsOf(64, string([]byte{byte(3 - kind), 5})+zeros(14), 160, wantEntry(one)+wantEntry(two), 32, "\x02\x09\x20\x00\x05"+zeros(11))
		if !slices.Equal(list, want) || ino != 2 {
			t.Fatalf("Make = %v, %d, %v", list, ino, ok)
		}
		mem = holdTaken(t, "Make", l, mem, list, ok)
		holdNames(t, "Make", l, mem, []impl.Entry{one, two})
		holdData(t, "Make", mem, 1, impl.Inode{Kind: kind, Owner: 5}, "")
		holdData(t, "Make", mem, 2, impl.Inode{Kind: 3 - kind, Owner: 5}, "")
		if !slices.Equal(impl.Come(mem, l), []int{1, 2}) {
			t.Errorf("Come = %v", impl.Come(mem, l))
		}
		for _, name := range []string{"b", "c", "abcdefghijklmn"} {
			if list, ino, ok := impl.Make(l, mem, name, kind); ok || ino != 0 || len(list) != 0 {
				t.Errorf("none is left for %q: %v, %d", name, list, ino)
			}
		}
	}
}

// TestMakeTakesTheFirstThatIsUnnamed, whatever its record was.
func TestMakeTakesTheFirstThatIsUnnamed(t *testing.T) {
	l := lentOf(dirOf(2, 9, []impl.Entry{entry(3, "c")}, 7), 6, 5, "\x00", []int{10, 11}, []int{4, 6})
	for _, c := range []struct {
		list []impl.Entry
		ino  int
	}{
		{nil, 4}, {[]impl.Entry{entry(3, "c")}, 4}, {[]impl.Entry{entry(6, "x")}, 4}, {[]impl.Entry{entry(4, "x")}, 6},
		{[]impl.Entry{entry(3, "c"), entry(4, "x")}, 6}, {[]impl.Entry{entry(6, "x"), entry(4, "y")}, 0}, {[]impl.Entry{entry(4, "y"), entry(3, "c"), entry(6, "x")}, 0},
	} {
		for _, four := range []held{{ino: 4}, fileOf(4, 6, ""), fileOf(4, 6, "old", 11), dirOf(4, 6, nil), {ino: 4, kind: 9}, fileOf(4, 1, "")} {
			h := dirOf(2, 9, c.list, []int{7, 10}[:(len(c.list)+1)/2]...)
			mem := build(zeros(768), []held{four, h, fileOf(6, 6, "")})
			list, ino, ok := impl.Make(l, mem, "new", 1)
			if ok != (c.ino > 0) || ino != c.ino {
				t.Fatalf("Make beside %v = %v, %d, %v", c.list, list, ino, ok)
			}
			holdWish(t, l, mem, wish{name: "new", kind: 1})
			if !ok || ino == 6 && (four.kind == 0 || four.kind == 9 || four.owner == 1) {
				continue
			}
			now := holdTaken(t, "Make", l, mem, list, ok)
			holdNames(t, "Make", l, now, append(slices.Clone(c.list), entry(ino, "new")))
			holdData(t, "Make", now, ino, impl.Inode{Kind: 1, Owner: 6}, "")
		}
	}
}

// TestMakeOfADirectoryThatGrows: the new entry needs a page more, which may be
// of Pages or of the pool but none that a new file has, or there is none.
func TestMakeOfADirectoryThatGrows(t *testing.T) {
	two, four := []impl.Entry{entry(3, "c"), entry(7, "g")}, []impl.Entry{entry(3, "c"), entry(7, "g"), entry(2, "b"), entry(1, "a")}
	for what, c := range map[string]struct {
		was  held
		now  held
		file []int
		pool []int
		page int
	}{
		"the first of the pool":              {dirOf(0, 9, two, 8), dirOf(0, 9, two, 8), nil, []int{6, 9}, 6},
		"the next one":                       {dirOf(0, 9, two, 8), dirOf(0, 9, two, 8), []int{6}, []int{6, 9}, 9},
		"the last one":                       {dirOf(0, 9, two, 8), dirOf(0, 9, two, 8), []int{9, 5, 6}, []int{5, 6, 9, 10}, 10},
		"none is left":                       {dirOf(0, 9, two, 8), dirOf(0, 9, two, 8), []int{9, 6}, []int{6, 9}, 0},
		"no pool":                            {dirOf(0, 9, two, 8), dirOf(0, 9, two, 8), nil, nil, 0},
		"a page of Pages":                    {dirOf(0, 9, four, 8, 7), dirOf(0, 9, two, 8), nil, []int{6}, 7},
		"a page of Pages ahead of the other": {dirOf(0, 9, four, 8, 7), dirOf(0, 9, two, 7), nil, []int{6}, 8},
		"a page of Pages without a pool":     {dirOf(0, 9, four, 8, 7), dirOf(0, 9, two, 7), nil, nil, 8},
		"a page of Pages behind the pool's":  {dirOf(0, 9, two, 8), dirOf(0, 9, two, 9), []int{6}, []int{6, 9}, 8},
		"both pages of Pages":                {dirOf(0, 9, four, 8, 7), dirOf(0, 9, four, 7, 8), nil, []int{6}, 6},
	} {
		l, _ := lentIn(c.was, 4, c.pool, []int{5, 6})
		mem := build(zeros(768), []held{c.now, fileOf(6, 4, pattern(2, 32*len(c.file)), c.file...)})
		list, ino, ok := impl.Make(l, mem, "new", 2)
		if ok != (c.page > 0) {
			t.Fatalf("%s: Make = %v, %d, %v", what, list, ino, ok)
		}
		holdWish(t, l, mem, wish{name: "new", kind: 2})
		if !ok {
			continue
		}
		now := holdTaken(t, what, l, mem, list, ok)
		if n, _, _ := impl.Load(now, 0); !slices.Equal(n.Pages, append(slices.Clone(c.now.pages), c.page)) {
			t.Errorf("%s: the pages are %v", what, n.Pages)
		}
		old, _ := readDir(c.now.data)
		holdNames(t, what, l, now, append(old, entry(5, "new")))
	}
}

func TestMakeRefuses(t *testing.T) {
	three := []impl.Entry{entry(3, "c"), entry(7, "g"), entry(1, "abcdefghijklmn")}
	l, mem := lentIn(dirOf(2, 9, three, 8, 6), 4, []int{10, 11}, []int{5, 6})
	if list, ino, ok := impl.Make(l, mem, "new", 1); !ok || ino != 5 || len(list) != 4 {
		t.Fatalf("Make = %v, %d, %v", list, ino, ok)
	}
	for _, name := range append(wrongNames(), "c", "g", "abcdefghijklmn") {
		if list, ino, ok := impl.Make(l, mem, name, 1); ok || ino != 0 || len(list) != 0 {
			t.Errorf("Make of %q = %v, %d", name, list, ino)
		}
		holdWish(t, l, mem, wish{name: name, kind: 2})
	}
	for _, name := range goodNames() {
		if _, _, ok := impl.Make(l, mem, name, 2); ok != (name != "abcdefghijklmn") {
			t.Errorf("Make of %q: %v", name, ok)
		}
	}
	for _, kind := range append(farNumbers(), -2, 0, 3, 4) {
		if list, ino, ok := impl.Make(l, mem, "new", kind); ok || ino != 0 || len(list) != 0 {
			t.Errorf("Make of kind %d = %v, %d", kind, list, ino)
		}
	}
	none := l
	none.Fresh = nil
	if list, ino, ok := impl.Make(none, mem, "new", 1); ok || ino != 0 || len(list) != 0 {
		t.Errorf("Make of nothing fresh = %v, %d", list, ino)
	}
}

func TestRemove(t *testing.T) {
	five := []impl.Entry{entry(3, "c"), entry(7, "g"), entry(1, "abcdefghijklmn"), entry(2, ".a"), entry(6, "cc")}
	l, mem := lentIn(dirOf(4, 2, five, 8, 6, 20), 4, []int{10}, []int{5})
	for n, e := range five {
		list, ok := impl.Remove(l, mem, e.Name)
		rest := slices.Delete(slices.Clone(five), n, n+1)
		data := wantDir(rest)
		if !slices.Equal(list, putsOf(256, data[:32], 192, data[32:], 96, "\x02\x02\x40\x00\x08\x06"+zeros(10))) {
			t.Errorf("Remove of %q = %v, %v", e.Name, list, ok)
		}
		now := holdTaken(t, "Remove", l, mem, list, ok)
		holdNames(t, "Remove", l, now, rest)
		if !slices.Equal(impl.Gone(now, l), []int{e.Ino}) {
			t.Errorf("Gone = %v", impl.Gone(now, l))
		}
		if list, ok := impl.Remove(l, now, e.Name); ok || len(list) != 0 {
			t.Errorf("%q is removed twice: %v", e.Name, list)
		}
	}
	for _, name := range append(wrongNames(), "a", "d", "ccc", "C", "abcdefghijklm", ".", "c\x00") {
		if list, ok := impl.Remove(l, mem, name); ok || len(list) != 0 {
			t.Errorf("Remove of %q = %v", name, list)
		}
	}
	for n, e := range five {
		list, ok := impl.Remove(l, mem, e.Name)
		if len(list) != 1+(5-n)/2 {
			t.Errorf("Remove of %q = %v", e.Name, list)
		}
		mem = holdTaken(t, "Remove", l, mem, list, ok)
		holdNames(t, "Remove", l, mem, five[n+1:])
	}
	if list, ok := impl.Remove(l, mem, "c"); ok || len(list) != 0 {
		t.Errorf("Remove from nothing = %v", list)
	}
}

// TestRemoveOfNew: what was made and removed is not there any more, and what
// has its pages in the pool stays as it is.
func TestRemoveOfNew(t *testing.T) {
	l, mem := lentIn(dirOf(0, 9, []impl.Entry{entry(3, "c"), entry(4, "d")}, 8), 4, []int{5, 6, 7, 9}, []int{1, 2})
	list, _, ok := impl.Make(l, mem, "a", 1)
	mem = holdTaken(t, "Make", l, mem, list, ok)
	list, ok = impl.Fill(l, mem, 1, pattern(3, 64))
	mem = holdTaken(t, "Fill", l, mem, list, ok)
	list, _, ok = impl.Make(l, mem, "b", 1)
	mem = holdTaken(t, "Make", l, mem, list, ok)
	list, ok = impl.Fill(l, mem, 2, pattern(4, 32))
	mem = holdTaken(t, "Fill", l, mem, list, ok)
	list, ok = impl.Remove(l, mem, "a")
	mem = holdTaken(t, "Remove", l, mem, list, ok)
	holdNames(t, "Remove", l, mem, []impl.Entry{entry(3, "c"), entry(4, "d"), entry(2, "b")})
	holdData(t, "Remove", mem, 2, impl.Inode{Kind: 1, Owner: 4}, pattern(4, 32))
	list, ino, ok := impl.Make(l, mem, "e", 2)
	if ino != 1 {
		t.Errorf("the removed one is not made again: %d", ino)
	}
	mem = holdTaken(t, "Make", l, mem, list, ok)
	holdNames(t, "Make", l, mem, []impl.Entry{entry(3, "c"), entry(4, "d"), entry(2, "b"), entry(1, "e")})
	list, ok = impl.Fill(l, mem, 2, pattern(4, 96))
	mem = holdTaken(t, "Fill", l, mem, list, ok)
	holdData(t, "Fill", mem, 2, impl.Inode{Kind: 1, Owner: 4}, pattern(4, 96))
	holdData(t, "Fill", mem, 1, impl.Inode{Kind: 2, Owner: 4}, "")
}

// TestNamesAsTheyStand: the names are those of the memory, not of the loan.
func TestNamesAsTheyStand(t *testing.T) {
	l, _ := lentIn(dirOf(3, 9, []impl.Entry{entry(1, "was")}, 8), 4, []int{6}, []int{5})
	for _, list := range goodDirs() {
		h := dirOf(3, 2, list)
		for len(h.pages)*32 < len(h.data) {
			h.pages = append(h.pages, 20-len(h.pages))
		}
		for _, rest := range []string{zeros(768), pattern(30, 768)} {
			holdNames(t, "Names", l, build(rest, []held{h}), list)
		}
	}
	for _, data := range []string{zeros(16), pattern(1, 16), wantEntry(entry(1, "a")) + wantEntry(entry(1, "b")), wantEntry(entry(1, "a")) + wantEntry(entry(2, "a")), wantEntry(entry(1, "a")) + zeros(16), "\x00\x01a" + zeros(13), "\x01\x02.." + zeros(12)} {
		mem := build(zeros(768), []held{{ino: 3, kind: 2, owner: 9, data: data, pages: []int{8}}, fileOf(5, 4, "")})
		w := wish{data: zeros(193), name: "a", kind: 1, ino: 5}
		if told := holdWish(t, l, mem, w); told != [6]bool{false, true} {
			t.Errorf("a directory of the bytes %q: %v", data, told)
		}
		if list, ok := impl.Names(l, mem); ok || len(list) != 0 {
			t.Errorf("Names of the bytes %q: %v", data, list)
		}
	}
}

// TestFill has a new file that has pages already, beside a directory and
// another new file that have some of the pool.
func TestFill(t *testing.T) {
	old := []impl.Entry{entry(3, "c"), entry(6, "f")}
	l := lentOf(dirOf(1, 9, old, 8), 2, 5, "\x00", []int{5, 7, 10, 12}, []int{2, 4})
	data := pattern(8, 128)
	rec := func(size int, pages string) string {
		return "\x01\x02" + string([]byte{byte(size), 0}) + pages + zeros(12-len(pages))
	}
	all := append(slices.Clone(old), entry(2, "n"), entry(4, "m"))
	for what, c := range map[string]struct {
		dir   held
		two   held
		four  held
		pages string
	}{
		"no pages yet":                        {dirOf(1, 9, all[:2], 8), fileOf(2, 2, ""), held{ino: 4}, "\x05\x07\x0a\x0c"},
		"a page":                              {dirOf(1, 9, all[:3], 8, 5), fileOf(2, 2, "x", 10), held{ino: 4}, "\x0a\x07\x0c"},
		"pages in another order":              {dirOf(1, 9, all[:2], 8), fileOf(2, 2, pattern(1, 90), 12, 5, 10), held{ino: 4}, "\x0c\x05\x0a\x07"},
		"the directory has one":               {dirOf(1, 9, all[:3], 8, 7), fileOf(2, 2, ""), held{ino: 4}, "\x05\x0a\x0c"},
		"the directory has others than Pages": {dirOf(1, 9, all, 10, 12), fileOf(2, 2, ""), dirOf(4, 2, nil), "\x05\x07"},
		"the other one has one":               {dirOf(1, 9, all, 8, 5), fileOf(2, 2, ""), fileOf(4, 2, "y", 10), "\x07\x0c"},
		"the other one has all but one":       {dirOf(1, 9, all, 8, 5), fileOf(2, 2, ""), fileOf(4, 2, pattern(2, 64), 12, 7), "\x0a"},
		"both have all others":                {dirOf(1, 9, all, 8, 5), fileOf(2, 2, pattern(1, 64), 10, 12), fileOf(4, 2, "y", 7), "\x0a\x0c"},
		"none is left":                        {dirOf(1, 9, all, 8, 12), fileOf(2, 2, ""), fileOf(4, 2, pattern(2, 96), 5, 7, 10), ""},
		"the other one is in no entry":        {dirOf(1, 9, all[:3], 8, 5), fileOf(2, 2, ""), fileOf(4, 2, "y", 10), "\x07\x0c"},
		"the other one is none":               {dirOf(1, 9, all[:3], 8, 5), fileOf(2, 2, ""), held{ino: 4, kind: 3, data: "y", pages: []int{10}}, "\x07\x0a\x0c"},
	} {
		mem := build(pattern(60, 768), []held{c.dir, c.two, c.four})
		names, _ := readDir(c.dir.data)
		for size := range 129 {
			list, ok := impl.Fill(l, mem, 2, data[:size])
			count := (size + 31) / 32
			if ok != (count <= len(c.pages)) || !ok && len(list) != 0 {
				t.Fatalf("%s: Fill of %d bytes = %v, %v", what, size, list, ok)
			}
			if !ok {
				continue
			}
			if last := list[len(list)-1]; len(list) != count+1 || last != (impl.Put{At: 64, Bytes: rec(size, c.pages[:count])}) {
				t.Fatalf("%s: Fill of %d bytes = %v", what, size, list)
			}
			now := holdTaken(t, what, l, mem, list, ok)
			holdData(t, what, now, 2, impl.Inode{Kind: 1, Owner: 2}, data[:size])
			holdNames(t, what, l, now, names)
			if was, _, there := impl.Load(mem, 4); there {
				holdData(t, what, now, 4, was, wantData(mem, was))
			}
		}
	}
}

// TestFillOfEachSize: beyond what the pool and its own pages hold there is no
// room, and beyond MaxFile no file, though its own pages were enough.
func TestFillOfEachSize(t *testing.T) {
	for own := range 7 {
		for pool := range 5 {
			l, _ := lentIn(dirOf(0, 9, nil), 3, []int{5, 6, 7, 8}[:pool], []int{1})
			mem := build(zeros(768), []held{dirOf(0, 9, nil), fileOf(1, 5, pattern(1, 32*own), []int{8, 20, 21, 22, 23, 7}[:own]...)})
			pages := own
			for _, page := range l.Pool {
				if !slices.Contains([]int{8, 20, 21, 22, 23, 7}[:own], page) {
					pages++
				}
			}
			for size := range 260 {
				list, ok := impl.Fill(l, mem, 1, pattern(3, size))
				if ok != (size <= min(192, 32*pages)) {
					t.Fatalf("%d bytes into %d pages: %v, %v", size, pages, list, ok)
				}
				holdWish(t, l, mem, wish{data: pattern(3, size), ino: 1})
				if ok {
					holdData(t, "Fill", impl.Puts(mem, list), 1, impl.Inode{Kind: 1, Owner: 5}, pattern(3, size))
				}
			}
		}
	}
}

func TestFillRefuses(t *testing.T) {
	old := []impl.Entry{entry(3, "c"), entry(6, "f")}
	l := lentOf(dirOf(1, 9, old, 8), 2, 5, "\x00", []int{5, 7, 10, 12}, []int{2, 4})
	list := append(slices.Clone(old), entry(2, "n"), entry(4, "m"))
	rest := []held{dirOf(1, 9, list, 8, 5), fileOf(3, 2, ""), dirOf(6, 2, nil), fileOf(0, 2, ""), fileOf(5, 2, ""), fileOf(7, 2, "")}
	mem := build(zeros(768), append(rest, fileOf(2, 2, ""), fileOf(4, 2, "")))
	for _, ino := range append(farNumbers(), -2, 0, 1, 2, 3, 4, 5, 6, 7, 8, 9) {
		for _, data := range []string{"", "x"} {
			if puts, ok := impl.Fill(l, mem, ino, data); ok != (ino == 2 || ino == 4) || !ok && len(puts) != 0 {
				t.Errorf("Fill of inode %d = %v, %v", ino, puts, ok)
			}
		}
	}
	for what, h := range map[string]held{
		"a directory":     dirOf(2, 2, nil),
		"a full one":      dirOf(2, 2, old, 7),
		"free":            {ino: 2},
		"kind 3":          {ino: 2, kind: 3, owner: 2},
		"owner 10":        {ino: 2, kind: 1, owner: 10},
		"a page too few":  {ino: 2, kind: 1, owner: 2, data: "x"},
		"a page too many": {ino: 2, kind: 1, owner: 2, pages: []int{7}},
		"page 4":          {ino: 2, kind: 1, owner: 2, data: "x", pages: []int{4}},
	} {
		mem := build(zeros(768), append(slices.Clone(rest), fileOf(4, 2, "")))
		mem = impl.With(mem, 64, wantRecord(impl.Inode{Kind: h.kind, Owner: h.owner, Size: len(h.data), Pages: h.pages}))
		for _, data := range []string{"", "x"} {
			if puts, ok := impl.Fill(l, mem, 2, data); ok || len(puts) != 0 {
				t.Errorf("%s: Fill = %v", what, puts)
			}
		}
		holdWish(t, l, mem, wish{data: "x", ino: 2})
	}
	file, mem := lentIn(fileOf(2, 2, "abc", 6), 2, []int{7}, nil)
	if puts, ok := impl.Fill(file, mem, 2, "x"); ok || len(puts) != 0 {
		t.Errorf("Fill of a lent file = %v", puts)
	}
}

// TestFillHeedsTheRecordOfTheDirectory as it stands: whatever its kind is, its
// pages are barred; where it is none, there are none.
func TestFillHeedsTheRecordOfTheDirectory(t *testing.T) {
	l, _ := lentIn(dirOf(0, 9, nil), 3, []int{5, 6}, []int{1})
	for rec, page := range map[string]int{
		zeros(16):                              5,
		"\x02\x09\x00\x00" + zeros(12):         5,
		"\x02\x09\x10\x00\x05" + zeros(11):     6,
		"\x01\x09\x10\x00\x05" + zeros(11):     6,
		"\x02\x09\x10\x00\x06" + zeros(11):     5,
		"\x03\x09\x10\x00\x05" + zeros(11):     5,
		"\x02\x09\x11\x00\x05" + zeros(11):     5,
		"\x02\x09\x30\x00\x07\x05" + zeros(10): 6,
	} {
		mem := impl.With(build(zeros(768), []held{fileOf(1, 3, "")}), 32, rec)
		if list, ok := impl.Fill(l, mem, 1, "x"); !ok || list[0].At != 32*page {
			t.Errorf("Fill beside %q = %v, %v", rec, list, ok)
		}
		holdWish(t, l, mem, wish{data: "x", ino: 1})
	}
}

// wishes are of each sort that is granted where it can be.
func wishes() []wish {
	return []wish{
		{},
		{data: "abc", list: []impl.Entry{entry(3, "c")}, name: "c", kind: 1, ino: 4},
		{data: pattern(2, 32), list: sevenEntries(), name: "new", kind: 2, ino: 5},
		{data: pattern(2, 33), list: manyEntries(12), name: "a", kind: 1, ino: 1},
		{data: pattern(2, 192), list: manyEntries(13), name: "abcdefghijklmno", kind: 3, ino: 2},
		{data: pattern(2, 193), list: []impl.Entry{{}}, name: "", kind: -1, ino: -1},
	}
}

// TestClientsOfOtherMemories: one that has a byte less or more.
func TestClientsOfOtherMemories(t *testing.T) {
	for _, l := range goodLoans() {
		mem := impl.Undo(zeros(768), l)
		for _, ino := range l.Fresh {
			mem = impl.With(mem, 32+16*ino, wantRecord(impl.Inode{Kind: 1, Owner: l.Client}))
		}
		for _, w := range wishes() {
			if len(l.Fresh) > 0 {
				w.ino = l.Fresh[0]
			}
			if told := holdWish(t, l, mem, w); w.data == "" && told == [6]bool{} {
				t.Errorf("nothing is told of %+v", l)
			}
			for _, other := range []string{"", mem[:160], mem[:767], mem[1:], mem + "\x00", mem + mem} {
				if told := holdWish(t, l, other, w); told != [6]bool{} {
					t.Errorf("of a memory of %d bytes is told %v", len(other), told)
				}
				if list, _ := impl.Names(l, other); len(list) != 0 {
					t.Errorf("a memory of %d bytes has names: %v", len(other), list)
				}
			}
		}
	}
}

// TestClientsOfLoansThatAreNone: each has one fault; the names alone are asked
// of the memory, and not of the loan.
func TestClientsOfLoansThatAreNone(t *testing.T) {
	file, fileMem := lentIn(fileOf(1, 1, pattern(5, 40), 6, 9), 1, []int{10, 11, 12, 13}, nil)
	dir, dirMem := lentIn(dirOf(2, 2, []impl.Entry{entry(3, "c")}, 7), 2, []int{10, 11, 12}, []int{4, 5})
	dirMem = impl.With(dirMem, 96, wantRecord(impl.Inode{Kind: 1, Owner: 2}))
	for what, change := range map[string]func(l *impl.Loan){
		"client 9":                 func(l *impl.Loan) { l.Client = 9 },
		"client -1":                func(l *impl.Loan) { l.Client = -1 },
		"until -1":                 func(l *impl.Loan) { l.Until = -1 },
		"no record":                func(l *impl.Loan) { l.Rec = "" },
		"a record of a free inode": func(l *impl.Loan) { l.Rec = zeros(16) },
		"a record one byte long":   func(l *impl.Loan) { l.Rec += "\x00" },
		"a page more":              func(l *impl.Loan) { l.Pages = append(slices.Clone(l.Pages), 20) },
		"no pages":                 func(l *impl.Loan) { l.Pages = nil },
		"nothing saved":            func(l *impl.Loan) { l.Saved = "" },
		"saved one byte long":      func(l *impl.Loan) { l.Saved += "\x00" },
		"five pages in the pool":   func(l *impl.Loan) { l.Pool = []int{10, 11, 12, 13, 14} },
		"a pool that descends":     func(l *impl.Loan) { l.Pool = []int{11, 10} },
		"page 4 in the pool":       func(l *impl.Loan) { l.Pool = []int{4, 10} },
		"page 24 in the pool":      func(l *impl.Loan) { l.Pool = []int{10, 24} },
		"its page in the pool":     func(l *impl.Loan) { l.Pool = l.Pages[:1] },
		"its own inode fresh":      func(l *impl.Loan) { l.Fresh = append([]int{l.Ino}, l.Fresh...) },
		"three inodes fresh":       func(l *impl.Loan) { l.Fresh = []int{4, 5, 6} },
		"inode 8 fresh":            func(l *impl.Loan) { l.Fresh = []int{4, 8} },
		"fresh that descends":      func(l *impl.Loan) { l.Fresh = []int{5, 4} },
	} {
		bad, badDir := file, dir
		change(&bad)
		change(&badDir)
		if impl.LoanOk(bad) || impl.LoanOk(badDir) {
			t.Fatalf("%s: still a loan", what)
		}
		for _, w := range wishes() {
			refuseWish(t, what, bad, fileMem, w)
			refuseWish(t, what, badDir, dirMem, w)
			holdNames(t, what, badDir, dirMem, []impl.Entry{entry(3, "c")})
		}
	}
	for _, ino := range append(farNumbers(), -2, 8, 9) {
		bad, badDir := file, dir
		bad.Ino, badDir.Ino = ino, ino
		for _, w := range wishes() {
			if holdWish(t, bad, fileMem, w) != [6]bool{} || holdWish(t, badDir, dirMem, w) != [6]bool{} {
				t.Errorf("something is told of inode %d", ino)
			}
		}
	}
}

// honest is a client of one loan that keeps in mind what it asked for.
type honest struct {
	t     *testing.T
	r     *rand.Rand
	k     impl.Keeper
	l     impl.Loan
	names []impl.Entry
	data  map[int]string
	kinds map[int]int
	count map[string]int
}

// write has the keeper write what the client was told; what is lent and was not
// asked for stays as it is.
func (h *honest) write(what string, list []impl.Put, ok bool) bool {
	h.t.Helper()
	if !ok {
		h.count["no "+what]++
		return false
	}
	h.count[what]++
	want := holdTaken(h.t, what, h.l, h.k.Dev.Mem, list, ok)
	for _, p := range list {
		k, code := impl.Touch(h.k, h.l.Client, p.At, p.Bytes)
		if code != impl.Good {
			h.t.Fatalf("%s: Touch of %d bytes at %d: %d", what, len(p.Bytes), p.At, code)
		}
		h.k = k
	}
	if h.k.Dev.Mem != want {
		h.t.Fatalf("%s: the keeper has %q, not %q", what, h.k.Dev.Mem, want)
	}
	return true
}

// step asks for one thing of the lent directory.
func (h *honest) step() {
	mem := h.k.Dev.Mem
	switch pick := h.r.Intn(10); {
	case pick < 3:
		name, kind := goodNames()[h.r.Intn(len(goodNames()))], 1+h.r.Intn(2)
		list, ino, ok := impl.Make(h.l, mem, name, kind)
		if h.write("make", list, ok) {
			h.names = append(h.names, entry(ino, name))
			h.kinds[ino], h.data[ino] = kind, ""
		}
	case pick < 7 && len(h.l.Fresh) > 0:
		ino, data := h.l.Fresh[h.r.Intn(len(h.l.Fresh))], pattern(h.r.Intn(250), h.r.Intn(140))
		list, ok := impl.Fill(h.l, mem, ino, data)
		if h.write("fill", list, ok) {
			h.data[ino] = data
		}
	case pick < 8 && len(h.names) > 0:
		at := h.r.Intn(len(h.names))
		if e := h.names[at]; slices.Contains(h.l.Fresh, e.Ino) || h.kinds[e.Ino] == 1 {
			list, ok := impl.Remove(h.l, mem, e.Name)
			h.names = slices.Delete(h.names, at, at+1)
			if !h.write("remove", list, ok) {
				h.t.Fatalf("%q is not removed", e.Name)
			}
		}
	default:
		h.rename(mem)
	}
	h.hold("step")
}

func (h *honest) rename(mem string) {
	list := slices.Clone(h.names)
	h.r.Shuffle(len(list), func(i, j int) { list[i], list[j] = list[j], list[i] })
	for n := range list {
		list[n].Name = "r" + strconv.Itoa(n)
	}
	puts, ok := impl.PutNames(h.l, mem, list)
	if !h.write("names", puts, ok) {
		h.t.Fatal("there is no room for names that were there")
	}
	h.names = list
}

// hold asks for all that the client has in mind.
func (h *honest) hold(what string) {
	holdNames(h.t, what, h.l, h.k.Dev.Mem, h.names)
	for _, e := range h.names {
		if slices.Contains(h.l.Fresh, e.Ino) {
			holdData(h.t, what, h.k.Dev.Mem, e.Ino, impl.Inode{Kind: h.kinds[e.Ino], Owner: h.l.Client}, h.data[e.Ino])
		}
	}
}

// holdBack gives the loan back; what the client has in mind is there then.
func (h *honest) holdBack() {
	k, code := impl.GiveBack(h.k, h.l.Client, h.l.Ino)
	if code != impl.Good || !impl.KeeperOk(k) {
		h.t.Fatalf("what an honest client wrote comes back with %d", code)
	}
	list, ok := wantNames(h.l, impl.Truth(k))
	if !ok || !slices.Equal(list, h.names) {
		h.t.Fatalf("there are %v, not %v", list, h.names)
	}
	for _, f := range impl.Files(impl.Truth(k)) {
		if slices.Contains(h.l.Fresh, f.Ino) && (f.Data != h.data[f.Ino] || f.Kind != h.kinds[f.Ino] || f.Owner != h.l.Client) {
			h.t.Fatalf("there is %+v, not %q", f, h.data[f.Ino])
		}
	}
}

// randomHonest lends an inode of a random tree to whom it belongs.
func randomHonest(t *testing.T, r *rand.Rand, kind int) *honest {
	for {
		k := keeperOf(pattern(r.Intn(99), 768), randomTree(r))
		files := impl.Files(impl.Truth(k))
		f := files[r.Intn(len(files))]
		if f.Kind != kind {
			continue
		}
		client := f.Owner % 9
		k, code := impl.Lend(k, client, f.Ino, 9)
		if code != impl.Good {
			t.Fatalf("Lend: %d", code)
		}
		h := &honest{t: t, r: r, k: k, l: k.Loans[0], data: map[int]string{}, kinds: map[int]int{}}
		h.names, _ = wantNames(h.l, k.Dev.Mem)
		for _, f := range files {
			h.kinds[f.Ino] = f.Kind
		}
		return h
	}
}

// TestHonestClients is promise 7 as a whole, of directories.
func TestHonestClients(t *testing.T) {
	t.Parallel()
	r := rand.New(rand.NewSource(72))
	count := map[string]int{}
	for range 600 {
		h := randomHonest(t, r, 2)
		h.count = count
		for range 25 {
			h.step()
		}
		h.holdBack()
	}
	for _, what := range []string{"make", "no make", "fill", "no fill", "remove", "names"} {
		if count[what] < 200 {
			t.Errorf("too few of one sort to tell: %v", count)
		}
	}
}

// TestHonestClientsOfFiles is promise 7 as a whole, of files.
func TestHonestClientsOfFiles(t *testing.T) {
	t.Parallel()
	r := rand.New(rand.NewSource(73))
	count := map[string]int{}
	for range 600 {
		h := randomHonest(t, r, 1)
		h.count = count
		owner := int(h.l.Rec[1])
		data := wantData(h.k.Dev.Mem, impl.Inode{Size: int(h.l.Rec[2]), Pages: h.l.Pages})
		for range 10 {
			next := pattern(r.Intn(250), r.Intn(200))
			list, ok := impl.PutFile(h.l, h.k.Dev.Mem, next)
			if ok != (len(next) <= min(192, 32*(len(h.l.Pages)+len(h.l.Pool)))) {
				t.Fatalf("PutFile of %d bytes: %v, of %+v", len(next), ok, h.l)
			}
			if h.write("file", list, ok) {
				data = next
			}
			holdData(t, "file", h.k.Dev.Mem, h.l.Ino, impl.Inode{Kind: 1, Owner: owner}, data)
		}
		k, code := impl.GiveBack(h.k, h.l.Client, h.l.Ino)
		if code != impl.Good || !impl.KeeperOk(k) {
			t.Fatalf("what an honest client wrote comes back with %d", code)
		}
		holdData(t, "file", impl.Truth(k), h.l.Ino, impl.Inode{Kind: 1, Owner: owner}, data)
	}
	if count["file"] < 200 || count["no file"] < 200 {
		t.Errorf("too few of one sort to tell: %v", count)
	}
}

// randomWish is near to what may be granted.
func randomWish(r *rand.Rand, l impl.Loan, mem string, good [][]impl.Entry, wrong [][]impl.Entry) wish {
	list, _ := wantNames(l, mem)
	w := wish{data: pattern(r.Intn(250), r.Intn([]int{20, 200}[r.Intn(2)])), name: "new", kind: 1 + r.Intn(2), ino: r.Intn(8)}
	w.list = good[r.Intn(len(good))]
	if len(list) > 0 && r.Intn(2) == 0 {
		w.name = list[r.Intn(len(list))].Name
	}
	if len(l.Fresh) > 0 && r.Intn(8) > 0 {
		w.ino = l.Fresh[r.Intn(len(l.Fresh))]
	}
	if r.Intn(10) == 0 {
		w.name, w.kind = wrongNames()[r.Intn(10)], r.Intn(5)-1
		w.list = wrong[r.Intn(len(wrong))]
	}
	return w
}

// TestClientsBehindLiars: what stands in what is lent may be nearly anything.
func TestClientsBehindLiars(t *testing.T) {
	t.Parallel()
	r := rand.New(rand.NewSource(74))
	good, wrong := goodDirs(), wrongDirs()[:20]
	count := [6][2]int{}
	for range 20000 {
		tree := randomTree(r)
		mem := build(pattern(r.Intn(99), 768), tree)
		l := randomLoan(r, mem, tree)
		if r.Intn(8) > 0 {
			mem = scribble(r, mem, l)
		}
		for n, ok := range holdWish(t, l, mem, randomWish(r, l, mem, good, wrong)) {
			if ok {
				count[n][1]++
			} else {
				count[n][0]++
			}
		}
	}
	for _, two := range count {
		if two[0] < 500 || two[1] < 500 {
			t.Errorf("too few of one sort to tell: %v", count)
		}
	}
}

func clientAnswers(l impl.Loan, mem string, w wish, list []impl.Put) []any {
	file, fileOk := impl.PutFile(l, mem, w.data)
	names, namesOk := impl.PutNames(l, mem, w.list)
	made, ino, madeOk := impl.Make(l, mem, w.name, w.kind)
	left, leftOk := impl.Remove(l, mem, w.name)
	entries, entriesOk := impl.Names(l, mem)
	filled, filledOk := impl.Fill(l, mem, w.ino, w.data)
	return []any{impl.Puts(mem, list), file, fileOk, names, namesOk, made, ino, madeOk, left, leftOk, entries, entriesOk, filled, filledOk}
}

// TestClientsAnswerAtAnyArguments: a panic fails the test by itself; the same
// question twice has the same answer.
func TestClientsAnswerAtAnyArguments(t *testing.T) {
	t.Parallel()
	mems := append(memTexts(), zeros(768), strings.Repeat("\xff", 768), pattern(2, 768), impl.Format(9), build(zeros(768), smallTree()), build(zeros(768), allInRoot()))
	numbers, texts, dirs := append(farNumbers(), places()...), memTexts(), append(goodDirs()[:20], wrongDirs()[:40]...)
	for k, l := range anyLoans() {
		was := impl.Keeper{Loans: []impl.Loan{l}}
		kept := cloneKeeper(was)
		for m, mem := range mems {
			at := k + 7*m
			w := wish{data: texts[at%len(texts)], list: dirs[at%len(dirs)], name: texts[(at+3)%len(texts)], kind: numbers[at%len(numbers)], ino: numbers[(at+5)%len(numbers)]}
			holdWish(t, l, mem, w)
			list := []impl.Put{{At: numbers[at%len(numbers)], Bytes: texts[(at+1)%len(texts)]}, {At: at % 770, Bytes: texts[(at+2)%len(texts)]}}
			if impl.Puts(mem, list) != wantPuts(mem, list) {
				t.Fatalf("Puts of %v into %q", list, mem)
			}
			if m == k%len(mems) && !reflect.DeepEqual(clientAnswers(l, mem, w, list), clientAnswers(l, mem, w, list)) {
				t.Fatalf("two answers to one question, of %+v", l)
			}
		}
		if !sameKeeper(was, kept) {
			t.Fatalf("a list of %+v is changed", l)
		}
	}
}

// grantedWishes are of loans and memories in which all is granted that can be,
// and some that is not.
func grantedWishes() map[string]struct {
	l   impl.Loan
	mem string
	w   wish
} {
	dir, _ := lentIn(dirOf(2, 9, []impl.Entry{entry(3, "c"), entry(1, "a")}, 7), 2, []int{10, 11, 12, 13}, []int{4, 5})
	mem := build(pattern(30, 768), []held{dirOf(2, 9, []impl.Entry{entry(3, "c"), entry(4, "d")}, 7), fileOf(4, 2, pattern(1, 40), 12, 10)})
	file := lentOf(fileOf(1, 1, pattern(5, 40), 6, 9), 1, 5, "\x00", []int{10, 11, 12, 13}, nil)
	fileMem := build(pattern(30, 768), []held{fileOf(1, 1, pattern(5, 70), 9, 11, 6)})
	w := wish{data: pattern(3, 64), list: []impl.Entry{entry(3, "c"), entry(4, "x"), entry(1, "y")}, name: "d", kind: 1, ino: 4}
	made := w
	made.name = "new"
	wrong := dir
	wrong.Client = 9
	return map[string]struct {
		l   impl.Loan
		mem string
		w   wish
	}{"a directory": {dir, mem, w}, "a new entry": {dir, mem, made}, "a file": {file, fileMem, w}, "no loan": {wrong, mem, w}, "no memory": {dir, mem[1:], w}, "a short one": {file, "x", made}}
}

// TestClientsWriteIntoNoArgument: the lists have spare room behind them,
// filled.
func TestClientsWriteIntoNoArgument(t *testing.T) {
	for what, c := range grantedWishes() {
		l, rooms := roomy(impl.Keeper{Loans: []impl.Loan{c.l}})
		was := cloneKeeper(l)
		spare := entry(-7, "spare")
		list := append(slices.Clone(c.w.list), spare, spare, spare)
		given := list[:len(c.w.list)]
		puts := append(putsOf(3, "abc", 1, "x", -1, "y"), impl.Put{At: -7}, impl.Put{At: -7})
		c.w.list = given
		clientAnswers(l.Loans[0], c.mem, c.w, puts[:3])
		if !sameKeeper(l, was) || !slices.Equal(list, append(slices.Clone(given), spare, spare, spare)) {
			t.Errorf("%s: the loan, the entries or what is behind them is changed: %v", what, list)
		}
		if !slices.Equal(puts, append(putsOf(3, "abc", 1, "x", -1, "y"), impl.Put{At: -7}, impl.Put{At: -7})) {
			t.Errorf("%s: the puts or what is behind them is changed: %v", what, puts)
		}
		for _, room := range rooms {
			if !slices.Equal((*room)[len(*room)-8:], []int{-7, -7, -7, -7, -7, -7, -7, -7}) {
				t.Errorf("%s: what is behind a list is changed: %v", what, *room)
			}
		}
	}
}

// TestClientAnswersAreNewMemory: no text of an answer is one of an argument,
// and what is written into an answer shows nowhere.
func TestClientAnswersAreNewMemory(t *testing.T) {
	for what, c := range grantedWishes() {
		puts := putsOf(0, strings.Clone("abc"))
		given := []string{c.mem, c.w.data, c.w.name, c.l.Rec, c.l.Saved, puts[0].Bytes}
		for _, e := range c.w.list {
			given = append(given, e.Name)
		}
		isNew := func(s string) {
			t.Helper()
			for _, other := range given {
				if sharesMemory(s, other) {
					t.Errorf("%s: an answer shares memory with an argument", what)
				}
			}
		}
		first := clientAnswers(c.l, c.mem, c.w, puts)
		again := clientAnswers(c.l, c.mem, c.w, puts)
		was := []impl.Entry{}
		was = append(was, c.w.list...)
		for _, answer := range first {
			switch x := answer.(type) {
			case string:
				isNew(x)
			case []impl.Put:
				for _, p := range x {
					isNew(p.Bytes)
				}
				clear(x[:cap(x)])
			case []impl.Entry:
				for _, e := range x {
					isNew(e.Name)
				}
				clear(x[:cap(x)])
			}
		}
		if !reflect.DeepEqual(again, clientAnswers(c.l, c.mem, c.w, puts)) || !slices.Equal(was, c.w.list) {
			t.Errorf("%s: a change in one answer shows in another", what)
		}
		isNew(impl.Puts(c.mem, nil))
		isNew(impl.Puts(c.mem, putsOf(-1, "x")))
		isNew(impl.Puts("", putsOf(0, "")))
	}
	whole := pattern(1, 32)
	l, mem := lentIn(fileOf(1, 1, ""), 1, []int{5}, nil)
	if list, ok := impl.PutFile(l, mem, whole); !ok || list[0].Bytes != whole || sharesMemory(list[0].Bytes, whole) {
		t.Errorf("a whole page shares memory with its bytes: %v, %v", list, ok)
	}
}
