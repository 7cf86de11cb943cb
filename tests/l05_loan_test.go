package tests

import (
	"math"
	"math/rand"
	"reflect"
	"slices"
	"strconv"
	"strings"
	"testing"

	"loop.example/g00278/impl"
)

// lentOf is a loan of an inode that a test builds; behind what it has of its
// last page stands rest, again and again, or zeros.
func lentOf(h held, client int, until int, rest string, pool []int, fresh []int) impl.Loan {
	room := 32 * len(h.pages)
	saved := (h.data + strings.Repeat(rest, room) + zeros(room))[:room]
	rec := wantRecord(impl.Inode{Kind: h.kind, Owner: h.owner, Size: len(h.data), Pages: h.pages})
	return impl.Loan{Ino: h.ino, Client: client, Until: until, Rec: rec, Pages: h.pages, Saved: saved, Pool: pool, Fresh: fresh}
}

// goodLoans have the document's edges.
func goodLoans() []impl.Loan {
	two := []impl.Entry{entry(3, "c"), entry(6, "f")}
	return []impl.Loan{
		lentOf(fileOf(0, 0, ""), 0, 0, "", nil, nil),
		lentOf(fileOf(1, 1, "abc", 6), 1, 5, "\x00", []int{10, 11}, nil),
		lentOf(fileOf(7, 9, pattern(1, 192), 23, 5, 22, 6, 21, 7), 8, math.MaxInt, "", []int{8, 9, 19, 20}, []int{}),
		lentOf(fileOf(7, 3, pattern(4, 161), 5, 6, 7, 8, 9, 10), 3, 1, "\xff", nil, nil),
		lentOf(fileOf(4, 8, pattern(2, 33), 12, 9), 0, 999999, "z", []int{5, 10, 11, 23}, nil),
		lentOf(dirOf(0, 9, nil), 0, 0, "", nil, nil),
		lentOf(dirOf(0, 9, nil), 8, 100, "", []int{5, 6, 7, 8}, []int{1, 2}),
		lentOf(dirOf(7, 2, nil), 2, 7, "", []int{5}, []int{6}),
		lentOf(dirOf(2, 2, two, 7), 2, 5, "", []int{10, 11}, []int{4, 5}),
		lentOf(dirOf(2, 9, two[:1], 7), 5, 5, "\xee", []int{6, 8, 9, 23}, []int{1, 7}),
		lentOf(dirOf(0, 4, sevenEntries(), 20, 5, 19, 6), 4, 9, "\x01", []int{7, 8}, nil),
		lentOf(dirOf(0, 4, sevenEntries(), 20, 5, 19, 6), 4, 9, "\x01", []int{7, 18, 21}, []int{1, 7}),
		lentOf(dirOf(5, 6, two, 9), 6, 3, "", nil, []int{3, 7}),
		lentOf(dirOf(6, 0, []impl.Entry{entry(1, "a"), entry(2, "b"), entry(4, "d")}, 23, 22), 1, 3, "\x05", []int{5, 6}, []int{5, 7}),
	}
}

// wantLoan is what the document says of a loan, sentence by sentence; it calls
// nothing of the program.
func wantLoan(l impl.Loan) ([]impl.Entry, bool) {
	n, ok := wantInode(l.Rec)
	if l.Ino < 0 || l.Ino > 7 || l.Client < 0 || l.Client > 8 || l.Until < 0 || !ok || n.Kind == 0 {
		return nil, false
	}
	if !slices.Equal(n.Pages, l.Pages) || len(l.Saved) != 32*len(n.Pages) || len(l.Pool) > 4 || len(l.Fresh) > 2 {
		return nil, false
	}
	for i, page := range l.Pool {
		if page < 5 || page > 23 || slices.Contains(n.Pages, page) || i > 0 && page <= l.Pool[i-1] {
			return nil, false
		}
	}
	for i, ino := range l.Fresh {
		if n.Kind == 1 || ino < 1 || ino > 7 || ino == l.Ino || i > 0 && ino <= l.Fresh[i-1] {
			return nil, false
		}
	}
	if n.Kind == 1 {
		return nil, true
	}
	return readDir(l.Saved[:n.Size])
}

func wantRanges(l impl.Loan) []impl.Range {
	if _, ok := wantLoan(l); !ok {
		return nil
	}
	list := []impl.Range{{At: 32 + 16*l.Ino, N: 16}}
	for _, page := range append(slices.Clone(l.Pages), l.Pool...) {
		list = append(list, impl.Range{At: 32 * page, N: 32})
	}
	for _, ino := range l.Fresh {
		list = append(list, impl.Range{At: 32 + 16*ino, N: 16})
	}
	return list
}

// letsAt tells of each byte of a memory whether a loan lets at it.
func letsAt(l impl.Loan) [768]bool {
	open := [768]bool{}
	for _, r := range wantRanges(l) {
		for i := range r.N {
			open[r.At+i] = true
		}
	}
	return open
}

func wantWithin(open [768]bool, i int, n int) bool {
	if i < 0 || n < 1 || n > 768 || i > 767 || i+n > 768 {
		return false
	}
	for k := i; k < i+n; k++ {
		if !open[k] {
			return false
		}
	}
	return true
}

func wantUndo(mem string, l impl.Loan) string {
	if _, ok := wantLoan(l); !ok || len(mem) != 768 {
		return mem
	}
	room := []byte(mem)
	for _, ino := range l.Fresh {
		copy(room[32+16*ino:], zeros(16))
	}
	copy(room[32+16*l.Ino:], l.Rec)
	for n, page := range l.Pages {
		copy(room[32*page:], l.Saved[32*n:32*n+32])
	}
	return string(room)
}

// wantTaken answers the Inos of the entries that came back, too.
func wantTaken(mem string, l impl.Loan) ([]int, bool) {
	old, ok := wantLoan(l)
	if !ok || len(mem) != 768 {
		return nil, false
	}
	was, _ := wantInode(l.Rec)
	now, ok := wantInode(mem[32+16*l.Ino : 48+16*l.Ino])
	if !ok || now.Kind != was.Kind || now.Owner != was.Owner {
		return nil, false
	}
	holders := [24]int{}
	for _, page := range now.Pages {
		if !slices.Contains(l.Pages, page) && !slices.Contains(l.Pool, page) {
			return nil, false
		}
		holders[page]++
	}
	if now.Kind == 1 {
		return nil, true
	}
	list, ok := readDir(wantData(mem, now))
	inos := []int{}
	for _, e := range list {
		inos = append(inos, e.Ino)
		if slices.ContainsFunc(old, func(o impl.Entry) bool { return o.Ino == e.Ino }) {
			continue
		}
		n, sound := wantInode(mem[32+16*e.Ino : 48+16*e.Ino])
		if !slices.Contains(l.Fresh, e.Ino) || !sound || n.Kind == 0 || n.Owner != l.Client || n.Kind == 2 && n.Size > 0 {
			return nil, false
		}
		for _, page := range n.Pages {
			holders[page]++
			ok = ok && slices.Contains(l.Pool, page)
		}
	}
	return inos, ok && slices.Max(holders[:]) <= 1
}

func wantGone(mem string, l impl.Loan) []int {
	old, _ := wantLoan(l)
	inos, ok := wantTaken(mem, l)
	gone := []int{}
	for ino := range 8 {
		if ok && !slices.Contains(inos, ino) && slices.ContainsFunc(old, func(e impl.Entry) bool { return e.Ino == ino }) {
			gone = append(gone, ino)
		}
	}
	return gone
}

func wantCome(mem string, l impl.Loan) []int {
	inos, ok := wantTaken(mem, l)
	come := []int{}
	for ino := range 8 {
		if ok && slices.Contains(inos, ino) && slices.Contains(l.Fresh, ino) {
			come = append(come, ino)
		}
	}
	return come
}

// holdLoan asks what a loan and a memory answer; it tells whether the memory
// is taken.
func holdLoan(t *testing.T, mem string, l impl.Loan) bool {
	t.Helper()
	_, ok := wantLoan(l)
	if got := impl.LoanOk(l); got != ok {
		t.Fatalf("LoanOk = %v of %+v", got, l)
	}
	if got := impl.Ranges(l); !slices.Equal(got, wantRanges(l)) {
		t.Fatalf("Ranges = %v, not %v, of %+v", got, wantRanges(l), l)
	}
	if got := impl.Undo(mem, l); got != wantUndo(mem, l) {
		t.Fatalf("Undo = %q, not %q, of %q with %+v", got, wantUndo(mem, l), mem, l)
	}
	_, taken := wantTaken(mem, l)
	if got := impl.Verdict(mem, l); got != taken {
		t.Fatalf("Verdict = %v of %q with %+v", got, mem, l)
	}
	if got := impl.Gone(mem, l); !slices.Equal(got, wantGone(mem, l)) {
		t.Fatalf("Gone = %v, not %v, of %q with %+v", got, wantGone(mem, l), mem, l)
	}
	if got := impl.Come(mem, l); !slices.Equal(got, wantCome(mem, l)) {
		t.Fatalf("Come = %v, not %v, of %q with %+v", got, wantCome(mem, l), mem, l)
	}
	return taken
}

func refuseLoan(t *testing.T, what string, l impl.Loan) {
	t.Helper()
	mem := pattern(12, 768)
	if impl.LoanOk(l) || len(impl.Ranges(l)) != 0 || impl.Undo(mem, l) != mem {
		t.Errorf("%s: taken for a loan", what)
	}
	for i := range 768 {
		if impl.Within(l, i, 1) {
			t.Errorf("%s: it lets at the byte %d", what, i)
		}
	}
	for _, mem := range []string{mem, zeros(768), impl.Format(9), build(zeros(768), smallTree())} {
		if holdLoan(t, mem, l) {
			t.Errorf("%s: what came back is taken", what)
		}
	}
}

func TestGoodLoans(t *testing.T) {
	for n, l := range goodLoans() {
		if !impl.LoanOk(l) {
			t.Errorf("loan %d is not LoanOk: %+v", n, l)
		}
		for _, mem := range append(goodMemories(), zeros(768), pattern(3, 768), "", zeros(767), zeros(769)) {
			holdLoan(t, mem, l)
		}
	}
}

func TestRangesOfADirectory(t *testing.T) {
	l := lentOf(dirOf(2, 2, []impl.Entry{entry(1, "a"), entry(3, "b"), entry(4, "c")}, 23, 9), 2, 5, "", []int{5, 10, 11, 22}, []int{5, 7})
	want := []impl.Range{{At: 64, N: 16}, {At: 736, N: 32}, {At: 288, N: 32}, {At: 160, N: 32}, {At: 320, N: 32}, {At: 352, N: 32}, {At: 704, N: 32}, {At: 112, N: 16}, {At: 144, N: 16}}
	if got := impl.Ranges(l); !slices.Equal(got, want) {
		t.Errorf("Ranges = %v", got)
	}
	if got := impl.Ranges(goodLoans()[0]); !slices.Equal(got, []impl.Range{{At: 32, N: 16}}) {
		t.Errorf("Ranges of a file of no pages = %v", got)
	}
}

func TestLoanOkOfEachNumber(t *testing.T) {
	file := lentOf(fileOf(3, 1, "abc", 6), 1, 5, "\x00", []int{10}, nil)
	dir := lentOf(dirOf(3, 1, nil), 1, 5, "", []int{10}, []int{1})
	for _, l := range []impl.Loan{file, dir} {
		for x := -300; x < 600; x++ {
			ino, client, until, pool := l, l, l, l
			ino.Ino, client.Client, until.Until, pool.Pool = x, x, x, []int{x}
			if impl.LoanOk(ino) != (x >= 0 && x <= 7 && !slices.Contains(l.Fresh, x)) {
				t.Errorf("a loan of inode %d", x)
			}
			if impl.LoanOk(client) != (x >= 0 && x <= 8) {
				t.Errorf("a loan to client %d", x)
			}
			if impl.LoanOk(until) != (x >= 0) {
				t.Errorf("a loan up to tick %d", x)
			}
			if impl.LoanOk(pool) != (x >= 5 && x <= 23 && !slices.Contains(l.Pages, x)) {
				t.Errorf("a Pool of page %d", x)
			}
		}
	}
	for x := -300; x < 600; x++ {
		file.Fresh, dir.Fresh = []int{x}, []int{x}
		if impl.LoanOk(file) || impl.LoanOk(dir) != (x >= 1 && x <= 7 && x != 3) {
			t.Errorf("a Fresh of inode %d", x)
		}
	}
}

// TestLoansThatAreNone have one fault each, in what is else as good as it was.
func TestLoansThatAreNone(t *testing.T) {
	file := lentOf(fileOf(1, 1, pattern(5, 40), 6, 9), 1, 5, "\x00", []int{10, 11, 12, 13}, nil)
	dir := lentOf(dirOf(2, 2, []impl.Entry{entry(3, "c")}, 7), 2, 5, "\x00", []int{10, 11, 12}, []int{4, 5})
	empty := lentOf(dirOf(0, 2, nil), 2, 5, "", []int{10, 11}, []int{4, 5})
	for what, change := range map[string]func(l *impl.Loan){
		"inode 8":                        func(l *impl.Loan) { l.Ino = 8 },
		"inode -1":                       func(l *impl.Loan) { l.Ino = -1 },
		"client 9":                       func(l *impl.Loan) { l.Client = 9 },
		"client -1":                      func(l *impl.Loan) { l.Client = -1 },
		"until -1":                       func(l *impl.Loan) { l.Until = -1 },
		"no record":                      func(l *impl.Loan) { l.Rec = "" },
		"a record of a free inode":       func(l *impl.Loan) { l.Rec = zeros(16) },
		"a free record, no pages":        func(l *impl.Loan) { l.Rec, l.Pages, l.Saved = zeros(16), nil, "" },
		"a record one byte short":        func(l *impl.Loan) { l.Rec = l.Rec[:15] },
		"a record one byte long":         func(l *impl.Loan) { l.Rec += "\x00" },
		"a byte behind a record's pages": func(l *impl.Loan) { l.Rec = l.Rec[:15] + "\x01" },
		"a record of another kind":       func(l *impl.Loan) { l.Rec = "\x03" + l.Rec[1:] },
		"a record of another owner":      func(l *impl.Loan) { l.Rec = l.Rec[:1] + "\x0a" + l.Rec[2:] },
		"a page more than the record's":  func(l *impl.Loan) { l.Pages = append(slices.Clone(l.Pages), 20) },
		"a page more, and saved":         func(l *impl.Loan) { l.Pages, l.Saved = append(slices.Clone(l.Pages), 20), l.Saved+zeros(32) },
		"saved one byte long":            func(l *impl.Loan) { l.Saved += "\x00" },
		"saved a page long":              func(l *impl.Loan) { l.Saved += zeros(32) },
		"saved very long":                func(l *impl.Loan) { l.Saved += zeros(100000) },
		"five pages in the pool":         func(l *impl.Loan) { l.Pool = []int{10, 11, 12, 13, 14} },
		"very many pages in the pool":    func(l *impl.Loan) { l.Pool = append(slices.Clone(l.Pool), make([]int, 5000)...) },
		"a pool that descends":           func(l *impl.Loan) { l.Pool = []int{11, 10} },
		"a pool whose last descends":     func(l *impl.Loan) { l.Pool = []int{10, 12, 13, 11} },
		"a page of the pool twice":       func(l *impl.Loan) { l.Pool = []int{10, 10} },
		"its last page twice":            func(l *impl.Loan) { l.Pool = []int{10, 11, 12, 12} },
		"page 4 in the pool":             func(l *impl.Loan) { l.Pool = []int{4, 10} },
		"page 0 in the pool":             func(l *impl.Loan) { l.Pool = []int{0} },
		"page -1 in the pool":            func(l *impl.Loan) { l.Pool = []int{-1, 10} },
		"page 24 in the pool":            func(l *impl.Loan) { l.Pool = []int{10, 24} },
		"its own inode fresh":            func(l *impl.Loan) { l.Fresh = []int{l.Ino} },
		"its own inode fresh, too":       func(l *impl.Loan) { l.Fresh = []int{l.Ino, 6} },
		"inode 0 fresh":                  func(l *impl.Loan) { l.Fresh = []int{0, 4} },
		"inode 8 fresh":                  func(l *impl.Loan) { l.Fresh = []int{4, 8} },
		"inode -1 fresh":                 func(l *impl.Loan) { l.Fresh = []int{-1} },
		"three inodes fresh":             func(l *impl.Loan) { l.Fresh = []int{4, 5, 6} },
		"very many inodes fresh":         func(l *impl.Loan) { l.Fresh = make([]int, 5000) },
		"fresh that descends":            func(l *impl.Loan) { l.Fresh = []int{5, 4} },
		"an inode fresh twice":           func(l *impl.Loan) { l.Fresh = []int{4, 4} },
		"all zero":                       func(l *impl.Loan) { *l = impl.Loan{} },
	} {
		for n, l := range []impl.Loan{file, dir, empty} {
			if !impl.LoanOk(l) {
				t.Fatalf("what is to be changed is no loan: %+v", l)
			}
			change(&l)
			refuseLoan(t, what+", loan "+strconv.Itoa(n), l)
		}
	}
}

// TestLoansOfOtherPages have what only a loan with pages can have wrong.
func TestLoansOfOtherPages(t *testing.T) {
	file := lentOf(fileOf(1, 1, pattern(5, 40), 6, 9), 1, 5, "\x00", []int{10}, nil)
	dir := lentOf(dirOf(1, 1, []impl.Entry{entry(3, "c"), entry(2, "a"), entry(5, "b")}, 6, 9), 1, 5, "\x00", []int{10}, []int{4})
	for what, change := range map[string]func(l *impl.Loan){
		"no pages":                          func(l *impl.Loan) { l.Pages = nil },
		"no pages, nothing saved":           func(l *impl.Loan) { l.Pages, l.Saved = nil, "" },
		"a page less":                       func(l *impl.Loan) { l.Pages = l.Pages[:1] },
		"a page less, and saved":            func(l *impl.Loan) { l.Pages, l.Saved = l.Pages[:1], l.Saved[:32] },
		"the last page another":             func(l *impl.Loan) { l.Pages = []int{6, 8} },
		"the first page another":            func(l *impl.Loan) { l.Pages = []int{7, 9} },
		"the pages in another order":        func(l *impl.Loan) { l.Pages = []int{9, 6} },
		"a page twice":                      func(l *impl.Loan) { l.Pages = []int{6, 6} },
		"pages that are the same in a byte": func(l *impl.Loan) { l.Pages = []int{6 + 256, 9 - 256} },
		"a page twice in the record":        func(l *impl.Loan) { l.Pages, l.Rec = []int{6, 6}, l.Rec[:5]+"\x06"+l.Rec[6:] },
		"a page of the head":                func(l *impl.Loan) { l.Pages, l.Rec = []int{6, 4}, l.Rec[:5]+"\x04"+l.Rec[6:] },
		"a page beyond the last":            func(l *impl.Loan) { l.Pages, l.Rec = []int{6, 24}, l.Rec[:5]+"\x18"+l.Rec[6:] },
		"nothing saved":                     func(l *impl.Loan) { l.Saved = "" },
		"saved one byte short":              func(l *impl.Loan) { l.Saved = l.Saved[:63] },
		"saved a page short":                func(l *impl.Loan) { l.Saved = l.Saved[:32] },
		"saved no more than the Size":       func(l *impl.Loan) { l.Saved = l.Saved[:l.Rec[2]] },
		"its first page in the pool":        func(l *impl.Loan) { l.Pool = []int{6, 10} },
		"its last page in the pool":         func(l *impl.Loan) { l.Pool = []int{5, 8, 9, 10} },
		"its pages alone in the pool":       func(l *impl.Loan) { l.Pool = []int{6, 9} },
	} {
		for n, l := range []impl.Loan{file, dir} {
			if !impl.LoanOk(l) {
				t.Fatalf("what is to be changed is no loan: %+v", l)
			}
			change(&l)
			refuseLoan(t, what+", loan "+strconv.Itoa(n), l)
		}
	}
}

// TestSavedOfADirectory: what stands up to Size must be one, what stands
// behind it in the last page may be anything.
func TestSavedOfADirectory(t *testing.T) {
	for _, list := range goodDirs() {
		if len(list) > 7 {
			continue
		}
		h := dirOf(0, 3, list)
		for 32*len(h.pages) < len(h.data) {
			h.pages = append(h.pages, 5+len(h.pages))
		}
		for _, rest := range []string{"\x00", "\xff", "abc"} {
			if l := lentOf(h, 3, 1, rest, nil, nil); !impl.LoanOk(l) {
				t.Errorf("a loan of the directory %v", list)
			}
		}
	}
	for _, data := range []string{zeros(16), zeros(32), pattern(3, 16), wantEntry(entry(1, "a")) + zeros(16), wantEntry(entry(1, "a")) + wantEntry(entry(1, "b")), wantEntry(entry(2, "a")) + wantEntry(entry(1, "a")), "\x00\x01a" + zeros(13), "\x08\x01a" + zeros(13), "\x01\x02.." + zeros(12)} {
		h := held{ino: 3, kind: 2, owner: 1, data: data, pages: []int{7}}
		refuseLoan(t, "the Saved of a directory that is none", lentOf(h, 1, 1, "\x00", []int{5}, []int{6}))
		h.kind = 1
		if !impl.LoanOk(lentOf(h, 1, 1, "\x00", []int{5}, nil)) {
			t.Errorf("a loan of the file %q", data)
		}
	}
}

func TestWithinOfEachPlace(t *testing.T) {
	for n, l := range goodLoans() {
		open := letsAt(l)
		for i := range 780 {
			for _, n := range []int{0, 1, 2, 15, 16, 17, 31, 32, 33, 47, 48, 49, 63, 64, 65, 95, 96, 97, 127, 128, 129, 191, 192, 193, 255, 256, 257, 319, 320, 321, 767, 768, 769} {
				if got := impl.Within(l, i, n); got != wantWithin(open, i, n) {
					t.Fatalf("Within(%d, %d) = %v of %+v", i, n, got, l)
				}
			}
			for m := 0; m < 770 && n == 9; m++ {
				if got := impl.Within(l, i, m); got != wantWithin(open, i, m) {
					t.Fatalf("Within(%d, %d) = %v of %+v", i, m, got, l)
				}
			}
		}
	}
}

// TestWithinSideBySide: the records of 1, 2 and 3 are side by side, that of 7
// and the first data page are, and so are pages that Ranges does not tell one
// behind the other.
func TestWithinSideBySide(t *testing.T) {
	records := lentOf(dirOf(2, 9, nil), 0, 0, "", nil, []int{1, 3})
	pages := lentOf(fileOf(0, 9, pattern(1, 96), 12, 10, 8), 0, 0, "", []int{7, 9, 11, 13}, nil)
	border := lentOf(dirOf(7, 9, nil), 0, 0, "", []int{5, 6}, []int{6})
	last := lentOf(fileOf(0, 9, pattern(1, 32), 23), 0, 0, "", []int{22}, nil)
	for _, c := range []struct {
		l    impl.Loan
		i, n int
		want bool
	}{
		{records, 48, 48, true}, {records, 47, 49, false}, {records, 48, 49, false}, {records, 47, 1, false}, {records, 96, 1, false}, {records, 95, 1, true}, {records, 63, 2, true}, {records, 63, 18, true},
		{pages, 224, 224, true}, {pages, 223, 224, false}, {pages, 224, 225, false}, {pages, 225, 223, true}, {pages, 225, 224, false}, {pages, 447, 1, true}, {pages, 448, 1, false}, {pages, 32, 16, true}, {pages, 32, 17, false}, {pages, 31, 2, false},
		{border, 128, 96, true}, {border, 128, 97, false}, {border, 127, 97, false}, {border, 159, 2, true}, {border, 159, 65, true}, {border, 159, 66, false},
		{last, 704, 64, true}, {last, 704, 65, false}, {last, 767, 1, true}, {last, 767, 2, false}, {last, 768, 1, false}, {last, 768, 0, false}, {last, 0, 768, false}, {last, 0, 1, false}, {last, 704, 768, false}, {last, 32, 0, false}, {last, 32, -1, false},
	} {
		if got := impl.Within(c.l, c.i, c.n); got != c.want {
			t.Errorf("Within(%d, %d) = %v of %+v", c.i, c.n, got, c.l)
		}
	}
}

func TestWithinOfFarNumbers(t *testing.T) {
	for _, l := range goodLoans() {
		at := 32 + 16*l.Ino
		for _, far := range append(farNumbers(), -2, -16, 768, 769, 1000, math.MaxInt-767, math.MaxInt-768, math.MinInt+768) {
			for _, n := range []int{1, 16, 768, math.MaxInt, math.MinInt} {
				if far < 0 || far >= 768 {
					if impl.Within(l, far, n) {
						t.Errorf("Within(%d, %d) of %+v", far, n, l)
					}
				}
			}
			if (far < 1 || far > 768) && (impl.Within(l, at, far) || impl.Within(l, 0, far)) {
				t.Errorf("Within(%d, %d) of %+v", at, far, l)
			}
		}
	}
}

// TestUndoChangesNothingElse is the first half of promise 5.
func TestUndoChangesNothingElse(t *testing.T) {
	for _, l := range goodLoans() {
		for _, mem := range append(goodMemories(), zeros(768), strings.Repeat("\xff", 768), pattern(3, 768)) {
			got := impl.Undo(mem, l)
			if len(got) != 768 || impl.Undo(got, l) != got {
				t.Fatalf("Undo of Undo is another, of %+v", l)
			}
			for i := range 768 {
				if got[i] != mem[i] && !impl.Within(l, i, 1) {
					t.Fatalf("Undo changes the byte %d, at which %+v does not let", i, l)
				}
			}
			for _, page := range l.Pool {
				if impl.Part(got, 32*page, 32) != impl.Part(mem, 32*page, 32) {
					t.Fatalf("Undo changes the page %d of the pool, of %+v", page, l)
				}
			}
			if impl.Part(got, impl.RecAt(l.Ino), 16) != l.Rec {
				t.Fatalf("the record is not back, of %+v", l)
			}
			for _, ino := range l.Fresh {
				if impl.Part(got, impl.RecAt(ino), 16) != zeros(16) {
					t.Fatalf("the record %d is not free, of %+v", ino, l)
				}
			}
		}
	}
}

// TestUndoPutsBackWhatWas: whatever is written into what is lent, all but the
// pool is there again.
func TestUndoPutsBackWhatWas(t *testing.T) {
	r := rand.New(rand.NewSource(51))
	for range 3000 {
		list := randomTree(r)
		mem := build(pattern(r.Intn(99), 768), list)
		l := randomLoan(r, mem, list)
		room := []byte(mem)
		for i, open := range letsAt(l) {
			if open && r.Intn(2) == 0 && !slices.Contains(l.Pool, i/32) {
				room[i] = byte(r.Intn(256))
			}
		}
		if got := impl.Undo(string(room), l); got != mem {
			t.Fatalf("Undo = %q, not %q, of %+v", got, mem, l)
		}
	}
}

// randomLoan is of one of the inodes of a memory, as a keeper would lend it.
func randomLoan(r *rand.Rand, mem string, list []held) impl.Loan {
	used, free := []int{}, []int{}
	kinds := [8]int{}
	for _, h := range list {
		used = append(used, h.pages...)
		kinds[h.ino] = h.kind
	}
	for page := 5; page < 24; page++ {
		if !slices.Contains(used, page) && r.Intn(3) > 0 {
			free = append(free, page)
		}
	}
	h := list[r.Intn(len(list))]
	l := lentOf(h, r.Intn(9), r.Intn(100), "", free[:min(len(free), r.Intn(5))], nil)
	l.Saved = ""
	for _, page := range h.pages {
		l.Saved += mem[32*page : 32*page+32]
	}
	for ino := 1; ino < 8; ino++ {
		if h.kind == 2 && kinds[ino] == 0 && len(l.Fresh) < 2 && r.Intn(3) > 0 {
			l.Fresh = append(l.Fresh, ino)
		}
	}
	return l
}

func TestUndoOfOtherLengths(t *testing.T) {
	for _, l := range goodLoans() {
		for _, mem := range append(memTexts(), pattern(1, 767), pattern(1, 769), pattern(1, 1536), pattern(1, 100000)) {
			want := mem
			if len(mem) == 768 {
				want = wantUndo(mem, l)
			}
			if got := impl.Undo(mem, l); got != want {
				t.Errorf("Undo of %d bytes, with %+v", len(mem), l)
			}
			if len(mem) != 768 && (impl.Verdict(mem, l) || len(impl.Gone(mem, l)) != 0 || len(impl.Come(mem, l)) != 0) {
				t.Errorf("%d bytes are taken, with %+v", len(mem), l)
			}
		}
	}
}

// TestVerdictNeedsTheSize: what is taken is not any more where the memory has
// a byte less or more.
func TestVerdictNeedsTheSize(t *testing.T) {
	for _, l := range goodLoans() {
		mem := impl.Undo(zeros(768), l)
		if !impl.Verdict(mem, l) || len(impl.Gone(mem, l)) != 0 {
			t.Errorf("what was is not taken, of %+v", l)
		}
		for _, bad := range []string{mem[:767], mem + "\x00", mem[:160], "", mem + mem} {
			if holdLoan(t, bad, l) {
				t.Errorf("a memory of %d bytes is taken, of %+v", len(bad), l)
			}
		}
	}
}

// TestRecordsOfAFileThatCameBack: every kind, owner and page.
func TestRecordsOfAFileThatCameBack(t *testing.T) {
	l := lentOf(fileOf(1, 3, "abc", 6), 5, 5, "\x00", []int{10, 11, 23}, nil)
	for kind := range 5 {
		for owner := range 12 {
			for page := range 26 {
				for _, n := range []impl.Inode{{Kind: kind, Owner: owner}, {Kind: kind, Owner: owner, Size: 32, Pages: []int{page}}, {Kind: kind, Owner: owner, Size: 48, Pages: []int{10, page}}, {Kind: kind, Owner: owner, Size: 100, Pages: []int{page, 6, 10, 11}}, {Kind: kind, Owner: owner, Size: 128, Pages: []int{23, 11, 10, page}}} {
					mem := build(pattern(8, 768), nil)
					mem = mem[:48] + wantRecord(n) + mem[64:]
					pages := slices.Sorted(slices.Values(n.Pages))
					want := kind == 1 && owner == 3 && len(slices.Compact(pages)) == len(n.Pages) && (n.Size == 0 || slices.Contains([]int{6, 10, 11, 23}, page))
					if got := holdLoan(t, mem, l); got != want {
						t.Fatalf("a file that came back as %v: %v", n, got)
					}
				}
			}
		}
	}
}

// TestEachByteOfARecordThatCameBack, of the loan's own and of those that are
// fresh.
func TestEachByteOfARecordThatCameBack(t *testing.T) {
	for _, l := range goodLoans() {
		mem := impl.Undo(zeros(768), l)
		for i := 32; i < 160; i++ {
			for _, b := range []byte{0, 1, 2, 3, 5, 6, 7, 8, 9, 10, 11, 16, 20, 23, 24, 32, 33, 48, 64, 128, 192, 193, 255} {
				holdLoan(t, mem[:i]+string([]byte{b})+mem[i+1:], l)
			}
		}
	}
	l := newcomers()
	mem := newDirectory("a", "b", []held{fileOf(4, 2, pattern(3, 40), 10, 11), dirOf(5, 2, nil)})
	for i := 32; i < 256; i++ {
		for b := range 256 {
			holdLoan(t, mem[:i]+string([]byte{byte(b)})+mem[i+1:], l)
		}
	}
}

// newcomers lends the directory 2 with an entry of inode 3.
func newcomers() impl.Loan {
	return lentOf(dirOf(2, 9, []impl.Entry{entry(3, "c")}, 7), 2, 5, "\x00", []int{10, 11, 12, 13}, []int{4, 5})
}

// newDirectory is a memory in which the directory 2 has the inodes 4 and 5, by
// these names, instead of 3.
func newDirectory(four string, five string, list []held) string {
	dir := dirOf(2, 9, []impl.Entry{entry(5, five), entry(4, four)}, 7)
	return build(pattern(30, 768), append([]held{dir}, list...))
}

func TestDirectoriesThatCameBack(t *testing.T) {
	old, four, five := entry(3, "c"), entry(4, "d"), entry(5, "e")
	for what, c := range map[string]struct {
		list []held
		gone []int
		come []int
	}{
		"as it was":                         {[]held{dirOf(2, 9, []impl.Entry{old}, 7)}, nil, nil},
		"no entries":                        {[]held{dirOf(2, 9, nil)}, []int{3}, nil},
		"another name":                      {[]held{dirOf(2, 9, []impl.Entry{entry(3, "other")}, 7)}, nil, nil},
		"another page":                      {[]held{dirOf(2, 9, []impl.Entry{old}, 13)}, nil, nil},
		"a new file":                        {[]held{dirOf(2, 9, []impl.Entry{old, four}, 7), fileOf(4, 2, "")}, nil, []int{4}},
		"a new directory":                   {[]held{dirOf(2, 9, []impl.Entry{old, five}, 7), dirOf(5, 2, nil)}, nil, []int{5}},
		"both, the last first":              {[]held{dirOf(2, 9, []impl.Entry{five, four}, 12), fileOf(4, 2, "a", 10), dirOf(5, 2, nil)}, []int{3}, []int{4, 5}},
		"both with pages":                   {[]held{dirOf(2, 9, []impl.Entry{five, old, four}, 12, 7), fileOf(4, 2, "a", 10), fileOf(5, 2, pattern(1, 64), 13, 11)}, nil, []int{4, 5}},
		"all of the pool in one":            {[]held{dirOf(2, 9, []impl.Entry{five}, 7), fileOf(5, 2, pattern(1, 128), 13, 10, 11, 12)}, []int{3}, []int{5}},
		"a record of no entry, of any kind": {[]held{dirOf(2, 9, []impl.Entry{five}, 7), fileOf(5, 2, "a", 10), fileOf(4, 7, "b", 10)}, []int{3}, []int{5}},
		"a record of no entry that is none": {[]held{dirOf(2, 9, []impl.Entry{old}, 7), {ino: 4, kind: 7, owner: 77}, {ino: 5, kind: 1, pages: []int{9}}}, nil, nil},
		"the record of an old entry":        {[]held{dirOf(2, 9, []impl.Entry{old}, 7), {ino: 3, kind: 7, owner: 77}}, nil, nil},
		"an old entry with a lent page":     {[]held{fileOf(3, 1, "a", 7), dirOf(2, 9, []impl.Entry{old}, 7)}, nil, nil},
	} {
		mem := build(pattern(30, 768), c.list)
		if !holdLoan(t, mem, newcomers()) {
			t.Errorf("%s: not taken", what)
		}
		if gone, come := impl.Gone(mem, newcomers()), impl.Come(mem, newcomers()); !slices.Equal(gone, c.gone) || !slices.Equal(come, c.come) {
			t.Errorf("%s: gone are %v, come are %v", what, gone, come)
		}
	}
}

func TestDirectoriesThatAreNotTaken(t *testing.T) {
	old, four, five := entry(3, "c"), entry(4, "d"), entry(5, "e")
	for what, list := range map[string][]held{
		"no record":                              {},
		"a file":                                 {fileOf(2, 9, wantDir([]impl.Entry{old}), 7)},
		"a file of no bytes":                     {fileOf(2, 9, "")},
		"another owner":                          {dirOf(2, 2, []impl.Entry{old}, 7)},
		"a page that was not lent":               {dirOf(2, 9, []impl.Entry{old}, 8)},
		"a second page that was not lent":        {dirOf(2, 9, []impl.Entry{four, five, old}, 7, 14), fileOf(4, 2, ""), fileOf(5, 2, "")},
		"bytes that are no directory":            {{ino: 2, kind: 2, owner: 9, data: pattern(1, 16), pages: []int{7}}},
		"zeros for an entry":                     {{ino: 2, kind: 2, owner: 9, data: zeros(16), pages: []int{7}}},
		"half an entry":                          {{ino: 2, kind: 2, owner: 9, data: zeros(8), pages: []int{7}}},
		"two entries of one name":                {dirOf(2, 9, []impl.Entry{old, entry(4, "c")}, 7), fileOf(4, 2, "")},
		"two entries for one inode":              {dirOf(2, 9, []impl.Entry{old, entry(3, "d")}, 7)},
		"an entry for itself":                    {dirOf(2, 9, []impl.Entry{old, entry(2, "d")}, 7)},
		"an entry for inode 0":                   {dirOf(2, 9, []impl.Entry{old, entry(0, "d")}, 7)},
		"an entry for inode 8":                   {dirOf(2, 9, []impl.Entry{old, entry(8, "d")}, 7)},
		"an entry for an inode of another":       {dirOf(2, 9, []impl.Entry{old, entry(6, "d")}, 7), fileOf(6, 2, "")},
		"an entry for a free inode, not lent":    {dirOf(2, 9, []impl.Entry{entry(1, "d")}, 7)},
		"a new inode that is free":               {dirOf(2, 9, []impl.Entry{old, four}, 7)},
		"the second new one free":                {dirOf(2, 9, []impl.Entry{four, five}, 7), fileOf(4, 2, "")},
		"a new record that is none":              {dirOf(2, 9, []impl.Entry{old, four}, 7), {ino: 4, kind: 3, owner: 2}},
		"a new inode of the old owner":           {dirOf(2, 9, []impl.Entry{old, four}, 7), fileOf(4, 9, "")},
		"a new inode of another client":          {dirOf(2, 9, []impl.Entry{old, four}, 7), fileOf(4, 1, "")},
		"a new directory of another client":      {dirOf(2, 9, []impl.Entry{old, four}, 7), dirOf(4, 3, nil)},
		"a new file with a page of Pages":        {dirOf(2, 9, []impl.Entry{old, four}, 12), fileOf(4, 2, "a", 7)},
		"a new file with a page not lent":        {dirOf(2, 9, []impl.Entry{old, four}, 7), fileOf(4, 2, pattern(1, 40), 10, 14)},
		"a new file with the directory's page":   {dirOf(2, 9, []impl.Entry{old, four}, 12), fileOf(4, 2, wantEntry(old), 12)},
		"two new files with one page":            {dirOf(2, 9, []impl.Entry{four, five}, 7), fileOf(4, 2, "a", 10), fileOf(5, 2, "a", 10)},
		"two new files with one page among more": {dirOf(2, 9, []impl.Entry{four, five}, 7), fileOf(4, 2, pattern(1, 64), 10, 11), fileOf(5, 2, pattern(1, 64), 12, 11)},
		"a new directory with an entry":          {dirOf(2, 9, []impl.Entry{old, four}, 7), dirOf(4, 2, []impl.Entry{entry(5, "x")}, 10), fileOf(5, 2, "")},
		"a new directory of other bytes":         {dirOf(2, 9, []impl.Entry{old, four}, 7), {ino: 4, kind: 2, owner: 2, data: pattern(1, 16), pages: []int{10}}},
	} {
		for _, rest := range []string{zeros(768), pattern(30, 768)} {
			mem := build(rest, list)
			if impl.Verdict(mem, newcomers()) || len(impl.Gone(mem, newcomers())) != 0 || len(impl.Come(mem, newcomers())) != 0 {
				t.Errorf("%s: taken", what)
			}
			if holdLoan(t, mem, newcomers()) {
				t.Errorf("%s: the test's own reading takes it", what)
			}
		}
	}
}

// TestAllOwnersAndPagesOfNewInodes: 4 and 5 as a file or a directory of any
// owner, each with any page or none.
func TestAllOwnersAndPagesOfNewInodes(t *testing.T) {
	taken := 0
	for owner := range 11 {
		for kind := range 4 {
			for one := 4; one < 25; one++ {
				for two := 4; two < 25; two++ {
					first, second := held{ino: 4, kind: kind, owner: owner}, held{ino: 5, kind: 1, owner: 2}
					if one > 4 {
						first.data, first.pages = wantEntry(entry(3, "c")), []int{one}
					}
					if two > 4 {
						second.data, second.pages = "x", []int{two}
					}
					if holdLoan(t, newDirectory("a", "b", []held{first, second}), newcomers()) {
						taken++
					}
				}
			}
		}
	}
	// A file without a page or with one of four beside a file of the same, no
	// page twice; and a directory without a page beside such a file.
	if want := (5*5 - 4) + 5; taken != want {
		t.Errorf("%d are taken, not %d", taken, want)
	}
}

// TestFreshThatWasThere: an inode that Saved tells of is no new one, though it
// is fresh; its record may be anything, and its pages are not asked for.
func TestFreshThatWasThere(t *testing.T) {
	l := lentOf(dirOf(2, 9, []impl.Entry{entry(4, "d")}, 7), 2, 5, "\x00", []int{10}, []int{4, 5})
	for _, four := range []held{{ino: 4}, fileOf(4, 1, ""), fileOf(4, 2, "x", 10), {ino: 4, kind: 9, owner: 99}, fileOf(4, 8, "x", 7)} {
		mem := build(zeros(768), []held{four, dirOf(2, 9, []impl.Entry{entry(4, "z"), entry(5, "e")}, 7), fileOf(5, 2, "y", 10)})
		if !holdLoan(t, mem, l) || len(impl.Gone(mem, l)) != 0 || !slices.Equal(impl.Come(mem, l), []int{4, 5}) {
			t.Errorf("Come = %v, Gone = %v", impl.Come(mem, l), impl.Gone(mem, l))
		}
	}
}

func TestGoneIsAscending(t *testing.T) {
	l := lentOf(dirOf(0, 9, []impl.Entry{entry(6, "f"), entry(2, "b"), entry(7, "g"), entry(1, "a"), entry(4, "d")}, 8, 7, 6), 0, 0, "\x00", nil, []int{3, 5})
	for set := range 32 {
		list, gone := []impl.Entry{}, []int{}
		for n, ino := range []int{1, 2, 4, 6, 7} {
			if set>>n&1 == 1 {
				list = append([]impl.Entry{entry(ino, "n"+strconv.Itoa(ino))}, list...)
			} else {
				gone = append(gone, ino)
			}
		}
		mem := build(zeros(768), []held{dirOf(0, 9, list, []int{7, 6, 8}[:(len(list)+1)/2]...)})
		if !holdLoan(t, mem, l) || !slices.Equal(impl.Gone(mem, l), gone) {
			t.Errorf("Gone = %v, not %v", impl.Gone(mem, l), gone)
		}
	}
}

// TestWhatIsTaken is the second half of promise 5, with the test's own reading
// beside it: clients write at random, near what might be taken.
func TestWhatIsTaken(t *testing.T) {
	r := rand.New(rand.NewSource(52))
	count := [2][3]int{}
	for range 40000 {
		list := randomTree(r)
		mem := build(pattern(r.Intn(99), 768), list)
		l := randomLoan(r, mem, list)
		mem = scribble(r, mem, l)
		was, _ := wantInode(l.Rec)
		if !holdLoan(t, mem, l) {
			count[0][was.Kind]++
			continue
		}
		count[1][was.Kind]++
		now, ok := impl.GetInode(impl.Part(mem, impl.RecAt(l.Ino), 16))
		if !ok || now.Kind != was.Kind || now.Owner != was.Owner {
			t.Fatalf("%v is taken for %v", now, was)
		}
		for _, page := range now.Pages {
			if !impl.Within(l, 32*page, 32) {
				t.Fatalf("%v is taken with a page that %+v did not lend", now, l)
			}
		}
	}
	if count[0][1] < 1000 || count[0][2] < 1000 || count[1][1] < 1000 || count[1][2] < 1000 {
		t.Errorf("too few of one sort to tell: %v", count)
	}
}

// scribble writes a record, entries and new inodes that may all be right, or
// have something wrong in a few places.
func scribble(r *rand.Rand, mem string, l impl.Loan) string {
	was, _ := wantInode(l.Rec)
	old, _ := wantLoan(l)
	room := []byte(mem)
	pages := append(slices.Clone(l.Pages), l.Pool...)
	r.Shuffle(len(pages), func(i, j int) { pages[i], pages[j] = pages[j], pages[i] })
	h := held{ino: l.Ino, kind: was.Kind, owner: was.Owner, data: pattern(r.Intn(99), r.Intn(1+min(192, 32*len(pages))))}
	fresh := []held{}
	if was.Kind == 2 {
		list := slices.Clone(old[:r.Intn(len(old)+1)])
		for _, ino := range l.Fresh {
			list = append(list, entry(ino, "new"+strconv.Itoa(ino)))
			fresh = append(fresh, held{ino: ino, kind: 1 + r.Intn(2), owner: l.Client})
		}
		h.data = wantDir(list[:min(len(list), 2*len(pages))])
	}
	h.pages, pages = pages[:(len(h.data)+31)/32], pages[(len(h.data)+31)/32:]
	for n := range fresh {
		if len(pages) > 0 && fresh[n].kind == 1 && r.Intn(2) == 0 {
			fresh[n].data, fresh[n].pages, pages = "x", pages[:1], pages[1:]
		}
	}
	all := append([]held{h}, fresh...)
	for range r.Intn(3) {
		changeTree(r, all)
	}
	for _, h := range all {
		copy(room[32+16*h.ino:], wantRecord(impl.Inode{Kind: h.kind, Owner: h.owner, Size: len(h.data), Pages: h.pages}))
		for n, page := range h.pages {
			if page < 24 {
				copy(room[32*page:], h.data[min(32*n, len(h.data)):min(32*n+32, len(h.data))])
			}
		}
	}
	return string(room)
}

func loanAnswers(mem string, l impl.Loan, i int, n int) []any {
	return []any{impl.LoanOk(l), impl.Ranges(l), impl.Within(l, i, n), impl.Undo(mem, l), impl.Verdict(mem, l), impl.Gone(mem, l), impl.Come(mem, l)}
}

// anyLoans have every argument far off, alone and together.
func anyLoans() []impl.Loan {
	list := goodLoans()
	for _, far := range append(farNumbers(), 0, 4, 8, 9, 23, 24) {
		for _, l := range goodLoans()[:9] {
			ino, client, until, pages, pool, fresh := l, l, l, l, l, l
			ino.Ino, client.Client, until.Until, pages.Pages, pool.Pool, fresh.Fresh = far, far, far, []int{far}, []int{far, far}, []int{far}
			list = append(list, ino, client, until, pages, pool, fresh)
		}
		list = append(list, impl.Loan{Ino: far, Client: far, Until: far, Pages: []int{far}, Pool: []int{far}, Fresh: []int{far}})
	}
	for _, s := range memTexts() {
		for _, l := range goodLoans()[:9] {
			rec, saved := l, l
			rec.Rec, saved.Saved = s, s
			list = append(list, rec, saved)
		}
	}
	for _, n := range append(goodInodes(), wrongInodes()[:40]...) {
		if len(n.Pages) < 13 {
			list = append(list, impl.Loan{Ino: 3, Rec: wantRecord(n), Pages: n.Pages, Saved: pattern(7, 32*len(n.Pages))}, impl.Loan{Ino: 3, Rec: wantRecord(n), Pages: n.Pages, Saved: pattern(7, n.Size&255)})
		}
	}
	return list
}

// TestLoansAnswerAtAnyArguments: a panic fails the test by itself; the same
// question twice has the same answer, and nothing is written into a list.
func TestLoansAnswerAtAnyArguments(t *testing.T) {
	mems := append(memTexts(), zeros(768), strings.Repeat("\xff", 768), pattern(2, 768), impl.Format(9), build(zeros(768), smallTree()))
	numbers := append(farNumbers(), places()...)
	for k, l := range anyLoans() {
		pages, pool, fresh := slices.Clone(l.Pages), slices.Clone(l.Pool), slices.Clone(l.Fresh)
		for m, mem := range mems {
			i, n := numbers[(k+m)%len(numbers)], numbers[(k*7+m*3)%len(numbers)]
			holdLoan(t, mem, l)
			if got := impl.Within(l, i, n); got != wantWithin(letsAt(l), i, n) {
				t.Fatalf("Within(%d, %d) = %v of %+v", i, n, got, l)
			}
			if m == k%len(mems) && !reflect.DeepEqual(loanAnswers(mem, l, i, n), loanAnswers(mem, l, i, n)) {
				t.Fatalf("two answers to one question, of %+v", l)
			}
		}
		if !slices.Equal(pages, l.Pages) || !slices.Equal(pool, l.Pool) || !slices.Equal(fresh, l.Fresh) {
			t.Fatalf("a list of %+v is changed", l)
		}
	}
}

// TestLoansWriteIntoNoArgument: the lists have spare room behind them, filled.
func TestLoansWriteIntoNoArgument(t *testing.T) {
	for _, l := range goodLoans() {
		rooms := [3][]int{}
		for n, list := range []*[]int{&l.Pages, &l.Pool, &l.Fresh} {
			rooms[n] = append(append([]int{}, *list...), -7, -7, -7, -7, -7, -7, -7, -7)
			*list = rooms[n][:len(*list)]
		}
		before := [3][]int{slices.Clone(rooms[0]), slices.Clone(rooms[1]), slices.Clone(rooms[2])}
		for _, mem := range []string{impl.Undo(zeros(768), l), pattern(1, 768), newDirectory("a", "b", []held{fileOf(4, 2, "x", 10), fileOf(5, 2, "")})} {
			for i := range 768 {
				impl.Within(l, i, 1+i%64)
			}
			holdLoan(t, mem, l)
		}
		for n := range rooms {
			if !slices.Equal(rooms[n], before[n]) {
				t.Errorf("a list or what is behind it is changed: %v, was %v", rooms[n], before[n])
			}
		}
	}
}

func TestLoanAnswersAreNewMemory(t *testing.T) {
	l := newcomers()
	mem := newDirectory("a", "b", []held{fileOf(4, 2, "x", 10), dirOf(5, 2, nil)})
	for range 2 {
		if !impl.Verdict(mem, l) {
			t.Fatal("an answer was changed from outside")
		}
		ranges, gone, come := impl.Ranges(l), impl.Gone(mem, l), impl.Come(mem, l)
		if !slices.Equal(ranges, wantRanges(l)) || !slices.Equal(gone, []int{3}) || !slices.Equal(come, []int{4, 5}) {
			t.Errorf("answers %v, %v, %v", ranges, gone, come)
		}
		for n := range ranges {
			ranges[n] = impl.Range{At: -7, N: -7}
		}
		for _, list := range [][]int{gone, come} {
			list = list[:cap(list)]
			for n := range list {
				list[n] = -7
			}
		}
		if !slices.Equal(l.Fresh, []int{4, 5}) {
			t.Errorf("Come shares memory with Fresh: %v", l.Fresh)
		}
	}
	wrong := l
	wrong.Ino = 8
	for _, c := range []struct {
		mem string
		l   impl.Loan
	}{{mem, l}, {mem, wrong}, {mem[1:], l}, {mem + "x", wrong}} {
		if got := impl.Undo(c.mem, c.l); sharesMemory(got, c.mem) || sharesMemory(got, c.l.Rec) || sharesMemory(got, c.l.Saved) {
			t.Errorf("Undo of %d bytes shares memory with an argument", len(c.mem))
		}
	}
}
