package tests

import (
	"math"
	"math/rand"
	"reflect"
	"slices"
	"strconv"
	"strings"
	"testing"

	"loop.example/g00278/impl"
)

// keeperOf is of a tree that lasts, with rest in the pages that nobody has.
func keeperOf(rest string, list []held) impl.Keeper {
	mem := build(rest, list)
	return impl.Keeper{Dev: impl.Dev{Mem: mem, Dur: mem}}
}

func cloneKeeper(k impl.Keeper) impl.Keeper {
	k.Loans = slices.Clone(k.Loans)
	for n, l := range k.Loans {
		l.Pages, l.Pool, l.Fresh = slices.Clone(l.Pages), slices.Clone(l.Pool), slices.Clone(l.Fresh)
		k.Loans[n] = l
	}
	return k
}

func sameLoan(a impl.Loan, b impl.Loan) bool {
	return a.Ino == b.Ino && a.Client == b.Client && a.Until == b.Until && a.Rec == b.Rec && a.Saved == b.Saved && slices.Equal(a.Pages, b.Pages) && slices.Equal(a.Pool, b.Pool) && slices.Equal(a.Fresh, b.Fresh)
}

func sameKeeper(a impl.Keeper, b impl.Keeper) bool {
	return a.Dev == b.Dev && a.Clock == b.Clock && slices.EqualFunc(a.Loans, b.Loans, sameLoan)
}

func isNoKeeper(k impl.Keeper) bool {
	return sameKeeper(k, impl.Keeper{})
}

func wantTruth(k impl.Keeper) string {
	mem := k.Dev.Mem
	for _, l := range k.Loans {
		mem = wantUndo(mem, l)
	}
	return mem
}

// wantKeeper is what the document says of a keeper, sentence by sentence; it
// calls nothing of the program.
func wantKeeper(k impl.Keeper) bool {
	if len(k.Dev.Mem) != 768 || len(k.Dev.Dur) != 768 || k.Clock < 0 || k.Clock > 999999 {
		return false
	}
	truth := wantTruth(k)
	files, used, sound := wantTree(truth)
	inodes, pages, open := [8]int{}, [24]int{}, [768]bool{}
	for n, l := range k.Loans {
		if _, ok := wantLoan(l); !ok || n > 0 && k.Loans[n-1].Ino >= l.Ino || truth[32+16*l.Ino:48+16*l.Ino] != l.Rec {
			return false
		}
		for at, page := range l.Pages {
			sound = sound && truth[32*page:32*page+32] == l.Saved[32*at:32*at+32]
		}
		for _, ino := range l.Fresh {
			inodes[ino]++
			sound = sound && !slices.ContainsFunc(files, func(f impl.File) bool { return f.Ino == ino })
		}
		for _, page := range l.Pool {
			pages[page]++
			sound = sound && !slices.Contains(used, page)
		}
		inodes[l.Ino]++
		for i, lets := range letsAt(l) {
			open[i] = open[i] || lets
		}
	}
	for i := range 768 {
		sound = sound && (open[i] || k.Dev.Mem[i] == k.Dev.Dur[i])
	}
	return sound && slices.Max(inodes[:]) <= 1 && slices.Max(pages[:]) <= 1
}

// zeroed is a text with zeros in some places.
func zeroed(s string, at int, n int) string {
	return s[:at] + zeros(n) + s[at+n:]
}

func isLent(k impl.Keeper, ino int) bool {
	return slices.ContainsFunc(k.Loans, func(l impl.Loan) bool { return l.Ino == ino })
}

func wantLend(k impl.Keeper, client int, ino int, ticks int) (impl.Keeper, int) {
	if !wantKeeper(k) {
		return impl.Keeper{}, impl.Wrong
	}
	if client < 0 || client > 8 || ticks < 1 || ticks > 100 {
		return k, impl.Wrong
	}
	w := told{}
	truth := wantTruth(k)
	w.read(truth)
	if ino < 0 || ino > 7 || w.inodes[ino].Kind == 0 {
		return k, impl.NoFile
	}
	n := w.inodes[ino]
	if isLent(k, ino) {
		return k, impl.Busy
	}
	if n.Owner != 9 && n.Owner != client {
		return k, impl.Denied
	}
	l := impl.Loan{Ino: ino, Client: client, Until: k.Clock + ticks, Rec: truth[32+16*ino : 48+16*ino], Pages: n.Pages}
	for _, page := range n.Pages {
		l.Saved += truth[32*page : 32*page+32]
	}
	takenPages, takenInodes := [24]bool{}, [8]bool{}
	for i, n := range w.inodes {
		takenInodes[i] = n.Kind != 0
		for _, page := range n.Pages {
			takenPages[page] = true
		}
	}
	for _, other := range k.Loans {
		for _, page := range other.Pool {
			takenPages[page] = true
		}
		for _, fresh := range other.Fresh {
			takenInodes[fresh] = true
		}
	}
	for page := 5; page < 24 && len(l.Pool) < 4; page++ {
		if !takenPages[page] {
			l.Pool = append(l.Pool, page)
			k.Dev.Mem, k.Dev.Dur = zeroed(k.Dev.Mem, 32*page, 32), zeroed(k.Dev.Dur, 32*page, 32)
		}
	}
	for fresh := 0; fresh < 8 && len(l.Fresh) < 2 && n.Kind == 2; fresh++ {
		if !takenInodes[fresh] {
			l.Fresh = append(l.Fresh, fresh)
			k.Dev.Mem, k.Dev.Dur = zeroed(k.Dev.Mem, 32+16*fresh, 16), zeroed(k.Dev.Dur, 32+16*fresh, 16)
		}
	}
	k.Loans = append(slices.Clone(k.Loans), l)
	slices.SortFunc(k.Loans, func(a, b impl.Loan) int { return a.Ino - b.Ino })
	return k, impl.Good
}

// wantStays is the keeper beside a code that refuses: one that is right stays
// as it is.
func wantStays(k impl.Keeper) impl.Keeper {
	if !wantKeeper(k) {
		return impl.Keeper{}
	}
	return cloneKeeper(k)
}

// wantAccess is the code that Touch, Last and Look have in common.
func wantAccess(k impl.Keeper, client int, i int, n int) int {
	if !wantKeeper(k) {
		return impl.Wrong
	}
	for _, l := range k.Loans {
		if l.Client == client && wantWithin(letsAt(l), i, n) {
			return impl.Good
		}
	}
	return impl.Fault
}

func lastsIn(d impl.Dev, l impl.Loan) impl.Dev {
	for i, open := range letsAt(l) {
		if open {
			d.Dur = d.Dur[:i] + d.Mem[i:i+1] + d.Dur[i+1:]
		}
	}
	return d
}

func wantBack(k impl.Keeper, client int, ino int) (impl.Keeper, int) {
	if !wantKeeper(k) {
		return impl.Keeper{}, impl.Wrong
	}
	at := slices.IndexFunc(k.Loans, func(l impl.Loan) bool { return l.Ino == ino && l.Client == client })
	if at < 0 {
		return k, impl.NoFile
	}
	l, truth := k.Loans[at], wantTruth(k)
	inos, taken := wantTaken(k.Dev.Mem, l)
	gone := wantGone(k.Dev.Mem, l)
	for _, g := range gone {
		n, _ := wantInode(truth[32+16*g : 48+16*g])
		taken = taken && !isLent(k, g) && (n.Kind == 1 || n.Size == 0)
	}
	k.Loans = slices.Concat(k.Loans[:at], k.Loans[at+1:])
	if !taken {
		k.Dev.Mem = wantUndo(k.Dev.Mem, l)
		k.Dev = lastsIn(k.Dev, l)
		return k, impl.Rejected
	}
	for n := range 8 {
		if slices.Contains(gone, n) || slices.Contains(l.Fresh, n) && !slices.Contains(inos, n) {
			k.Dev.Mem, k.Dev.Dur = zeroed(k.Dev.Mem, 32+16*n, 16), zeroed(k.Dev.Dur, 32+16*n, 16)
		}
	}
	k.Dev = lastsIn(k.Dev, l)
	return k, impl.Good
}

func wantTick(k impl.Keeper) (impl.Keeper, []int) {
	codes := []int{}
	if !wantKeeper(k) {
		return k, codes
	}
	k.Clock = min(k.Clock+1, 999999)
	for _, l := range k.Loans {
		if l.Until <= k.Clock {
			next, code := wantBack(k, l.Client, l.Ino)
			k, codes = next, append(codes, code)
		}
	}
	return k, codes
}

func wantCut(k impl.Keeper, kept []int) impl.Keeper {
	if !wantKeeper(k) {
		return k
	}
	d := wantPower(k.Dev, kept)
	for _, l := range k.Loans {
		d.Mem = wantUndo(d.Mem, l)
	}
	for _, l := range k.Loans {
		d = lastsIn(d, l)
	}
	return impl.Keeper{Dev: d, Clock: k.Clock}
}

// holdKeeper asks what a keeper is; it answers whether it is right.
func holdKeeper(t *testing.T, k impl.Keeper) bool {
	t.Helper()
	ok := wantKeeper(k)
	if got := impl.KeeperOk(k); got != ok {
		t.Fatalf("KeeperOk = %v of %+v", got, k)
	}
	if got := impl.Truth(k); got != wantTruth(k) {
		t.Fatalf("Truth = %q, not %q, of %+v", got, wantTruth(k), k)
	}
	return ok
}

// holdAnswer asks that a keeper that is answered is as wanted, and right, unless
// the one that was asked was not, and that this one is as it was; it answers the
// one to go on with.
func holdAnswer(t *testing.T, what string, was impl.Keeper, k impl.Keeper, got impl.Keeper, want impl.Keeper, code int, wantCode int) impl.Keeper {
	t.Helper()
	if code != wantCode || !sameKeeper(got, want) {
		t.Fatalf("%s = %+v, %d, not %+v, %d, of %+v", what, got, code, want, wantCode, was)
	}
	if !sameKeeper(was, k) {
		t.Fatalf("%s changes the keeper that was asked: %+v, was %+v", what, k, was)
	}
	if !holdKeeper(t, got) && wantKeeper(was) {
		t.Fatalf("%s: not right any more is %+v, from %+v", what, got, was)
	}
	return got
}

func tryLend(t *testing.T, k impl.Keeper, client int, ino int, ticks int) (impl.Keeper, int) {
	t.Helper()
	was := cloneKeeper(k)
	want, wantCode := wantLend(was, client, ino, ticks)
	got, code := impl.Lend(k, client, ino, ticks)
	return holdAnswer(t, "Lend", was, k, got, want, code, wantCode), code
}

func tryTouch(t *testing.T, k impl.Keeper, client int, i int, text string) (impl.Keeper, int) {
	t.Helper()
	was, want := cloneKeeper(k), wantStays(k)
	wantCode := wantAccess(k, client, i, len(text))
	if wantCode == impl.Good {
		want.Dev.Mem = want.Dev.Mem[:i] + text + want.Dev.Mem[i+len(text):]
	}
	got, code := impl.Touch(k, client, i, text)
	return holdAnswer(t, "Touch", was, k, got, want, code, wantCode), code
}

func tryLast(t *testing.T, k impl.Keeper, client int, i int, n int) (impl.Keeper, int) {
	t.Helper()
	was, want := cloneKeeper(k), wantStays(k)
	wantCode := wantAccess(k, client, i, n)
	if wantCode == impl.Good {
		want.Dev = wantFlush(k.Dev, i, n)
	}
	got, code := impl.Last(k, client, i, n)
	return holdAnswer(t, "Last", was, k, got, want, code, wantCode), code
}

func tryLook(t *testing.T, k impl.Keeper, client int, i int, n int) int {
	t.Helper()
	was, want := cloneKeeper(k), ""
	wantCode := wantAccess(k, client, i, n)
	if wantCode == impl.Good {
		want = k.Dev.Mem[i : i+n]
	}
	if got, code := impl.Look(k, client, i, n); got != want || code != wantCode || !sameKeeper(k, was) {
		t.Fatalf("Look = %q, %d, not %q, %d, of %+v", got, code, want, wantCode, k)
	}
	return wantCode
}

func tryBack(t *testing.T, k impl.Keeper, client int, ino int) (impl.Keeper, int) {
	t.Helper()
	was := cloneKeeper(k)
	want, wantCode := wantBack(was, client, ino)
	got, code := impl.GiveBack(k, client, ino)
	return holdAnswer(t, "GiveBack", was, k, got, want, code, wantCode), code
}

func tryTick(t *testing.T, k impl.Keeper) (impl.Keeper, []int) {
	t.Helper()
	was, right := cloneKeeper(k), impl.Good
	want, wantCodes := wantTick(was)
	got, codes := impl.Tick(k)
	if !slices.Equal(codes, wantCodes) {
		t.Fatalf("the codes of Tick are %v, not %v, of %+v", codes, wantCodes, was)
	}
	if !wantKeeper(was) {
		right = impl.Wrong
	}
	return holdAnswer(t, "Tick", was, k, got, want, right, right), codes
}

func tryCut(t *testing.T, k impl.Keeper, kept []int) impl.Keeper {
	t.Helper()
	was, right := cloneKeeper(k), impl.Good
	if !wantKeeper(was) {
		right = impl.Wrong
	}
	return holdAnswer(t, "PowerCut", was, k, impl.PowerCut(k, kept), wantCut(was, kept), right, right)
}

// mustLend is for tests of what comes behind a loan.
func mustLend(t *testing.T, k impl.Keeper, client int, ino int, ticks int) impl.Keeper {
	t.Helper()
	k, code := tryLend(t, k, client, ino, ticks)
	if code != impl.Good {
		t.Fatalf("Lend of %d to %d for %d ticks: %d", ino, client, ticks, code)
	}
	return k
}

func mustTouch(t *testing.T, k impl.Keeper, client int, i int, text string) impl.Keeper {
	t.Helper()
	k, code := tryTouch(t, k, client, i, text)
	if code != impl.Good {
		t.Fatalf("Touch of %d bytes at %d by %d: %d", len(text), i, client, code)
	}
	return k
}

// writeInto has a client write an inode and what it holds.
func writeInto(t *testing.T, k impl.Keeper, client int, h held) impl.Keeper {
	t.Helper()
	k = mustTouch(t, k, client, 32+16*h.ino, wantRecord(impl.Inode{Kind: h.kind, Owner: h.owner, Size: len(h.data), Pages: h.pages}))
	for n, page := range h.pages {
		k = mustTouch(t, k, client, 32*page, h.data[32*n:min(32*n+32, len(h.data))])
	}
	return k
}

func mustBack(t *testing.T, k impl.Keeper, client int, ino int, want int) impl.Keeper {
	t.Helper()
	k, code := tryBack(t, k, client, ino)
	if code != want {
		t.Fatalf("GiveBack of %d by %d: %d, not %d", ino, client, code, want)
	}
	return k
}

// lentKeepers have no loan, a loan of each inode that is there, and of some;
// what clients wrote into them may be dirty.
func lentKeepers(t *testing.T) []impl.Keeper {
	list := []impl.Keeper{}
	for n, tree := range goodTrees() {
		for step := 1; step < 4; step++ {
			k := keeperOf(pattern(60, 768), tree)
			k.Clock = []int{0, 1, 500, 999999}[n%4]
			list = append(list, k)
			for at := 0; at < len(tree); at += step {
				h := tree[len(tree)-1-at]
				client := h.owner
				if client == 9 {
					client = n % 9
				}
				k = mustLend(t, k, client, h.ino, 1+n*11%100)
			}
			list = append(list, k)
			for m, l := range k.Loans {
				for _, r := range wantRanges(l)[m%2:] {
					k = mustTouch(t, k, l.Client, r.At+m, pattern(m, r.N-m))
				}
				list = append(list, k)
			}
		}
	}
	return list
}

func TestCodes(t *testing.T) {
	if impl.Good != 0 || impl.NoFile != 1 || impl.Denied != 2 || impl.Busy != 3 || impl.Fault != 4 || impl.Rejected != 5 || impl.Wrong != 6 {
		t.Error("a code is another number")
	}
}

func TestKeeperNew(t *testing.T) {
	for _, owner := range append(farNumbers(), -2, -1, 0, 1, 2, 3, 4, 5, 6, 7, 8, 9, 10, 11, 265) {
		k, ok := impl.KeeperNew(owner)
		if owner < 0 || owner > 9 {
			if ok || !isNoKeeper(k) {
				t.Errorf("a keeper of %d: %+v", owner, k)
			}
			continue
		}
		mem := build(zeros(768), []held{dirOf(0, owner, nil)})
		if !ok || !holdKeeper(t, k) || !sameKeeper(k, impl.Keeper{Dev: impl.Dev{Mem: mem, Dur: mem}}) {
			t.Errorf("no keeper of %d: %+v", owner, k)
		}
		if k, code := tryLend(t, k, 8, 0, 1); (code == impl.Good) != (owner > 7) || len(k.Loans) > 1 {
			t.Errorf("a keeper of %d lends to 8: %d", owner, code)
		}
	}
}

func TestKeepersThatAreRight(t *testing.T) {
	for _, k := range lentKeepers(t) {
		if !holdKeeper(t, k) {
			t.Fatalf("not right: %+v", k)
		}
		for _, clock := range []int{math.MinInt, -1, 0, 1, 999998, 999999, 1000000, math.MaxInt} {
			k.Clock = clock
			if holdKeeper(t, k) != (clock >= 0 && clock <= 999999) {
				t.Fatalf("the clock %d", clock)
			}
		}
	}
}

// TestTruthOfAnyKeeper: a loan that is none undoes nothing, and one that is
// undoes what was there ahead of it.
func TestTruthOfAnyKeeper(t *testing.T) {
	one := lentOf(fileOf(1, 1, "abc", 6), 1, 5, "\x00", nil, nil)
	two := lentOf(fileOf(1, 2, "xyz", 6), 1, 5, "\x00", nil, nil)
	none := lentOf(fileOf(2, 2, "xyz", 7), 9, 5, "\x00", nil, nil)
	for _, mem := range []string{"", "x", zeros(767), pattern(1, 768), zeros(768), pattern(1, 769)} {
		for _, loans := range [][]impl.Loan{nil, {one}, {one, two}, {two, one}, {none}, {none, one}, {one, none}, {one, one, none, two}, goodLoans()} {
			k := impl.Keeper{Dev: impl.Dev{Mem: mem}, Loans: loans, Clock: -5}
			if holdKeeper(t, k) {
				t.Errorf("right: %+v", k)
			}
			if len(mem) != 768 && impl.Truth(k) != mem {
				t.Errorf("Truth changes %d bytes", len(mem))
			}
		}
	}
	k := impl.Keeper{Dev: impl.Dev{Mem: zeros(768)}, Loans: []impl.Loan{two, none, one}}
	if got := impl.Truth(k); got[192:195] != "abc" || got[224:227] != zeros(3) {
		t.Errorf("Truth = %q", got)
	}
}

func TestLoanOfADirectory(t *testing.T) {
	k := keeperOf(pattern(60, 768), smallTree())
	k.Clock = 7
	k = mustLend(t, k, 8, 4, 100)
	want := impl.Loan{Ino: 4, Client: 8, Until: 107, Rec: wantRecord(impl.Inode{Kind: 2, Owner: 8, Size: 16, Pages: []int{6}}), Pages: []int{6}, Saved: wantEntry(entry(3, "c")) + pattern(60, 768)[208:224], Pool: []int{10, 11, 12, 13}, Fresh: []int{5, 6}}
	if len(k.Loans) != 1 || !sameLoan(k.Loans[0], want) {
		t.Errorf("the loan is %+v", k.Loans)
	}
	for i := range 768 {
		if i >= 320 && i < 448 && k.Dev.Mem[i] != 0 || i >= 448 && i < 736 && k.Dev.Mem[i] != pattern(60, 768)[i] {
			t.Fatalf("the byte %d is %d", i, k.Dev.Mem[i])
		}
	}
	if k.Dev.Mem != k.Dev.Dur {
		t.Error("what is lent does not last")
	}
	k = mustLend(t, k, 3, 2, 1)
	k = mustLend(t, k, 0, 0, 2)
	for n, want := range []impl.Loan{{Ino: 0, Until: 9, Pool: []int{18, 19, 20, 21}, Fresh: []int{7}}, {Ino: 2, Until: 8, Pool: []int{14, 15, 16, 17}}, {Ino: 4, Until: 107, Pool: []int{10, 11, 12, 13}, Fresh: []int{5, 6}}} {
		l := k.Loans[n]
		if l.Ino != want.Ino || l.Until != want.Until || !slices.Equal(l.Pool, want.Pool) || !slices.Equal(l.Fresh, want.Fresh) {
			t.Errorf("loan %d is %+v", n, l)
		}
	}
	k = mustLend(t, k, 8, 3, 2)
	if l := k.Loans[2]; l.Ino != 3 || !slices.Equal(l.Pool, []int{22}) || len(l.Fresh) != 0 {
		t.Errorf("the pool is not the last page: %+v", l)
	}
	k = mustLend(t, k, 0, 1, 2)
	if l := k.Loans[1]; l.Ino != 1 || len(l.Pool) != 0 {
		t.Errorf("there is a page left: %+v", l)
	}
}

// TestFewPagesLeft: files that leave so many pages, and so many inodes.
func TestFewPagesLeft(t *testing.T) {
	for left := range 8 {
		for inodes := range 4 {
			list, free, entries := []held{}, 19-left-4, []impl.Entry{}
			for ino := 7 - inodes; ino > 0; ino-- {
				entries = append(entries, entry(ino, "f"+strconv.Itoa(ino)))
				h := held{ino: ino, kind: 1, owner: ino}
				for len(h.pages) < 6 && free > 0 {
					h.pages = append(h.pages, 4+free)
					free--
				}
				h.data = pattern(ino, 32*len(h.pages))
				list = append(list, h)
			}
			root := dirOf(0, 9, entries, []int{23, 22, 21, 20}[:(len(entries)+1)/2]...)
			k := mustLend(t, keeperOf(pattern(3, 768), append(list, root)), 5, 0, 1)
			want := min(4, left+4-len(root.pages))
			if l := k.Loans[0]; len(l.Pool) != want || len(l.Fresh) != min(2, inodes) {
				t.Errorf("with %d pages and %d inodes left: %+v", left, inodes, l)
			}
			for _, h := range list {
				k = mustLend(t, k, h.owner, h.ino, 1)
			}
			pools := 0
			for _, l := range k.Loans {
				pools += len(l.Pool)
			}
			if pools > left+4-len(root.pages) {
				t.Errorf("%d pages are lent, with %d left", pools, left)
			}
		}
	}
}

func TestNoPageAndNoInodeLeft(t *testing.T) {
	list := []held{dirOf(0, 9, sevenEntries(), 23, 22, 21, 20)}
	for ino := 1; ino < 8; ino++ {
		list = append(list, fileOf(ino, 9, pattern(ino, 64), 3+2*ino, 4+2*ino))
	}
	list[7] = fileOf(7, 9, pattern(7, 96), 17, 18, 19)
	k := keeperOf(zeros(768), list)
	for ino := range 8 {
		k = mustLend(t, k, 8-ino, ino, 1)
	}
	for ino, l := range k.Loans {
		if l.Ino != ino || l.Client != 8-ino || len(l.Pool) != 0 || len(l.Fresh) != 0 {
			t.Errorf("there is something left: %+v", l)
		}
	}
	if k.Dev.Mem != build(zeros(768), list) {
		t.Error("what is lent is changed")
	}
}

// TestLendRefuses: every client, inode and number of ticks.
func TestLendRefuses(t *testing.T) {
	k := keeperOf(zeros(768), smallTree())
	k = mustLend(t, k, 3, 2, 5)
	owners := map[int]int{0: 9, 1: 0, 2: 3, 3: 8, 4: 8}
	for client := -2; client < 12; client++ {
		for ino := -2; ino < 11; ino++ {
			for _, ticks := range []int{math.MinInt, -1, 0, 1, 2, 99, 100, 101, 102, math.MaxInt} {
				want := impl.Good
				owner, there := owners[ino]
				if owner != client && owner != 9 {
					want = impl.Denied
				}
				if ino == 2 {
					want = impl.Busy
				}
				if !there {
					want = impl.NoFile
				}
				if client < 0 || client > 8 || ticks < 1 || ticks > 100 {
					want = impl.Wrong
				}
				next, code := tryLend(t, k, client, ino, ticks)
				if code != want || code == impl.Good && len(next.Loans) != 2 {
					t.Fatalf("Lend of %d to %d for %d ticks: %d, not %d", ino, client, ticks, code, want)
				}
			}
		}
	}
	for _, far := range farNumbers() {
		for _, c := range [][3]int{{far, 0, 1}, {0, far, 1}, {0, 0, far}, {far, far, far}} {
			tryLend(t, k, c[0], c[1], c[2])
		}
	}
}

// refusing is a keeper of which a client holds two loans, with something
// written that does not last yet, and another client one.
func refusing(t *testing.T) impl.Keeper {
	t.Helper()
	k := keeperOf(pattern(9, 768), givers())
	k.Clock = 12
	k = mustLend(t, mustLend(t, mustLend(t, k, 1, 0, 9), 1, 1, 20), 2, 2, 100)
	return mustTouch(t, k, 1, 32*7, "written")
}

// holdStays is the beginning of promise 6, beside a code that refuses: the
// keeper that is answered is right, and tells what the one told that was asked.
func holdStays(t *testing.T, what string, k impl.Keeper, got impl.Keeper, code int, want int) {
	t.Helper()
	if code != want {
		t.Errorf("%s: the code %d, not %d", what, code, want)
	}
	if !impl.KeeperOk(got) || !sameKeeper(got, k) || impl.Truth(got) != impl.Truth(k) {
		t.Errorf("%s: the keeper does not stay right: %+v", what, got)
		return
	}
	if len(got.Loans) != 3 || got.Clock != 12 || len(wantDirty(got.Dev)) != 1 {
		t.Errorf("%s: the keeper has %d loans, the clock %d, the dirty lines %v", what, len(got.Loans), got.Clock, wantDirty(got.Dev))
	}
}

func TestKeeperStaysWhenItDoesNotLend(t *testing.T) {
	k := refusing(t)
	for what, c := range map[string]struct {
		client int
		ino    int
		ticks  int
		want   int
	}{
		"a free inode":         {3, 6, 5, impl.NoFile},
		"a fresh inode":        {1, 7, 5, impl.NoFile},
		"inode 8":              {3, 8, 5, impl.NoFile},
		"inode -1":             {3, -1, 5, impl.NoFile},
		"what is lent":         {2, 0, 5, impl.Busy},
		"what it has already":  {1, 1, 5, impl.Busy},
		"what is another's":    {4, 3, 5, impl.Denied},
		"no client":            {9, 0, 5, impl.Wrong},
		"client -1":            {-1, 3, 5, impl.Wrong},
		"no tick":              {3, 3, 0, impl.Wrong},
		"one tick too many":    {3, 3, 101, impl.Wrong},
		"less ticks than none": {3, 3, math.MinInt, impl.Wrong},
	} {
		got, code := impl.Lend(k, c.client, c.ino, c.ticks)
		holdStays(t, "Lend, "+what, k, got, code, c.want)
	}
	own, _ := impl.KeeperNew(3)
	if got, code := impl.Lend(own, 1, 0, 3); code != impl.Denied || !impl.KeeperOk(got) || !sameKeeper(got, own) {
		t.Errorf("Lend of another's: %d, %+v", code, got)
	}
}

// noAccess are clients, places and numbers of bytes that are not lent in
// refusing.
func noAccess() map[string][3]int {
	return map[string][3]int{
		"no byte": {1, 32, 0}, "the head": {1, 0, 1}, "another client's record": {2, 32, 1}, "another client's page": {1, 32 * 8, 1},
		"a page of none": {1, 32 * 23, 1}, "one byte too many": {2, 64, 17}, "bytes of two loans": {1, 32, 32}, "ahead of the memory": {1, -1, 1},
		"the end": {1, 767, 2}, "behind the memory": {1, 768, 1}, "far behind it": {1, math.MaxInt, 1}, "more than there is": {1, 0, 769},
		"a client without a loan": {3, 32, 1}, "no client": {9, 32, 1}, "client -1": {-1, 32, 1},
	}
}

func TestKeeperStaysWhenItIsNotTouched(t *testing.T) {
	k := refusing(t)
	for what, c := range noAccess() {
		got, code := impl.Touch(k, c[0], c[1], strings.Repeat("x", c[2]))
		holdStays(t, "Touch, "+what, k, got, code, impl.Fault)
	}
}

func TestKeeperStaysWhenNothingLasts(t *testing.T) {
	k := refusing(t)
	for what, c := range noAccess() {
		got, code := impl.Last(k, c[0], c[1], c[2])
		holdStays(t, "Last, "+what, k, got, code, impl.Fault)
	}
	for _, n := range []int{math.MinInt, -1, math.MaxInt} {
		got, code := impl.Last(k, 1, 32, n)
		holdStays(t, "Last of "+strconv.Itoa(n), k, got, code, impl.Fault)
	}
}

func TestKeeperStaysWhenNothingComesBack(t *testing.T) {
	k := refusing(t)
	for what, c := range map[string][2]int{
		"another client's": {2, 0}, "what another has": {1, 2}, "what is not lent": {4, 4}, "a free inode": {1, 6}, "inode 8": {1, 8},
		"inode -1": {1, -1}, "a client without a loan": {3, 0}, "no client": {9, 0}, "client -1": {-1, 0}, "far numbers": {math.MaxInt, math.MinInt},
	} {
		got, code := impl.GiveBack(k, c[0], c[1])
		holdStays(t, "GiveBack, "+what, k, got, code, impl.NoFile)
	}
}

// TestGoesOnBehindRefusals: a liar who is refused takes nothing from the others.
func TestGoesOnBehindRefusals(t *testing.T) {
	k := mustLend(t, keeperOf(pattern(9, 768), givers()), 1, 1, 9)
	k = writeInto(t, k, 1, fileOf(1, 1, "new", 7))
	codes := [7]int{}
	k, codes[0] = impl.Lend(k, 2, 1, 9)
	k, codes[1] = impl.Lend(k, 2, 3, 9)
	k, codes[2] = impl.Lend(k, 2, 7, 9)
	k, codes[3] = impl.Lend(k, 2, 2, 101)
	k, codes[4] = impl.Touch(k, 2, 32*7, "lie")
	k, codes[5] = impl.Last(k, 2, 32*7, 3)
	k, codes[6] = impl.GiveBack(k, 2, 1)
	if codes != [7]int{impl.Busy, impl.Denied, impl.NoFile, impl.Wrong, impl.Fault, impl.Fault, impl.NoFile} {
		t.Errorf("the codes are %v", codes)
	}
	k = mustBack(t, k, 1, 1, impl.Good)
	if f := impl.Files(impl.Truth(k)); len(f) != 6 || f[1].Data != "new" {
		t.Errorf("there is %s", impl.TreeText(impl.Truth(k)))
	}
}

// TestFreshIsNotThereYet: what a client makes is free in Truth until it is
// taken, whatever its record says.
func TestFreshIsNotThereYet(t *testing.T) {
	k, _ := impl.KeeperNew(9)
	k = mustLend(t, k, 1, 0, 5)
	k = writeInto(t, k, 1, fileOf(1, 1, "hi", 6))
	k = writeInto(t, k, 1, dirOf(0, 9, []impl.Entry{entry(1, "f")}, 5))
	if impl.TreeText(impl.Truth(k)) != "d / 9 -\n" {
		t.Errorf("there already: %s", impl.TreeText(impl.Truth(k)))
	}
	if _, code := tryLend(t, k, 1, 1, 5); code != impl.NoFile {
		t.Errorf("Lend of what is not there yet: %d", code)
	}
	k = mustBack(t, k, 1, 0, impl.Good)
	if impl.TreeText(impl.Truth(k)) != "d / 9 -\nf /f 1 6869\n" || k.Dev.Mem != k.Dev.Dur || len(k.Loans) != 0 {
		t.Errorf("not there: %s", impl.TreeText(impl.Truth(k)))
	}
	mustLend(t, k, 1, 1, 5)
}

// TestEachByteAndClient is the middle of promise 6: of all bytes of a memory a
// client gets at those of its own loans, and at nothing else.
func TestEachByteAndClient(t *testing.T) {
	t.Parallel()
	for n, k := range lentKeepers(t) {
		open := [10][768]bool{}
		for _, l := range k.Loans {
			for i, lets := range letsAt(l) {
				open[l.Client][i] = open[l.Client][i] || lets
			}
		}
		for i := n % 13; i < 768; i += 13 {
			client := (i + n) % 10
			want := impl.Fault
			if open[client][i] {
				want = impl.Good
			}
			next, touched := tryTouch(t, k, client, i, "\xa5")
			_, lasted := tryLast(t, next, client, i, 1)
			if looked := tryLook(t, next, client, i, 1); touched != want || lasted != want || looked != want {
				t.Fatalf("client %d at the byte %d: %d, %d, %d, not %d", client, i, touched, lasted, looked, want)
			}
			if want == impl.Good && (next.Dev.Mem[i] != 0xa5 || next.Dev.Mem[:i] != k.Dev.Mem[:i] || next.Dev.Mem[i+1:] != k.Dev.Mem[i+1:] || next.Dev.Dur != k.Dev.Dur) {
				t.Fatalf("client %d writes more than the byte %d", client, i)
			}
		}
	}
}

// sideBySide lends the pages 5 and 6 of one file and 7 of another to client 1,
// and page 8 of a third to client 2; none has a pool.
func sideBySide(t *testing.T) impl.Keeper {
	t.Helper()
	list := []held{dirOf(0, 9, sevenEntries(), 20, 21, 22, 23), fileOf(1, 1, pattern(1, 64), 5, 6), fileOf(2, 1, pattern(2, 32), 7), fileOf(3, 2, pattern(3, 32), 8)}
	for ino := 4; ino < 8; ino++ {
		list = append(list, fileOf(ino, 9, ""))
	}
	list[4] = fileOf(4, 9, pattern(4, 160), 9, 10, 11, 12, 13)
	list[5] = fileOf(5, 9, pattern(4, 192), 14, 15, 16, 17, 18, 19)
	k := keeperOf(zeros(768), list)
	return mustLend(t, mustLend(t, mustLend(t, k, 1, 1, 5), 1, 2, 5), 2, 3, 5)
}

func TestOneLoanAndTwo(t *testing.T) {
	k := sideBySide(t)
	for _, c := range []struct {
		client int
		at     int
		n      int
		want   int
	}{
		{1, 160, 64, impl.Good}, {1, 160, 65, impl.Fault}, {1, 159, 2, impl.Fault}, {1, 190, 4, impl.Good},
		{1, 224, 32, impl.Good}, {1, 223, 1, impl.Good}, {1, 223, 2, impl.Fault}, {1, 160, 96, impl.Fault},
		{1, 255, 1, impl.Good}, {1, 256, 1, impl.Fault}, {1, 255, 2, impl.Fault}, {2, 256, 32, impl.Good},
		{2, 256, 33, impl.Fault}, {2, 255, 1, impl.Fault}, {2, 224, 32, impl.Fault}, {3, 224, 1, impl.Fault},
		{1, 48, 16, impl.Good}, {1, 64, 16, impl.Good}, {1, 48, 17, impl.Fault}, {1, 48, 32, impl.Fault},
		{2, 80, 16, impl.Good}, {2, 48, 1, impl.Fault}, {1, 32, 16, impl.Fault}, {1, 0, 1, impl.Fault},
		{1, 640, 1, impl.Fault}, {1, 160, 0, impl.Fault}, {1, -1, 1, impl.Fault}, {1, 768, 1, impl.Fault},
		{1, 160, 768, impl.Fault}, {1, 0, 768, impl.Fault}, {1, 160, 769, impl.Fault}, {1, 0, 5000, impl.Fault},
		{-1, 160, 1, impl.Fault}, {9, 160, 1, impl.Fault}, {math.MaxInt, 160, 1, impl.Fault}, {math.MinInt, 160, 1, impl.Fault},
		{1, math.MaxInt, 1, impl.Fault}, {1, math.MinInt, 1, impl.Fault}, {1, math.MaxInt - 1, 64, impl.Fault}, {1, 160 - 256, 1, impl.Fault},
	} {
		_, touched := tryTouch(t, k, c.client, c.at, pattern(5, c.n))
		_, lasted := tryLast(t, k, c.client, c.at, c.n)
		if looked := tryLook(t, k, c.client, c.at, c.n); touched != c.want || lasted != c.want || looked != c.want {
			t.Errorf("%+v: %d, %d, %d", c, touched, lasted, looked)
		}
	}
	for _, n := range []int{math.MinInt, -64, -1, math.MaxInt, math.MaxInt - 160, math.MaxInt - 159} {
		_, lasted := tryLast(t, k, 1, 160, n)
		if looked := tryLook(t, k, 1, 160, n); lasted != impl.Fault || looked != impl.Fault {
			t.Errorf("%d bytes: %d, %d", n, lasted, looked)
		}
	}
}

// TestLastIsOfLines: what lasts is the lines of the bytes, and no other.
func TestLastIsOfLines(t *testing.T) {
	k := sideBySide(t)
	k = mustTouch(t, k, 1, 160, strings.Repeat("w", 64))
	next, _ := tryLast(t, k, 1, 175, 2)
	if got := wantDirty(next.Dev); !slices.Equal(got, []int{20, 23, 24, 25, 26, 27}) {
		t.Errorf("dirty are %v", got)
	}
	if s, _ := impl.Look(next, 1, 160, 64); s != strings.Repeat("w", 64) {
		t.Errorf("Look = %q", s)
	}
}

func TestUnchangedComesBack(t *testing.T) {
	for _, tree := range goodTrees() {
		for _, h := range tree {
			k := keeperOf(pattern(60, 768), tree)
			client := h.owner % 9
			files := impl.Files(k.Dev.Mem)
			k = mustLend(t, k, client, h.ino, 1)
			for other := -1; other < 11; other++ {
				for ino := -1; ino < 10; ino++ {
					if other != client || ino != h.ino {
						mustBack(t, k, other, ino, impl.NoFile)
					}
				}
			}
			k = mustBack(t, k, client, h.ino, impl.Good)
			if !reflect.DeepEqual(impl.Files(impl.Truth(k)), files) || len(k.Loans) != 0 || k.Dev.Mem != k.Dev.Dur {
				t.Fatalf("inode %d does not come back as it was", h.ino)
			}
			mustBack(t, k, client, h.ino, impl.NoFile)
			mustLend(t, k, client, h.ino, 1)
		}
	}
}

func TestFileComesBack(t *testing.T) {
	k := mustLend(t, keeperOf(pattern(60, 768), smallTree()), 3, 2, 1)
	for what, c := range map[string]struct {
		h    held
		want int
	}{
		"a larger one":       {fileOf(2, 3, pattern(7, 192), 13, 8, 12, 7, 11, 10), impl.Good},
		"one of no bytes":    {fileOf(2, 3, ""), impl.Good},
		"other pages":        {fileOf(2, 3, "new", 10), impl.Good},
		"another owner":      {fileOf(2, 4, "new", 10), impl.Rejected},
		"anyone's":           {fileOf(2, 9, "new", 10), impl.Rejected},
		"a directory":        {dirOf(2, 3, nil), impl.Rejected},
		"a free one":         {held{ino: 2}, impl.Rejected},
		"one that is none":   {held{ino: 2, kind: 5, owner: 3}, impl.Rejected},
		"a page of no loan":  {held{ino: 2, kind: 1, owner: 3, data: "a", pages: []int{14}}, impl.Rejected},
		"a page of another":  {held{ino: 2, kind: 1, owner: 3, data: "a", pages: []int{23}}, impl.Rejected},
		"a page twice":       {fileOf(2, 3, pattern(1, 40), 10, 10), impl.Rejected},
		"a directory's page": {held{ino: 2, kind: 1, owner: 3, data: "a", pages: []int{5}}, impl.Rejected},
	} {
		w := k
		w = mustTouch(t, w, 3, 64, wantRecord(impl.Inode{Kind: c.h.kind, Owner: c.h.owner, Size: len(c.h.data), Pages: c.h.pages}))
		for n, page := range c.h.pages {
			if slices.Contains([]int{7, 8, 10, 11, 12, 13}, page) {
				w = mustTouch(t, w, 3, 32*page, c.h.data[32*n:min(32*n+32, len(c.h.data))])
			}
		}
		w = mustBack(t, w, 3, 2, c.want)
		data := c.h.data
		if c.want == impl.Rejected {
			data = pattern(2, 40)
		}
		if f := impl.Files(impl.Truth(w))[2]; f.Data != data || f.Owner != 3 || f.Path != "/a" || w.Dev.Mem != w.Dev.Dur || len(w.Loans) != 0 {
			t.Errorf("%s: there is %+v", what, f)
		}
	}
}

// givers is a tree in which inode 0 has the files 1 and 2, the directory 3 of
// Size 0 and the directory 4 with the file 5.
func givers() []held {
	return []held{
		dirOf(0, 9, []impl.Entry{entry(1, "a"), entry(2, "b"), entry(3, "c"), entry(4, "d")}, 5, 6),
		fileOf(1, 1, "one", 7), fileOf(2, 2, "two", 8), dirOf(3, 3, nil), dirOf(4, 4, []impl.Entry{entry(5, "e")}, 9), fileOf(5, 5, "five", 10),
	}
}

// TestDirectoryGivesAway: inode 0 comes back with some of its entries, while
// some inodes are lent to others.
func TestDirectoryGivesAway(t *testing.T) {
	entries := []impl.Entry{entry(1, "a"), entry(2, "b"), entry(3, "c"), entry(4, "d")}
	for stays := range 16 {
		for lent := range 32 {
			k := mustLend(t, keeperOf(pattern(9, 768), givers()), 8, 0, 1)
			left, gone, want := []impl.Entry{}, []int{}, impl.Good
			for n, e := range entries {
				if stays>>n&1 == 1 {
					left = append(left, e)
				} else {
					gone = append(gone, e.Ino)
				}
			}
			for ino := 1; ino < 6; ino++ {
				if lent>>(ino-1)&1 == 1 {
					k = mustLend(t, k, ino, ino, 1)
				}
				if slices.Contains(gone, ino) && (isLent(k, ino) || ino == 4) {
					want = impl.Rejected
				}
			}
			k = writeInto(t, k, 8, dirOf(0, 9, left, []int{6, 5}[:(len(left)+1)/2]...))
			k = mustBack(t, k, 8, 0, want)
			for _, ino := range []int{1, 2, 3, 4} {
				there := impl.Find(impl.Truth(k), "/"+entries[ino-1].Name) == ino
				if there == (want == impl.Good && slices.Contains(gone, ino)) {
					t.Fatalf("with %v gone and %05b lent, inode %d is there: %v", gone, lent, ino, there)
				}
				if !there && (k.Dev.Mem[32+16*ino:48+16*ino] != zeros(16) || k.Dev.Dur[32+16*ino:48+16*ino] != zeros(16)) {
					t.Fatalf("the record of %d is left", ino)
				}
			}
		}
	}
}

// TestEmptiedDirectoryGoes: a directory that is emptied goes only when Truth
// has it so, not while its own client has written it.
func TestEmptiedDirectoryGoes(t *testing.T) {
	k := mustLend(t, mustLend(t, keeperOf(zeros(768), givers()), 8, 0, 9), 4, 4, 9)
	k = writeInto(t, k, 4, dirOf(4, 4, nil))
	root := dirOf(0, 9, []impl.Entry{entry(1, "a"), entry(2, "b"), entry(3, "c")}, 5, 6)
	k = writeInto(t, k, 8, root)
	mustBack(t, k, 8, 0, impl.Rejected)
	emptied := mustBack(t, k, 4, 4, impl.Good)
	if impl.Find(impl.Truth(emptied), "/d") != 4 || impl.Find(impl.Truth(emptied), "/d/e") != -1 {
		t.Fatal("the directory is not emptied")
	}
	gone := mustBack(t, emptied, 8, 0, impl.Good)
	if impl.Find(impl.Truth(gone), "/d") != -1 || !slices.Equal(impl.Used(impl.Truth(gone)), []int{5, 6, 7, 8}) {
		t.Errorf("there is %s", impl.TreeText(impl.Truth(gone)))
	}
	filled := mustTouch(t, k, 4, 96, wantRecord(impl.Inode{Kind: 2, Owner: 4, Size: 16, Pages: []int{9}}))
	filled = mustBack(t, filled, 4, 4, impl.Good)
	mustBack(t, filled, 8, 0, impl.Rejected)
}

// TestNewInodesStay: of those that were fresh, the ones without an entry are
// free again, whatever was written into their records.
func TestNewInodesStay(t *testing.T) {
	k, _ := impl.KeeperNew(2)
	k = mustLend(t, k, 2, 0, 4)
	k = writeInto(t, k, 2, fileOf(1, 2, "x", 6))
	k = writeInto(t, k, 2, fileOf(2, 2, "y", 7))
	k, _ = tryLast(t, k, 2, 48, 32)
	for what, c := range map[string]struct {
		list []impl.Entry
		want string
	}{
		"neither": {nil, "d / 2 -\n"},
		"one":     {[]impl.Entry{entry(1, "a")}, "d / 2 -\nf /a 2 78\n"},
		"two":     {[]impl.Entry{entry(2, "b")}, "d / 2 -\nf /b 2 79\n"},
		"both":    {[]impl.Entry{entry(2, "b"), entry(1, "a")}, "d / 2 -\nf /a 2 78\nf /b 2 79\n"},
	} {
		w := writeInto(t, k, 2, dirOf(0, 2, c.list, []int{5}[:(len(c.list)+1)/2]...))
		w = mustBack(t, w, 2, 0, impl.Good)
		if got := impl.TreeText(w.Dev.Mem); got != c.want || w.Dev.Mem != w.Dev.Dur {
			t.Errorf("%s: there is %s", what, got)
		}
	}
	w := mustTouch(t, k, 2, 32, "\xff")
	w = mustBack(t, w, 2, 0, impl.Rejected)
	if impl.TreeText(w.Dev.Mem) != "d / 2 -\n" || w.Dev.Mem != w.Dev.Dur || w.Dev.Mem[192] != 'x' {
		t.Errorf("put back is %s", impl.TreeText(w.Dev.Mem))
	}
}

func TestTick(t *testing.T) {
	k := keeperOf(zeros(768), givers())
	for ino, ticks := range []int{3, 1, 2, 2, 100, 3} {
		k = mustLend(t, k, ino, ino, ticks)
	}
	k = mustTouch(t, k, 2, 64, "\xff")
	k = mustTouch(t, k, 5, 112, "\xff")
	for tick, want := range [][]int{{impl.Good}, {impl.Rejected, impl.Good}, {impl.Good, impl.Rejected}, {}} {
		next, codes := tryTick(t, k)
		if !slices.Equal(codes, want) || next.Clock != tick+1 {
			t.Fatalf("at tick %d: %v, the clock is %d", tick+1, codes, next.Clock)
		}
		k = next
	}
	for k.Clock < 99 {
		k, _ = tryTick(t, k)
	}
	if len(k.Loans) != 1 || k.Loans[0].Ino != 4 {
		t.Errorf("lent are %+v", k.Loans)
	}
	if k, codes := tryTick(t, k); !slices.Equal(codes, []int{impl.Good}) || len(k.Loans) != 0 || k.Clock != 100 {
		t.Errorf("at the last tick: %v", codes)
	}
}

// TestUntilAndClock: a loan may be over already; it comes back with the next
// tick, not ahead of it.
func TestUntilAndClock(t *testing.T) {
	lent := mustLend(t, keeperOf(zeros(768), smallTree()), 3, 2, 100)
	for _, clock := range []int{0, 1, 98, 99, 100, 101, 5000, 999997, 999998, 999999} {
		for _, until := range []int{0, 1, 99, 100, 101, 102, 999998, 999999, 1000000, 1000001, 1000099, math.MaxInt} {
			k := cloneKeeper(lent)
			k.Clock, k.Loans[0].Until = clock, until
			k = mustTouch(t, k, 3, 64, wantRecord(impl.Inode{Kind: 1, Owner: 3}))
			next, codes := tryTick(t, k)
			later := min(clock+1, 999999)
			if next.Clock != later || (len(codes) == 1) != (until <= later) || len(codes) == len(next.Loans) {
				t.Errorf("a loan up to %d at %d: %v, and then %+v", until, clock, codes, next)
			}
		}
	}
}

func TestClockStandsStill(t *testing.T) {
	k := keeperOf(zeros(768), smallTree())
	k.Clock = 999999
	k = mustLend(t, k, 3, 2, 100)
	if k.Loans[0].Until != 1000099 {
		t.Errorf("the loan is up to %d", k.Loans[0].Until)
	}
	for range 3 {
		k, _ = tryTick(t, k)
		if k.Clock != 999999 || len(k.Loans) != 1 {
			t.Errorf("the clock is %d, lent are %d", k.Clock, len(k.Loans))
		}
	}
	mustBack(t, k, 3, 2, impl.Good)
}

// TestTickGoesInOrder: inode 0 comes back ahead of the file it gave away, and
// a directory behind what it lies in.
func TestTickGoesInOrder(t *testing.T) {
	lent := mustLend(t, mustLend(t, keeperOf(zeros(768), givers()), 1, 1, 1), 8, 0, 1)
	k := writeInto(t, lent, 8, dirOf(0, 9, []impl.Entry{entry(2, "b"), entry(3, "c"), entry(4, "d")}, 5, 6))
	next, codes := tryTick(t, k)
	if !slices.Equal(codes, []int{impl.Rejected, impl.Good}) || impl.Find(next.Dev.Mem, "/a") != 1 {
		t.Errorf("the codes are %v", codes)
	}
	chained := []held{dirOf(0, 9, []impl.Entry{entry(2, "b")}, 5), dirOf(2, 9, []impl.Entry{entry(1, "a")}, 6), dirOf(1, 9, nil)}
	k = mustLend(t, mustLend(t, keeperOf(zeros(768), chained), 1, 1, 1), 2, 2, 1)
	k = writeInto(t, k, 2, dirOf(2, 9, nil))
	next, codes = tryTick(t, k)
	if !slices.Equal(codes, []int{impl.Good, impl.Good}) || impl.Find(next.Dev.Mem, "/b/a") != -1 || impl.Find(next.Dev.Mem, "/b") != 2 {
		t.Errorf("the codes are %v, there is %s", codes, impl.TreeText(next.Dev.Mem))
	}
}

// holdCut is the end of promise 6: all that is there without what is lent is
// there, and lasts.
func holdCut(t *testing.T, k impl.Keeper, kept []int) {
	t.Helper()
	p := tryCut(t, k, kept)
	if len(p.Loans) != 0 || p.Clock != k.Clock || p.Dev.Mem != p.Dev.Dur || !impl.KeeperOk(p) {
		t.Fatalf("with %v kept, power leaves %+v", kept, p)
	}
	if !reflect.DeepEqual(impl.Files(p.Dev.Mem), impl.Files(impl.Truth(k))) || !impl.Sound(p.Dev.Dur) {
		t.Fatalf("with %v kept, power leaves %s", kept, impl.TreeText(p.Dev.Mem))
	}
	for page := range 24 {
		lent := slices.ContainsFunc(k.Loans, func(l impl.Loan) bool { return slices.Contains(l.Pool, page) })
		if !lent && p.Dev.Mem[32*page:32*page+32] != wantTruth(k)[32*page:32*page+32] {
			t.Fatalf("with %v kept, power changes the page %d", kept, page)
		}
	}
	holdKeeper(t, p)
	if again := tryCut(t, p, kept); !sameKeeper(again, p) {
		t.Fatalf("power goes again, and leaves another keeper")
	}
}

func TestPowerCut(t *testing.T) {
	for n, k := range lentKeepers(t) {
		for m, kept := range keptLists() {
			if (n+m)%4 == 0 {
				holdCut(t, k, kept)
			}
		}
	}
}

// TestPowerCutOfEachLine: all that was lent is written over; of this power
// leaves no line, one of them, all but one, or all.
func TestPowerCutOfEachLine(t *testing.T) {
	k := keeperOf(pattern(9, 768), givers())
	for _, ino := range []int{0, 2, 4, 5} {
		k = mustLend(t, k, ino, ino, 5)
	}
	for _, l := range k.Loans {
		for _, r := range wantRanges(l) {
			k = mustTouch(t, k, l.Client, r.At, strings.Repeat("\xee", r.N))
		}
	}
	dirty := impl.Dirty(k.Dev)
	if len(dirty) < 40 {
		t.Fatalf("only %d lines are dirty", len(dirty))
	}
	holdCut(t, k, nil)
	holdCut(t, k, dirty)
	for line := range 98 {
		holdCut(t, k, []int{line - 1})
		holdCut(t, k, slices.DeleteFunc(slices.Clone(dirty), func(n int) bool { return n == line }))
		next, _ := tryLast(t, k, k.Loans[line%4].Client, 8*line, 8)
		holdCut(t, next, []int{96 - line})
	}
}

// faults are changes to a keeper of givers, of which the inodes 0, 1 and 4 are
// lent; none of them leaves it right.
func faults() map[string]func(k *impl.Keeper) {
	return map[string]func(k *impl.Keeper){
		"Mem one byte short":               func(k *impl.Keeper) { k.Dev.Mem = k.Dev.Mem[:767] },
		"Dur one byte short":               func(k *impl.Keeper) { k.Dev.Dur = k.Dev.Dur[:767] },
		"both one byte long":               func(k *impl.Keeper) { k.Dev.Mem, k.Dev.Dur = k.Dev.Mem+"x", k.Dev.Dur+"x" },
		"Dur one byte long":                func(k *impl.Keeper) { k.Dev.Dur += "\x00" },
		"no Dev":                           func(k *impl.Keeper) { k.Dev = impl.Dev{} },
		"the clock below 0":                func(k *impl.Keeper) { k.Clock = -1 },
		"the clock beyond the last":        func(k *impl.Keeper) { k.Clock = 1000000 },
		"the clock far beyond the last":    func(k *impl.Keeper) { k.Clock = math.MaxInt },
		"two loans in another order":       func(k *impl.Keeper) { k.Loans[0], k.Loans[1] = k.Loans[1], k.Loans[0] },
		"the last loans in another order":  func(k *impl.Keeper) { k.Loans[1], k.Loans[2] = k.Loans[2], k.Loans[1] },
		"a loan twice":                     func(k *impl.Keeper) { k.Loans = append(k.Loans, k.Loans[2]) },
		"the first loan twice":             func(k *impl.Keeper) { k.Loans = slices.Insert(k.Loans, 0, k.Loans[0]) },
		"very many loans":                  func(k *impl.Keeper) { k.Loans = slices.Repeat(k.Loans, 3000) },
		"a loan of inode 8":                func(k *impl.Keeper) { k.Loans[2].Ino = 8 },
		"a loan of inode -1":               func(k *impl.Keeper) { k.Loans[0].Ino = -1 },
		"a loan to client 9":               func(k *impl.Keeper) { k.Loans[1].Client = 9 },
		"a loan up to tick -1":             func(k *impl.Keeper) { k.Loans[1].Until = -1 },
		"a loan that is none":              func(k *impl.Keeper) { k.Loans = append(k.Loans, impl.Loan{Ino: 6}) },
		"Saved one byte short":             func(k *impl.Keeper) { k.Loans[1].Saved = k.Loans[1].Saved[:31] },
		"a loan of another inode":          func(k *impl.Keeper) { k.Loans[2].Ino = 5 },
		"a loan of a free inode":           func(k *impl.Keeper) { k.Loans[2].Ino = 7 },
		"a Rec of another kind":            func(k *impl.Keeper) { k.Loans[0].Rec = "\x01" + k.Loans[0].Rec[1:] },
		"a Rec and Saved of less entries":  func(k *impl.Keeper) { *k = lessEntries(*k) },
		"Saved with another entry":         func(k *impl.Keeper) { k.Loans[2].Saved = wantEntry(entry(6, "e")) + k.Loans[2].Saved[16:] },
		"Saved with the entry of another":  func(k *impl.Keeper) { k.Loans[2].Saved = wantEntry(entry(2, "e")) + k.Loans[2].Saved[16:] },
		"the page of another inode":        func(k *impl.Keeper) { *k = otherPage(*k, 8) },
		"the page of another loan":         func(k *impl.Keeper) { *k = otherPage(*k, 9) },
		"its page in another pool":         func(k *impl.Keeper) { *k = otherPage(*k, 19) },
		"Fresh that is there":              func(k *impl.Keeper) { k.Loans[0].Fresh = []int{2, 6} },
		"Fresh that is lent":               func(k *impl.Keeper) { k.Loans[0].Fresh = []int{1, 6} },
		"Fresh that is lent, in the last":  func(k *impl.Keeper) { k.Loans[0].Fresh, k.Loans[2].Fresh = nil, []int{1, 6} },
		"Fresh of two loans":               func(k *impl.Keeper) { k.Loans[2].Fresh = []int{6} },
		"the second Fresh of two loans":    func(k *impl.Keeper) { k.Loans[2].Fresh = []int{7} },
		"Pool that is used":                func(k *impl.Keeper) { k.Loans[1].Pool = []int{8} },
		"Pool that is used by a lower one": func(k *impl.Keeper) { k.Loans[1].Pool = []int{10, 11} },
		"Pool that is another's page":      func(k *impl.Keeper) { k.Loans[1].Pool = []int{9} },
		"Pool of inode 0's page":           func(k *impl.Keeper) { k.Loans[1].Pool = []int{6, 11} },
		"a page in two pools":              func(k *impl.Keeper) { k.Loans[2].Pool = []int{18, 19} },
		"a page in two pools, the last":    func(k *impl.Keeper) { k.Loans[0].Pool = append(k.Loans[0].Pool[:3], 22) },
		"a loan less, and what was dirty":  func(k *impl.Keeper) { *k = dropDirty(*k) },
		"another head":                     func(k *impl.Keeper) { *k = bothWith(*k, 3, "2") },
		"a byte in the head's zeros":       func(k *impl.Keeper) { *k = bothWith(*k, 31, "\x01") },
		"a record that is none":            func(k *impl.Keeper) { *k = bothWith(*k, 80, "\x03") },
		"a file without an entry":          func(k *impl.Keeper) { *k = strayFile(*k) },
		"an entry of a free inode":         func(k *impl.Keeper) { *k = bothWith(*k, 64, zeros(16)) },
		"two files with one page":          func(k *impl.Keeper) { *k = bothWith(*k, 64+4, "\x0a") },
		"another byte lasts in the head":   func(k *impl.Keeper) { k.Dev.Dur = impl.With(k.Dev.Dur, 31, "x") },
		"another byte lasts in a record":   func(k *impl.Keeper) { k.Dev.Dur = impl.With(k.Dev.Dur, 64, "x") },
		"another byte lasts in a page":     func(k *impl.Keeper) { k.Dev.Dur = impl.With(k.Dev.Dur, 32*8, "x") },
		"a file that is not lent, written": func(k *impl.Keeper) { k.Dev.Mem = impl.With(k.Dev.Mem, 32*8, "x") },
		"the last byte written":            func(k *impl.Keeper) { k.Dev.Mem = impl.With(k.Dev.Mem, 767, "x") },
	}
}

// wrongKeepers have one fault each, in what is else as right as it was.
func wrongKeepers(t *testing.T) map[string]impl.Keeper {
	base := keeperOf(pattern(9, 768), givers())
	base.Clock = 5
	for _, ino := range []int{1, 0, 4} {
		base = mustLend(t, base, ino, ino, 5)
	}
	if !holdKeeper(t, base) || !slices.Equal(base.Loans[2].Pool, []int{19, 20, 21, 22}) || !slices.Equal(base.Loans[0].Fresh, []int{6, 7}) {
		t.Fatalf("what is to be changed is %+v", base)
	}
	list := map[string]impl.Keeper{"the zero value": {}}
	for what, change := range faults() {
		k := cloneKeeper(base)
		change(&k)
		list[what] = k
	}
	free := keeperOf(zeros(768), []held{dirOf(0, 9, []impl.Entry{entry(4, "d")}, 5), dirOf(4, 4, nil)})
	free = mustLend(t, mustLend(t, free, 0, 0, 5), 4, 4, 5)
	lentTwice := cloneKeeper(free)
	lentTwice.Loans[0].Fresh, lentTwice.Loans[1].Fresh = []int{1, 2}, []int{2, 3}
	list["one inode fresh twice"] = lentTwice
	ghost := cloneKeeper(free)
	ghost.Loans = []impl.Loan{free.Loans[0], lentOf(fileOf(3, 3, ""), 3, 5, "", nil, nil), free.Loans[1]}
	ghost.Loans[0].Fresh, ghost.Loans[2].Fresh = []int{1, 2}, []int{3}
	list["an inode that is fresh, and lent"] = ghost
	return list
}

func bothWith(k impl.Keeper, at int, text string) impl.Keeper {
	k.Dev.Mem, k.Dev.Dur = impl.With(k.Dev.Mem, at, text), impl.With(k.Dev.Dur, at, text)
	return k
}

func lessEntries(k impl.Keeper) impl.Keeper {
	l := lentOf(dirOf(0, 9, []impl.Entry{entry(1, "a"), entry(2, "b"), entry(3, "c")}, 5, 6), 0, 5, "", k.Loans[0].Pool, nil)
	k.Loans[0] = l
	return k
}

// otherPage gives the loan of the file 1 another page, in Rec and in Pages.
func otherPage(k impl.Keeper, page int) impl.Keeper {
	l := lentOf(fileOf(1, 1, "one", page), 1, 5, "", nil, nil)
	l.Saved = wantTruth(k)[32*page : 32*page+32]
	k.Loans[1] = l
	return k
}

func dropDirty(k impl.Keeper) impl.Keeper {
	k.Dev.Mem = impl.With(k.Dev.Mem, 32*7, "dirty")
	k.Loans = slices.Delete(k.Loans, 1, 2)
	return k
}

func strayFile(k impl.Keeper) impl.Keeper {
	k.Loans[0].Fresh = []int{6}
	return bothWith(k, 144, wantRecord(impl.Inode{Kind: 1, Owner: 3}))
}

func TestWrongKeepers(t *testing.T) {
	t.Parallel()
	for what, k := range wrongKeepers(t) {
		if impl.KeeperOk(k) || holdKeeper(t, k) {
			t.Errorf("%s: taken for a keeper", what)
		}
		for _, c := range [][2]int{{0, 0}, {1, 1}, {2, 2}, {4, 4}, {9, 9}, {-1, -1}} {
			lent, one := impl.Lend(k, c[0], c[1], 1)
			back, two := impl.GiveBack(k, c[0], c[1])
			if one != impl.Wrong || two != impl.Wrong || !isNoKeeper(lent) || !isNoKeeper(back) {
				t.Errorf("%s: Lend and GiveBack of %v are %d, %d", what, c, one, two)
			}
			for _, at := range []int{-1, 32, 48, 160, 704} {
				touched, one := impl.Touch(k, c[0], at, "x")
				empty, none := impl.Touch(k, c[0], at, "")
				lasted, two := impl.Last(k, c[0], at, 1)
				seen, three := impl.Look(k, c[0], at, 1)
				if one != impl.Wrong || two != impl.Wrong || three != impl.Wrong || none != impl.Wrong || seen != "" {
					t.Errorf("%s: Touch, Last and Look at %d are %d, %d, %d", what, at, one, two, three)
				}
				if !isNoKeeper(touched) || !isNoKeeper(empty) || !isNoKeeper(lasted) {
					t.Errorf("%s: Touch and Last answer a keeper", what)
				}
			}
		}
		if next, codes := impl.Tick(k); !sameKeeper(next, k) || len(codes) != 0 {
			t.Errorf("%s: Tick answers %v", what, codes)
		}
		if !sameKeeper(impl.PowerCut(k, nil), k) || !sameKeeper(impl.PowerCut(k, []int{20}), k) {
			t.Errorf("%s: PowerCut changes it", what)
		}
	}
}

// TestEachByteWhereMemIsNotDur: a byte that differs is right just within what
// is lent.
func TestEachByteWhereMemIsNotDur(t *testing.T) {
	t.Parallel()
	for n, k := range lentKeepers(t) {
		open := [768]bool{}
		for _, l := range k.Loans {
			for i, lets := range letsAt(l) {
				open[i] = open[i] || lets
			}
		}
		for i := n % 11; i < 768; i += 11 {
			w := k
			w.Dev.Dur = k.Dev.Dur[:i] + string([]byte{k.Dev.Mem[i] + 1}) + k.Dev.Dur[i+1:]
			if holdKeeper(t, w) != open[i] {
				t.Fatalf("with another byte %d lasting, KeeperOk is %v", i, !open[i])
			}
		}
	}
}

// changeKeeper makes one or two changes, most of which leave no keeper.
func changeKeeper(r *rand.Rand, k impl.Keeper) impl.Keeper {
	k = cloneKeeper(k)
	for range 1 + r.Intn(2) {
		at := r.Intn(768)
		byteNow := string([]byte{"\x00\x01\x02\x05\x10abz"[r.Intn(8)]})
		switch pick := r.Intn(9); {
		case pick == 0:
			k.Dev.Dur = k.Dev.Dur[:at] + byteNow + k.Dev.Dur[at+1:]
		case pick == 1:
			k.Dev.Mem = k.Dev.Mem[:at] + byteNow + k.Dev.Mem[at+1:]
		case pick == 2:
			k = bothWith(k, at, byteNow)
		case len(k.Loans) == 0:
			k.Clock = []int{-1, 0, 999999, 1000000}[r.Intn(4)]
		case pick == 3:
			n := r.Intn(len(k.Loans))
			k.Loans = slices.Delete(k.Loans, n, n+1)
		case pick == 4:
			k.Loans[r.Intn(len(k.Loans))].Ino = r.Intn(8)
		case pick == 5:
			k.Loans[r.Intn(len(k.Loans))].Pool = []int{5 + r.Intn(19)}
		case pick == 6:
			k.Loans[r.Intn(len(k.Loans))].Fresh = []int{r.Intn(8)}
		case pick == 7:
			l := &k.Loans[r.Intn(len(k.Loans))]
			if l.Saved != "" {
				l.Saved = impl.With(l.Saved, r.Intn(len(l.Saved)), byteNow)
			}
		case pick == 8:
			l := &k.Loans[r.Intn(len(k.Loans))]
			l.Client, l.Until = r.Intn(11), r.Intn(9)-1
		}
	}
	return k
}

func TestChangedKeepers(t *testing.T) {
	t.Parallel()
	r := rand.New(rand.NewSource(61))
	count := [2]int{}
	keepers := lentKeepers(t)
	for range 6000 {
		k := changeKeeper(r, keepers[r.Intn(len(keepers))])
		if !holdKeeper(t, k) {
			count[0]++
			continue
		}
		count[1]++
		k, _ = tryTick(t, k)
		for _, l := range k.Loans {
			k, _ = tryBack(t, k, l.Client, l.Ino)
		}
	}
	if count[0] < 1000 || count[1] < 1000 {
		t.Errorf("too few of one sort to tell: %v", count)
	}
}

// session is a keeper of which clients ask at random, honest ones and liars;
// count has the codes of each question.
type session struct {
	t     *testing.T
	r     *rand.Rand
	k     impl.Keeper
	count map[string][7]int
}

func (s *session) note(what string, code int) {
	count := s.count[what]
	count[code]++
	s.count[what] = count
}

// step asks one question; what is there without what is lent stays as it was,
// unless something comes back and is taken.
func (s *session) step() {
	files, taken := impl.Files(impl.Truth(s.k)), false
	pick := s.r.Intn(20)
	switch {
	case pick < 6 || len(s.k.Loans) == 0 && pick < 14:
		s.lend()
	case len(s.k.Loans) > 0 && pick < 10:
		s.write()
	case len(s.k.Loans) > 0 && pick < 13:
		taken = s.giveBack()
	case pick < 17:
		s.access()
	case pick < 19:
		next, codes := tryTick(s.t, s.k)
		for _, code := range codes {
			s.note("tick", code)
			taken = taken || code == impl.Good
		}
		s.k = next
	case s.r.Intn(3) == 0:
		s.k = tryCut(s.t, s.k, s.r.Perm(100)[:s.r.Intn(100)])
		s.note("power", impl.Good)
	}
	if !taken && !reflect.DeepEqual(files, impl.Files(impl.Truth(s.k))) {
		s.t.Fatalf("without anything taken, there is %s", impl.TreeText(impl.Truth(s.k)))
	}
}

func (s *session) lend() {
	client, ino := s.r.Intn(11)-1, s.r.Intn(10)-1
	if files := impl.Files(impl.Truth(s.k)); s.r.Intn(8) > 0 {
		f := files[s.r.Intn(len(files))]
		ino, client = f.Ino, s.r.Intn(9)
		if s.r.Intn(6) > 0 && f.Owner != 9 {
			client = f.Owner
		}
	}
	next, code := tryLend(s.t, s.k, client, ino, []int{1, 2, 3, 4, 9, 20, 50, 100, 0, 101}[s.r.Intn(10)])
	s.note("lend", code)
	s.k = next
}

// write has a client write all that was lent to it in one loan; a line or two
// of it may last.
func (s *session) write() {
	l := s.k.Loans[s.r.Intn(len(s.k.Loans))]
	mem := scribble(s.r, s.k.Dev.Mem, l)
	for _, r := range wantRanges(l) {
		s.k = mustTouch(s.t, s.k, l.Client, r.At, mem[r.At:r.At+r.N])
		if s.r.Intn(4) == 0 {
			s.k, _ = tryLast(s.t, s.k, l.Client, r.At, 1+s.r.Intn(r.N))
		}
	}
}

func (s *session) giveBack() bool {
	l := s.k.Loans[s.r.Intn(len(s.k.Loans))]
	client, ino := l.Client, l.Ino
	if s.r.Intn(10) == 0 {
		client, ino = s.r.Intn(9), s.r.Intn(8)
	}
	next, code := tryBack(s.t, s.k, client, ino)
	s.note("back", code)
	s.k = next
	return code == impl.Good
}

func (s *session) access() {
	client, at, n := s.r.Intn(11)-1, s.r.Intn(800)-16, s.r.Intn(40)
	if len(s.k.Loans) > 0 && s.r.Intn(3) > 0 {
		l := s.k.Loans[s.r.Intn(len(s.k.Loans))]
		r := wantRanges(l)[0]
		client, at, n = l.Client, r.At+s.r.Intn(r.N+2)-1, s.r.Intn(20)
	}
	next, touched := tryTouch(s.t, s.k, client, at, pattern(s.r.Intn(250), n))
	s.note("touch", touched)
	s.k = next
	next, lasted := tryLast(s.t, s.k, client, at, n)
	s.note("last", lasted)
	s.k = next
	s.note("look", tryLook(s.t, s.k, client, at, n))
}

// TestSessions is promise 6 as a whole.
func TestSessions(t *testing.T) {
	t.Parallel()
	r := rand.New(rand.NewSource(62))
	s := &session{t: t, r: r, count: map[string][7]int{}}
	for range 250 {
		s.k = keeperOf(pattern(r.Intn(99), 768), randomTree(r))
		s.k.Clock = []int{0, 1, 50, 999990}[r.Intn(4)]
		for range 60 {
			s.step()
		}
	}
	for what, codes := range map[string][]int{
		"lend":  {impl.Good, impl.NoFile, impl.Denied, impl.Busy, impl.Wrong},
		"touch": {impl.Good, impl.Fault}, "last": {impl.Good, impl.Fault}, "look": {impl.Good, impl.Fault},
		"back": {impl.Good, impl.NoFile, impl.Rejected}, "tick": {impl.Good, impl.Rejected}, "power": {impl.Good},
	} {
		for _, code := range codes {
			if s.count[what][code] < 50 {
				t.Errorf("too few of one sort to tell: %s, %v", what, s.count[what])
			}
		}
	}
}

// keeperAnswers are all answers to one question.
func keeperAnswers(k impl.Keeper, a int, b int, c int, text string, kept []int) []any {
	truth, ok := impl.Truth(k), impl.KeeperOk(k)
	fresh, made := impl.KeeperNew(a)
	lent, lend := impl.Lend(k, a, b, c)
	touched, touch := impl.Touch(k, a, b, text)
	lasted, last := impl.Last(k, a, b, c)
	seen, look := impl.Look(k, a, b, c)
	given, back := impl.GiveBack(k, a, b)
	later, codes := impl.Tick(k)
	return []any{truth, ok, fresh, made, lent, lend, touched, touch, lasted, last, seen, look, given, back, later, codes, impl.PowerCut(k, kept)}
}

func holdAll(t *testing.T, k impl.Keeper, a int, b int, c int, text string, kept []int) {
	t.Helper()
	holdKeeper(t, k)
	tryLend(t, k, a, b, c)
	tryTouch(t, k, a, b, text)
	tryLast(t, k, a, b, c)
	tryLook(t, k, a, b, c)
	tryBack(t, k, a, b)
	tryTick(t, k)
	tryCut(t, k, kept)
}

// TestKeepersAnswerAtAnyArguments: a panic fails the test by itself; the same
// question twice has the same answer.
func TestKeepersAnswerAtAnyArguments(t *testing.T) {
	t.Parallel()
	keepers := lentKeepers(t)[:40]
	for _, d := range append(devices(), wrongDevices()...) {
		keepers = append(keepers, impl.Keeper{Dev: d}, impl.Keeper{Dev: d, Loans: goodLoans(), Clock: 5})
	}
	base := keeperOf(zeros(768), smallTree())
	for n, l := range anyLoans() {
		one, many := cloneKeeper(base), cloneKeeper(base)
		one.Loans, many.Loans = []impl.Loan{l}, append(goodLoans()[:n%5], l)
		keepers = append(keepers, one, many)
	}
	numbers, strings, lines := append(farNumbers(), places()...), memTexts(), keptLists()
	for n, k := range keepers {
		a, b, c := numbers[n%len(numbers)], numbers[n*7%len(numbers)], numbers[n*3%len(numbers)]
		text, kept := strings[n%len(strings)], lines[n%len(lines)]
		holdAll(t, k, a, b, c, text, kept)
		holdAll(t, k, n%9, b, c, text, kept)
		if n%8 == 0 && !reflect.DeepEqual(keeperAnswers(k, a, b, c, text, kept), keeperAnswers(k, a, b, c, text, kept)) {
			t.Fatalf("two answers to one question, of %+v", k)
		}
	}
}

// roomy is a keeper whose lists have spare room behind them, filled.
func roomy(k impl.Keeper) (impl.Keeper, []*[]int) {
	rooms := []*[]int{}
	loans := append(make([]impl.Loan, 0, len(k.Loans)+4), k.Loans...)
	for n := range loans {
		for _, list := range []*[]int{&loans[n].Pages, &loans[n].Pool, &loans[n].Fresh} {
			room := append(append([]int{}, *list...), -7, -7, -7, -7, -7, -7, -7, -7)
			*list = room[:len(*list)]
			rooms = append(rooms, &room)
		}
	}
	spare := append(loans, impl.Loan{Ino: -7}, impl.Loan{Ino: -7}, impl.Loan{Ino: -7}, impl.Loan{Ino: -7})
	k.Loans = spare[:len(loans)]
	return k, rooms
}

// TestKeepersWriteIntoNoArgument, nor behind it.
func TestKeepersWriteIntoNoArgument(t *testing.T) {
	t.Parallel()
	keepers := lentKeepers(t)
	for _, k := range wrongKeepers(t) {
		if len(k.Loans) < 10 {
			keepers = append(keepers, k)
		}
	}
	for n, given := range keepers {
		k, rooms := roomy(given)
		lines := append(slices.Repeat([]int{n % 96}, 3), -7, -7)
		was := cloneKeeper(k)
		for ino := range 8 {
			for _, client := range []int{n % 9, ino} {
				impl.Lend(k, client, ino, 3)
				impl.GiveBack(k, client, ino)
			}
		}
		for _, l := range given.Loans {
			impl.GiveBack(k, l.Client, l.Ino)
			impl.Touch(k, l.Client, 32+16*l.Ino, "xyz")
			impl.Last(k, l.Client, 32+16*l.Ino, 16)
		}
		holdAll(t, k, n%9, 32+16*(n%8), 16, "abc", lines[:3])
		late := k
		late.Clock = 999999
		impl.Tick(late)
		spare := k.Loans[:cap(k.Loans)]
		if !sameKeeper(k, was) || !slices.Equal(lines[3:], []int{-7, -7}) || len(given.Loans) > 0 && spare[len(k.Loans)].Ino != -7 {
			t.Fatalf("the keeper or what is behind its loans is changed: %+v", k)
		}
		for _, room := range rooms {
			if !slices.Equal((*room)[len(*room)-8:], []int{-7, -7, -7, -7, -7, -7, -7, -7}) {
				t.Fatalf("what is behind a list is changed: %v", *room)
			}
		}
	}
}

func keeperTexts(k impl.Keeper) []string {
	list := []string{k.Dev.Mem, k.Dev.Dur}
	for _, l := range k.Loans {
		list = append(list, l.Rec, l.Saved)
	}
	return list
}

// keeperLists are the lists of a keeper, with the room behind them.
func keeperLists(k impl.Keeper) [][]int {
	list := [][]int{}
	for _, l := range k.Loans {
		for _, one := range [][]int{l.Pages, l.Pool, l.Fresh} {
			list = append(list, one[:cap(one)])
		}
	}
	return list
}

// holdNew asks that an answer shares nothing with a keeper, and that no two
// lists of the answer share anything.
func holdNew(t *testing.T, what string, given impl.Keeper, answer impl.Keeper) {
	t.Helper()
	for _, a := range keeperTexts(answer) {
		for _, b := range keeperTexts(given) {
			if sharesMemory(a, b) {
				t.Fatalf("%s shares a text with its argument", what)
			}
		}
	}
	was, lists := cloneKeeper(given), keeperLists(answer)
	for n, list := range lists {
		for at := range list {
			list[at] = -100 - n
		}
	}
	for n, list := range lists {
		if slices.ContainsFunc(list, func(x int) bool { return x != -100-n }) {
			t.Fatalf("two lists of %s share memory", what)
		}
	}
	clear(answer.Loans[:cap(answer.Loans)])
	if !sameKeeper(was, given) {
		t.Fatalf("%s shares a list with its argument", what)
	}
}

func TestKeeperAnswersAreNewMemory(t *testing.T) {
	t.Parallel()
	keepers := lentKeepers(t)
	for _, k := range wrongKeepers(t) {
		if len(k.Loans) < 10 {
			keepers = append(keepers, k)
		}
	}
	text := pattern(3, 16)
	for _, k := range keepers {
		later, _ := impl.Tick(k)
		holdNew(t, "Tick", k, later)
		holdNew(t, "PowerCut", k, impl.PowerCut(k, []int{0, 20, 95}))
		if truth := impl.Truth(k); sharesMemory(truth, k.Dev.Mem) || sharesMemory(truth, k.Dev.Dur) {
			t.Fatal("Truth shares memory with its argument")
		}
		for client := range 9 {
			for ino := range 8 {
				lent, _ := impl.Lend(k, client, ino, 1)
				holdNew(t, "Lend", k, lent)
			}
		}
		none, _ := impl.Lend(k, 9, 0, 1)
		holdNew(t, "Lend to none", k, none)
		none, _ = impl.Touch(k, 1, 0, text)
		holdNew(t, "Touch of the head", k, none)
		none, _ = impl.Last(k, 1, 0, 1)
		holdNew(t, "Last of the head", k, none)
		none, _ = impl.GiveBack(k, 9, 0)
		holdNew(t, "GiveBack of nothing", k, none)
		for _, l := range k.Loans {
			back, _ := impl.GiveBack(k, l.Client, l.Ino)
			touched, _ := impl.Touch(k, l.Client, 32+16*l.Ino, text)
			lasted, _ := impl.Last(k, l.Client, 32+16*l.Ino, 16)
			seen, _ := impl.Look(k, l.Client, 32+16*l.Ino, 16)
			if sharesMemory(touched.Dev.Mem, text) || sharesMemory(seen, k.Dev.Mem) {
				t.Fatal("Touch or Look shares memory with its argument")
			}
			holdNew(t, "GiveBack", k, back)
			holdNew(t, "Touch", k, touched)
			holdNew(t, "Last", k, lasted)
		}
	}
	one, _ := impl.KeeperNew(9)
	one.Dev.Mem = "changed"
	if two, ok := impl.KeeperNew(9); !ok || !holdKeeper(t, two) {
		t.Error("a change in one answer shows in another")
	}
}
