package tests

import (
	"fmt"
	"math"
	"math/rand"
	"reflect"
	"slices"
	"strings"
	"testing"

	"loop.example/g00278/impl"
)

func evLend(client int, ino int, ticks int) impl.Event {
	return impl.Event{Kind: impl.EvLend, Client: client, Ino: ino, At: ticks}
}

func evTouch(client int, at int, text string) impl.Event {
	return impl.Event{Kind: impl.EvTouch, Client: client, At: at, Text: text}
}

func evLast(client int, at int, n int) impl.Event {
	return impl.Event{Kind: impl.EvLast, Client: client, At: at, Text: pattern(n%250, n)}
}

func evBack(client int, ino int) impl.Event {
	return impl.Event{Kind: impl.EvBack, Client: client, Ino: ino}
}

func evTick() impl.Event {
	return impl.Event{Kind: impl.EvTick}
}

func evPower(kept ...int) impl.Event {
	return impl.Event{Kind: impl.EvPower, Kept: kept}
}

func evFile(client int, ino int, data string) impl.Event {
	return impl.Event{Kind: impl.EvFile, Client: client, Ino: ino, Text: data}
}

func evMake(client int, ino int, kind int, name string) impl.Event {
	return impl.Event{Kind: impl.EvMake, Client: client, Ino: ino, At: kind, Text: name}
}

func evRemove(client int, ino int, name string) impl.Event {
	return impl.Event{Kind: impl.EvRemove, Client: client, Ino: ino, Text: name}
}

func evFill(client int, ino int, fresh int, data string) impl.Event {
	return impl.Event{Kind: impl.EvFill, Client: client, Ino: ino, At: fresh, Text: data}
}

// The want functions of this file are what the document says of many clients,
// sentence by sentence; they call nothing of the program.

func wantLoanOf(k impl.Keeper, client int, ino int) (impl.Loan, bool) {
	for _, l := range k.Loans {
		if l.Client == client && l.Ino == ino {
			return l, true
		}
	}
	return impl.Loan{}, false
}

func wantTouch(k impl.Keeper, client int, i int, text string) (impl.Keeper, int) {
	code := wantAccess(k, client, i, len(text))
	if code == impl.Good {
		k.Dev.Mem = k.Dev.Mem[:i] + text + k.Dev.Mem[i+len(text):]
	}
	return k, code
}

func wantLast(k impl.Keeper, client int, i int, n int) (impl.Keeper, int) {
	code := wantAccess(k, client, i, n)
	if code == impl.Good {
		k.Dev = wantFlush(k.Dev, i, n)
	}
	return k, code
}

// wantPutsOf is what an honest client writes for an event.
func wantPutsOf(l impl.Loan, mem string, e impl.Event) ([]impl.Put, bool) {
	switch e.Kind {
	case 6:
		return wantPutFile(l, mem, e.Text)
	case 7:
		puts, _, ok := wantMake(l, mem, e.Text, e.At)
		return puts, ok
	case 8:
		return wantRemove(l, mem, e.Text)
	}
	return wantFill(l, mem, e.At, e.Text)
}

func wantWrite(k impl.Keeper, e impl.Event) (impl.Keeper, int) {
	l, there := wantLoanOf(k, e.Client, e.Ino)
	if !there {
		return k, impl.NoFile
	}
	puts, ok := wantPutsOf(l, k.Dev.Mem, e)
	if !ok {
		return k, impl.Denied
	}
	for _, p := range puts {
		k, _ = wantTouch(k, e.Client, p.At, p.Bytes)
		k, _ = wantLast(k, e.Client, p.At, len(p.Bytes))
	}
	return k, impl.Good
}

func wantAct(k impl.Keeper, e impl.Event) (impl.Keeper, int) {
	if !wantKeeper(k) {
		return k, impl.Wrong
	}
	switch e.Kind {
	case 0:
		return wantLend(k, e.Client, e.Ino, e.At)
	case 1:
		return wantTouch(k, e.Client, e.At, e.Text)
	case 2:
		return wantLast(k, e.Client, e.At, len(e.Text))
	case 3:
		return wantBack(k, e.Client, e.Ino)
	case 4:
		k, _ = wantTick(k)
		return k, impl.Good
	case 5:
		return wantCut(k, e.Kept), impl.Good
	case 6, 7, 8, 9:
		return wantWrite(k, e)
	}
	return k, impl.Wrong
}

func wantEventText(e impl.Event) string {
	hex := fmt.Sprintf("%x", e.Text)
	if hex == "" {
		hex = "-"
	}
	switch e.Kind {
	case 0:
		return fmt.Sprintf("lend %d %d %d", e.Client, e.Ino, e.At)
	case 1:
		return fmt.Sprintf("touch %d %d %s", e.Client, e.At, hex)
	case 2:
		return fmt.Sprintf("last %d %d %d", e.Client, e.At, len(e.Text))
	case 3:
		return fmt.Sprintf("back %d %d", e.Client, e.Ino)
	case 4:
		return "tick"
	case 5:
		text := "power"
		for _, line := range e.Kept {
			text += fmt.Sprintf(" %d", line)
		}
		return text
	case 6:
		return fmt.Sprintf("file %d %d %s", e.Client, e.Ino, hex)
	case 7:
		return fmt.Sprintf("make %d %d %d %s", e.Client, e.Ino, e.At, e.Text)
	case 8:
		return fmt.Sprintf("remove %d %d %s", e.Client, e.Ino, e.Text)
	case 9:
		return fmt.Sprintf("fill %d %d %d %s", e.Client, e.Ino, e.At, hex)
	}
	return ""
}

// content is what an inode tells, wherever its bytes stand.
type content struct {
	kind  int
	owner int
	data  string
}

func contentOf(mem string, ino int) content {
	n, _ := wantInode(mem[32+16*ino : 48+16*ino])
	return content{kind: n.Kind, owner: n.Owner, data: wantData(mem, n)}
}

func contentsOf(mem string) [8]content {
	list := [8]content{}
	for ino := range list {
		list[ino] = contentOf(mem, ino)
	}
	return list
}

// takenBy are the loans of a keeper that an event brings back and that are
// taken; code is what the event was answered with.
func takenBy(k impl.Keeper, e impl.Event, code int) []impl.Loan {
	taken := []impl.Loan{}
	_, codes := wantTick(k)
	for _, l := range k.Loans {
		late := e.Kind == impl.EvTick && l.Until <= min(k.Clock+1, 999999)
		if late && codes[0] == impl.Good || e.Kind == impl.EvBack && code == impl.Good && l.Ino == e.Ino {
			taken = append(taken, l)
		}
		if late {
			codes = codes[1:]
		}
	}
	return taken
}

// holdOnlyTaken is promise 8 for one event: what is there is sound, and each
// inode is as it was, but what was lent and is taken, what that gave away, and
// what it took.
func holdOnlyTaken(t *testing.T, was impl.Keeper, next impl.Keeper, e impl.Event, code int) {
	t.Helper()
	truth := impl.Truth(next)
	if !impl.Sound(truth) || !impl.KeeperOk(next) {
		t.Fatalf("%q leaves what is not sound: %q", impl.EventText(e), truth)
	}
	want := contentsOf(wantTruth(was))
	for _, l := range takenBy(was, e, code) {
		mem, old := was.Dev.Mem, want[l.Ino]
		want[l.Ino] = contentOf(mem, l.Ino)
		if want[l.Ino].kind != old.kind || want[l.Ino].owner != old.owner {
			t.Fatalf("%q: taken is a record of another kind or owner: %+v, was %+v", impl.EventText(e), want[l.Ino], old)
		}
		for _, ino := range wantGone(mem, l) {
			want[ino] = content{}
		}
		for _, ino := range wantCome(mem, l) {
			want[ino] = contentOf(mem, ino)
			if want[ino].owner != l.Client || want[ino].kind == 0 {
				t.Fatalf("%q: what is new is %+v", impl.EventText(e), want[ino])
			}
		}
	}
	if got := contentsOf(truth); got != want {
		t.Fatalf("%q leaves %+v, not %+v", impl.EventText(e), got, want)
	}
}

// tryAct holds one event against the document and against promise 8.
func tryAct(t *testing.T, k impl.Keeper, e impl.Event) (impl.Keeper, int) {
	t.Helper()
	was, kept := cloneKeeper(k), slices.Clone(e.Kept)
	want, wantCode := wantAct(was, e)
	got, code := impl.Act(k, e)
	holdAnswer(t, "Act of "+impl.EventText(e), was, k, got, want, code, wantCode)
	if !slices.Equal(kept, e.Kept) {
		t.Fatalf("Act changes the lines of the event: %v, were %v", e.Kept, kept)
	}
	if wantKeeper(was) {
		holdOnlyTaken(t, was, got, e, code)
	}
	return got, code
}

// step is an event and the code that it is to have.
type step struct {
	e    impl.Event
	code int
}

// play has all events happen, one by one and by ActAll.
func play(t *testing.T, k impl.Keeper, list ...step) impl.Keeper {
	t.Helper()
	first, events, codes := k, []impl.Event{}, []int{}
	for n, s := range list {
		next, code := tryAct(t, k, s.e)
		if code != s.code {
			t.Fatalf("event %d, %q, has the code %d, not %d", n, impl.EventText(s.e), code, s.code)
		}
		k, events, codes = next, append(events, s.e), append(codes, code)
	}
	holdActAll(t, first, events, k, codes)
	return k
}

func holdActAll(t *testing.T, k impl.Keeper, events []impl.Event, want impl.Keeper, wantCodes []int) {
	t.Helper()
	was := cloneKeeper(k)
	got, codes := impl.ActAll(k, events)
	if !sameKeeper(got, want) || !slices.Equal(codes, wantCodes) {
		t.Fatalf("ActAll of %d events = %+v, %v, not %+v, %v", len(events), got, codes, want, wantCodes)
	}
	if !sameKeeper(was, k) {
		t.Fatalf("ActAll changes the keeper that was asked: %+v, was %+v", k, was)
	}
}

func holdTreeText(t *testing.T, what string, k impl.Keeper, want string) {
	t.Helper()
	if got := impl.TreeText(impl.Truth(k)); got != want {
		t.Errorf("%s: there is %q, not %q", what, got, want)
	}
}

const (
	giversText  = "d / 9 -\nf /a 1 6f6e65\nf /b 2 74776f\nd /c 3 -\nd /d 4 -\nf /d/e 5 66697665\n"
	noBytesText = "d / 9 -\nf /a 1 -\nf /b 2 74776f\nd /c 3 -\nd /d 4 -\nf /d/e 5 66697665\n"
)

func TestKindsOfEvents(t *testing.T) {
	got := []int{impl.EvLend, impl.EvTouch, impl.EvLast, impl.EvBack, impl.EvTick, impl.EvPower, impl.EvFile, impl.EvMake, impl.EvRemove, impl.EvFill}
	if !slices.Equal(got, []int{0, 1, 2, 3, 4, 5, 6, 7, 8, 9}) {
		t.Errorf("a kind is another number: %v", got)
	}
}

func TestLoanOf(t *testing.T) {
	for _, k := range lentKeepers(t) {
		for client := -1; client < 11; client++ {
			for ino := -1; ino < 10; ino++ {
				want, there := wantLoanOf(k, client, ino)
				if got, ok := impl.LoanOf(k, client, ino); ok != there || !sameLoan(got, want) {
					t.Fatalf("LoanOf(%d, %d) = %+v, %v, not %+v, %v", client, ino, got, ok, want, there)
				}
			}
		}
		for _, far := range farNumbers() {
			for _, c := range [][2]int{{far, 0}, {0, far}, {far, far}} {
				if got, ok := impl.LoanOf(k, c[0], c[1]); ok || !sameLoan(got, impl.Loan{}) {
					t.Fatalf("LoanOf(%d, %d) = %+v, %v", c[0], c[1], got, ok)
				}
			}
		}
	}
	k := play(t, keeperOf(zeros(768), givers()), step{evLend(1, 1, 5), impl.Good}, step{evLend(2, 2, 7), impl.Good})
	if l, ok := impl.LoanOf(k, 2, 2); !ok || l.Ino != 2 || l.Client != 2 || l.Until != 7 || l.Rec != "\x01\x02\x03\x00\x08"+zeros(11) || l.Saved != "two"+zeros(29) {
		t.Errorf("the loan of 2 is %+v, %v", l, ok)
	}
	for _, c := range [][2]int{{1, 2}, {2, 1}, {1, 0}, {1, 3}, {1, 7}, {1, 8}, {9, 1}} {
		if _, ok := impl.LoanOf(k, c[0], c[1]); ok {
			t.Errorf("there is a loan of %d to %d", c[1], c[0])
		}
	}
}

// TestHonestEvents has each kind of event by honest clients.
func TestHonestEvents(t *testing.T) {
	k, _ := impl.KeeperNew(9)
	k = play(t, k,
		step{evLend(1, 0, 5), impl.Good}, step{evMake(1, 0, 1, "f"), impl.Good}, step{evFill(1, 0, 1, "hello"), impl.Good},
		step{evMake(1, 0, 2, "d"), impl.Good}, step{evTick(), impl.Good}, step{evBack(1, 0), impl.Good})
	holdTreeText(t, "made", k, "d / 9 -\nd /d 1 -\nf /f 1 68656c6c6f\n")
	k = play(t, k,
		step{evLend(1, 1, 5), impl.Good}, step{evFile(1, 1, "bye"), impl.Good}, step{evBack(1, 1), impl.Good},
		step{evLend(1, 2, 5), impl.Good}, step{evMake(1, 2, 1, "g"), impl.Good}, step{evBack(1, 2), impl.Good})
	holdTreeText(t, "changed", k, "d / 9 -\nd /d 1 -\nf /d/g 1 -\nf /f 1 627965\n")
	k = play(t, k, step{evLend(7, 0, 1), impl.Good}, step{evRemove(7, 0, "f"), impl.Good}, step{evTick(), impl.Good}, step{evBack(7, 0), impl.NoFile})
	holdTreeText(t, "removed", k, "d / 9 -\nd /d 1 -\nf /d/g 1 -\n")
	k = play(t, k,
		step{evLend(1, 3, 9), impl.Good}, step{evFile(1, 3, "gone"), impl.Good}, step{evTouch(1, 160, "no"), impl.Fault},
		step{evLast(1, 32+16*3, 16), impl.Good}, step{evPower(), impl.Good}, step{evBack(1, 3), impl.NoFile})
	holdTreeText(t, "power", k, "d / 9 -\nd /d 1 -\nf /d/g 1 -\n")
	if k.Clock != 2 || len(k.Loans) != 0 || k.Dev.Mem != k.Dev.Dur {
		t.Errorf("at the end there is %+v", k)
	}
}

// TestLyingEvents has liars write what is not sound, and what is sound and
// not theirs.
func TestLyingEvents(t *testing.T) {
	file := func(owner int, size int, pages string) string {
		return "\x01" + string([]byte{byte(owner), byte(size), 0}) + pages + zeros(12-len(pages))
	}
	k := keeperOf(pattern(9, 768), givers())
	k = play(t, k, step{evLend(1, 1, 9), impl.Good}, step{evLend(6, 0, 9), impl.Good})
	for what, rec := range map[string]string{
		"another owner": file(2, 3, "\x07"), "a directory": "\x02\x01\x00" + zeros(13), "free": zeros(16), "no record": "liar, all of it!",
		"another's page": file(1, 3, "\x08"), "a page of none": file(1, 3, "\x17"), "a page of the liar in 0": file(1, 3, "\x0f"), "too great": file(1, 193, "\x07\x0b\x0c\x0d\x0e"),
	} {
		w := play(t, k, step{evTouch(1, 48, rec), impl.Good}, step{evTouch(1, 32*7, "lie"), impl.Good}, step{evLast(1, 48, 16), impl.Good})
		holdTreeText(t, what+", before", w, giversText)
		w = play(t, w, step{evBack(1, 1), impl.Rejected}, step{evBack(1, 1), impl.NoFile})
		holdTreeText(t, what, w, giversText)
	}
	for what, s := range map[string]step{
		"the head":         {evTouch(1, 0, "x"), impl.Fault},
		"another's record": {evTouch(1, 64, "x"), impl.Fault},
		"another's page":   {evTouch(6, 32*7, "x"), impl.Fault},
		"no loan":          {evTouch(2, 64, "x"), impl.Fault},
		"another's file":   {evFile(6, 1, "x"), impl.NoFile},
		"another's loan":   {evBack(6, 1), impl.NoFile},
		"what is lent":     {evLend(6, 1, 3), impl.Busy},
		"what is not his":  {evLend(6, 2, 3), impl.Denied},
	} {
		if w := play(t, k, s); !sameKeeper(w, k) {
			t.Errorf("%s: the keeper is another one: %+v", what, w)
		}
	}
	w := play(t, k, step{evTouch(1, 48, file(1, 0, "")), impl.Good}, step{evBack(1, 1), impl.Good})
	holdTreeText(t, "a liar's sound file", w, noBytesText)
}

// TestEventsOfALiarsRecord: an honest client's events of a record that names
// pages that were not lent go by the gate.
func TestEventsOfALiarsRecord(t *testing.T) {
	k := play(t, keeperOf(pattern(9, 768), givers()), step{evLend(1, 1, 9), impl.Good}, step{evLend(6, 0, 9), impl.Good})
	rec := wantRecord(impl.Inode{Kind: 1, Owner: 1, Size: 64, Pages: []int{8, 7}})
	w := play(t, k, step{evTouch(1, 48, rec), impl.Good}, step{evFile(1, 1, pattern(4, 40)), impl.Good})
	if w.Dev.Mem[256:288] != k.Dev.Mem[256:288] || w.Dev.Mem[224:232] != pattern(4, 40)[32:] || w.Dev.Dur[224:232] != pattern(4, 40)[32:] {
		t.Errorf("another's page is %q, the lent one %q", w.Dev.Mem[256:288], w.Dev.Mem[224:256])
	}
	if want := wantRecord(impl.Inode{Kind: 1, Owner: 1, Size: 40, Pages: []int{8, 7}}); w.Dev.Mem[48:64] != want || w.Dev.Dur[48:64] != want {
		t.Errorf("the record behind what is left out is %q", w.Dev.Mem[48:64])
	}
	holdTreeText(t, "another's page", play(t, w, step{evBack(1, 1), impl.Rejected}), giversText)
	root := wantRecord(impl.Inode{Kind: 2, Owner: 9, Size: 16, Pages: []int{10}})
	w = play(t, k, step{evTouch(6, 32, root), impl.Good}, step{evMake(6, 0, 1, "x"), impl.Denied}, step{evRemove(6, 0, "a"), impl.Denied})
	holdTreeText(t, "no directory", play(t, w, step{evBack(6, 0), impl.Rejected}), giversText)
	fresh := wantRecord(impl.Inode{Kind: 1, Owner: 6, Size: 3, Pages: []int{9}})
	w = play(t, k, step{evMake(6, 0, 1, "x"), impl.Good}, step{evTouch(6, 128, fresh), impl.Good}, step{evFill(6, 0, 6, "lie"), impl.Good})
	if w.Dev.Mem[288:320] != k.Dev.Mem[288:320] {
		t.Errorf("the page of a directory is %q", w.Dev.Mem[288:320])
	}
	holdTreeText(t, "a directory's page", play(t, w, step{evBack(6, 0), impl.Rejected}), giversText)
}

// TestWhatIsTouchedMayLast: a touch alone does not last; what an honest client
// writes does.
func TestWhatIsTouchedMayLast(t *testing.T) {
	k := play(t, keeperOf(zeros(768), givers()), step{evLend(1, 1, 9), impl.Good}, step{evLend(0, 0, 9), impl.Good})
	w := play(t, k, step{evTouch(1, 229, "dirty"), impl.Good})
	if got := impl.Dirty(w.Dev); !slices.Equal(got, []int{28, 29}) {
		t.Errorf("a touch leaves the lines %v", got)
	}
	w = play(t, w, step{evLast(1, 231, 1), impl.Good})
	if got := impl.Dirty(w.Dev); !slices.Equal(got, []int{29}) {
		t.Errorf("the last of a byte leaves the lines %v", got)
	}
	for _, e := range []impl.Event{evFile(1, 1, pattern(5, 100)), evMake(0, 0, 1, "new"), evMake(0, 0, 2, "new"), evRemove(0, 0, "b")} {
		w := play(t, k, step{e, impl.Good})
		if w.Dev.Mem == k.Dev.Mem || w.Dev.Dur != w.Dev.Mem {
			t.Errorf("%q leaves the lines %v", impl.EventText(e), impl.Dirty(w.Dev))
		}
	}
	w = play(t, k, step{evMake(0, 0, 1, "new"), impl.Good}, step{evFill(0, 0, 6, pattern(6, 60)), impl.Good})
	if w.Dev.Dur != w.Dev.Mem || contentOf(w.Dev.Mem, 6).data != pattern(6, 60) {
		t.Errorf("what is filled leaves the lines %v", impl.Dirty(w.Dev))
	}
}

// TestLoanEndsAtItsTick: a loan that ends at just this tick, and one tick
// later.
func TestLoanEndsAtItsTick(t *testing.T) {
	for _, clock := range []int{0, 7, 999997} {
		for ticks := 1; ticks < 4; ticks++ {
			k := keeperOf(zeros(768), givers())
			k.Clock = clock
			k = play(t, k, step{evLend(1, 1, ticks), impl.Good}, step{evTouch(1, 48, "\x01\x01\x00\x00\x00"), impl.Good})
			for n := 1; n < ticks && clock+n < 999999; n++ {
				k = play(t, k, step{evTick(), impl.Good})
				if _, there := impl.LoanOf(k, 1, 1); !there || k.Clock != clock+n {
					t.Fatalf("a loan for %d ticks is over at the tick %d", ticks, n)
				}
				holdTreeText(t, "lent", k, giversText)
			}
			if clock+ticks > 999999 {
				k = play(t, k, step{evTick(), impl.Good}, step{evTick(), impl.Good}, step{evTick(), impl.Good}, step{evFile(1, 1, ""), impl.Good}, step{evBack(1, 1), impl.Good})
			} else {
				k = play(t, k, step{evTick(), impl.Good}, step{evFile(1, 1, "late"), impl.NoFile}, step{evTouch(1, 48, "late"), impl.Fault}, step{evBack(1, 1), impl.NoFile})
			}
			if len(k.Loans) != 0 {
				t.Fatalf("a loan for %d ticks is not over: %+v", ticks, k.Loans)
			}
			holdTreeText(t, "over", k, noBytesText)
		}
	}
	k := play(t, keeperOf(zeros(768), givers()),
		step{evLend(2, 2, 1), impl.Good}, step{evLend(1, 1, 2), impl.Good}, step{evFile(1, 1, ""), impl.Good}, step{evTouch(2, 64, "liar"), impl.Good}, step{evTick(), impl.Good})
	holdTreeText(t, "a liar's loan is over", k, giversText)
	if len(k.Loans) != 1 || k.Loans[0].Ino != 1 {
		t.Errorf("after a tick, lent are %+v", k.Loans)
	}
	holdTreeText(t, "all are over", play(t, k, step{evTick(), impl.Good}), noBytesText)
}

// TestEventsOfNoLoan: a client that has none, an inode that is lent to another
// one, is not lent, is free, is fresh in a loan, is none.
func TestEventsOfNoLoan(t *testing.T) {
	k := play(t, keeperOf(pattern(9, 768), givers()), step{evLend(1, 0, 9), impl.Good}, step{evLend(1, 1, 9), impl.Good}, step{evLend(2, 2, 9), impl.Good}, step{evTouch(1, 224, "dirty"), impl.Good})
	pairs := [][2]int{{3, 0}, {3, 1}, {0, 0}, {2, 0}, {2, 1}, {1, 2}, {1, 3}, {1, 4}, {4, 4}, {1, 5}, {1, 6}, {1, 7}, {1, 8}, {1, -1}, {9, 0}, {-1, 0}, {9, 9}}
	for _, far := range farNumbers() {
		pairs = append(pairs, [2]int{far, 0}, [2]int{1, far}, [2]int{far, far})
	}
	for _, p := range pairs {
		client, ino := p[0], p[1]
		for _, e := range []impl.Event{
			evBack(client, ino), evFile(client, ino, "x"), evFile(client, ino, zeros(193)), evMake(client, ino, 1, "x"), evMake(client, ino, 3, ""),
			evRemove(client, ino, "a"), evRemove(client, ino, "none"), evFill(client, ino, 6, "x"), evFill(client, ino, -1, ""),
		} {
			if w := play(t, k, step{e, impl.NoFile}); !sameKeeper(w, k) {
				t.Errorf("%q: the keeper is another one: %+v", impl.EventText(e), w)
			}
		}
		if _, ok := impl.LoanOf(k, client, ino); ok {
			t.Errorf("there is a loan of %d to %d", ino, client)
		}
	}
	for _, s := range []step{
		{evLend(3, 0, 5), impl.Busy}, {evLend(1, 1, 5), impl.Busy}, {evLend(3, 4, 5), impl.Denied}, {evLend(3, 6, 5), impl.NoFile}, {evLend(3, 8, 5), impl.NoFile}, {evLend(3, -1, 5), impl.NoFile},
		{evLend(9, 3, 5), impl.Wrong}, {evLend(-1, 3, 5), impl.Wrong}, {evLend(3, 3, 0), impl.Wrong}, {evLend(3, 3, 101), impl.Wrong}, {evLend(3, 3, math.MinInt), impl.Wrong},
		{evTouch(3, 32, "x"), impl.Fault}, {evLast(3, 32, 1), impl.Fault}, {evTouch(2, 32, "x"), impl.Fault}, {evLast(2, 32, 1), impl.Fault}, {evTouch(9, 32, "x"), impl.Fault}, {evTouch(1, 32, ""), impl.Fault},
		{evTouch(1, math.MaxInt, "xy"), impl.Fault}, {evTouch(1, math.MinInt, "xy"), impl.Fault}, {evLast(1, math.MaxInt, 2), impl.Fault}, {evLast(1, -1, 2), impl.Fault},
	} {
		if w := play(t, k, s); !sameKeeper(w, k) {
			t.Errorf("%q: the keeper is another one: %+v", impl.EventText(s.e), w)
		}
	}
}

// TestEvLastOfManyBytes: of none, of all that lie in the loan side by side, and
// of one more.
func TestEvLastOfManyBytes(t *testing.T) {
	k := play(t, keeperOf(zeros(768), givers()), step{evLend(1, 1, 9), impl.Good}, step{evLend(2, 2, 9), impl.Good})
	k = play(t, k, step{evTouch(1, 224, pattern(1, 32)), impl.Good}, step{evTouch(1, 352, pattern(2, 128)), impl.Good}, step{evTouch(1, 48, pattern(3, 16)), impl.Good})
	for _, c := range []struct {
		at   int
		n    int
		code int
		left int
	}{
		{224, 0, impl.Fault, 22}, {48, 0, impl.Fault, 22}, {224, 1, impl.Good, 21}, {224, 32, impl.Good, 18}, {224, 33, impl.Fault, 22}, {255, 1, impl.Good, 21}, {255, 2, impl.Fault, 22},
		{48, 16, impl.Good, 20}, {48, 17, impl.Fault, 22}, {352, 128, impl.Good, 6}, {352, 129, impl.Fault, 22}, {351, 129, impl.Fault, 22}, {0, 768, impl.Fault, 22}, {0, 769, impl.Fault, 22}, {480, 1, impl.Fault, 22},
	} {
		w := play(t, k, step{evLast(1, c.at, c.n), c.code})
		if got := len(impl.Dirty(w.Dev)); got != c.left {
			t.Errorf("%d bytes at %d: %d lines are left, not %d", c.n, c.at, got, c.left)
		}
	}
}

// TestEvFileOfEachSize: of no bytes, of just MaxFile, and one beyond; of as
// many as there are pages for, and one beyond.
func TestEvFileOfEachSize(t *testing.T) {
	tree := []held{dirOf(0, 9, []impl.Entry{entry(1, "a"), entry(2, "b")}, 5), fileOf(1, 1, pattern(1, 40), 9, 6), fileOf(2, 2, "")}
	k := play(t, keeperOf(pattern(3, 768), tree), step{evLend(1, 1, 9), impl.Good}, step{evLend(2, 2, 9), impl.Good})
	for ino, most := range map[int]int{1: impl.MaxFile, 2: 128} {
		for _, size := range []int{0, 1, 31, 32, 33, 64, 127, most - 1, most, most + 1, 193, 4000} {
			data := pattern(size%250, size)
			if size > most {
				if w := play(t, k, step{evFile(ino, ino, data), impl.Denied}); !sameKeeper(w, k) {
					t.Errorf("a file of %d bytes is refused, and written", size)
				}
				continue
			}
			w := play(t, k, step{evFile(ino, ino, data), impl.Good})
			if contentOf(impl.Truth(w), ino).data != tree[ino].data {
				t.Errorf("a file of %d bytes is there before it comes back", size)
			}
			w = play(t, w, step{evBack(ino, ino), impl.Good})
			if files := impl.Files(impl.Truth(w)); files[ino].Data != data || files[3-ino].Data != tree[3-ino].data {
				t.Errorf("a file of %d bytes is not there: %s", size, impl.TreeText(impl.Truth(w)))
			}
		}
	}
}

// TestEvFileOfADirectory, and the events of a directory of a file.
func TestEvFileOfADirectory(t *testing.T) {
	k := play(t, keeperOf(zeros(768), givers()), step{evLend(1, 1, 9), impl.Good}, step{evLend(3, 0, 9), impl.Good}, step{evLend(3, 3, 9), impl.Good})
	for _, e := range []impl.Event{
		evFile(3, 0, ""), evFile(3, 0, "x"), evFile(3, 3, ""), evMake(1, 1, 1, "x"), evMake(1, 1, 2, "x"), evRemove(1, 1, "a"), evRemove(1, 1, ""), evFill(1, 1, 1, "x"), evFill(1, 1, 6, "x"),
	} {
		if w := play(t, k, step{e, impl.Denied}); !sameKeeper(w, k) {
			t.Errorf("%q: the keeper is another one", impl.EventText(e))
		}
	}
}

// TestEvMakeRefuses: when the last of Fresh is taken, a name that is there, a
// kind that is none.
func TestEvMakeRefuses(t *testing.T) {
	k := play(t, keeperOf(zeros(768), givers()), step{evLend(3, 0, 9), impl.Good}, step{evLend(3, 3, 9), impl.Good})
	for _, name := range append(wrongNames(), "a", "b", "c", "d") {
		if w := play(t, k, step{evMake(3, 0, 1, name), impl.Denied}); !sameKeeper(w, k) {
			t.Errorf("made is %q", name)
		}
	}
	for _, kind := range append(farNumbers(), -2, 0, 3, 4) {
		if w := play(t, k, step{evMake(3, 0, kind, "new"), impl.Denied}); !sameKeeper(w, k) {
			t.Errorf("made is the kind %d", kind)
		}
	}
	k = play(t, k, step{evMake(3, 0, 1, "x"), impl.Good}, step{evMake(3, 0, 1, "x"), impl.Denied}, step{evMake(3, 0, 2, "y"), impl.Good}, step{evMake(3, 0, 1, "z"), impl.Denied})
	k = play(t, k, step{evMake(3, 3, 1, "none"), impl.Denied}, step{evRemove(3, 0, "x"), impl.Good}, step{evMake(3, 0, 1, "z"), impl.Good}, step{evMake(3, 0, 1, "more"), impl.Denied}, step{evBack(3, 0), impl.Good})
	holdTreeText(t, "made", k, giversText+"d /y 3 -\nf /z 3 -\n")
	if l, _ := impl.LoanOf(k, 3, 3); len(l.Fresh) != 0 {
		t.Errorf("fresh in the other loan are %v", l.Fresh)
	}
}

// TestEvRemoveOfEachName: one that is not there, a file, a directory without
// entries, a directory that has entries, one that is lent.
func TestEvRemoveOfEachName(t *testing.T) {
	k := play(t, keeperOf(pattern(9, 768), givers()), step{evLend(8, 0, 9), impl.Good})
	for _, name := range []string{"", "e", "aa", "A", "/a", "a ", ".", "\x00", "\xff", zeros(14), "abcdefghijklmno"} {
		if w := play(t, k, step{evRemove(8, 0, name), impl.Denied}); !sameKeeper(w, k) {
			t.Errorf("removed is %q", name)
		}
	}
	for _, c := range []struct {
		name string
		code int
		want string
	}{
		{"a", impl.Good, strings.Replace(giversText, "f /a 1 6f6e65\n", "", 1)},
		{"c", impl.Good, strings.Replace(giversText, "d /c 3 -\n", "", 1)},
		{"d", impl.Rejected, giversText},
	} {
		w := play(t, k, step{evRemove(8, 0, c.name), impl.Good}, step{evRemove(8, 0, c.name), impl.Denied})
		holdTreeText(t, "before "+c.name, w, giversText)
		holdTreeText(t, c.name, play(t, w, step{evBack(8, 0), c.code}), c.want)
	}
	w := play(t, k, step{evLend(1, 1, 9), impl.Good}, step{evRemove(8, 0, "a"), impl.Good}, step{evBack(8, 0), impl.Rejected}, step{evBack(1, 1), impl.Good})
	holdTreeText(t, "what is lent", w, giversText)
	w = play(t, k, step{evLend(4, 4, 9), impl.Good}, step{evRemove(4, 4, "e"), impl.Good}, step{evBack(4, 4), impl.Good}, step{evRemove(8, 0, "d"), impl.Good}, step{evBack(8, 0), impl.Good})
	holdTreeText(t, "what was emptied", w, "d / 9 -\nf /a 1 6f6e65\nf /b 2 74776f\nd /c 3 -\n")
}

// TestEvFillRefuses: an inode that is not among Fresh, and one whose record is
// not that of a file.
func TestEvFillRefuses(t *testing.T) {
	k := play(t, keeperOf(zeros(768), givers()), step{evLend(3, 0, 9), impl.Good}, step{evLend(3, 3, 9), impl.Good}, step{evMake(3, 0, 1, "x"), impl.Good}, step{evMake(3, 0, 2, "y"), impl.Good})
	for _, ino := range append(farNumbers(), 0, 1, 2, 3, 4, 5, 7, 8) {
		if w := play(t, k, step{evFill(3, 0, ino, "x"), impl.Denied}); !sameKeeper(w, k) {
			t.Errorf("filled is %d", ino)
		}
	}
	for _, rec := range []string{zeros(16), "liar, all of it!", "\x02\x03" + zeros(14), "\x01\x0a" + zeros(14), "\x01\x03\x01" + zeros(13)} {
		w := play(t, k, step{evTouch(3, 128, rec), impl.Good}, step{evFill(3, 0, 6, "x"), impl.Denied})
		if w.Dev.Mem[128:144] != rec {
			t.Errorf("refused, and written: %q", w.Dev.Mem[128:144])
		}
	}
	for _, size := range []int{0, 1, 32, 33, 96, 97, 128, 129, 193} {
		code, want := impl.Good, pattern(size, size)
		if size > 96 {
			code, want = impl.Denied, ""
		}
		w := play(t, k, step{evFill(3, 0, 6, pattern(size, size)), code}, step{evBack(3, 0), impl.Good})
		if f := impl.Files(impl.Truth(w)); len(f) != 8 || f[6].Data != want || f[6].Owner != 3 || f[6].Path != "/x" || f[7].Kind != 2 {
			t.Errorf("%d bytes: there is %s", size, impl.TreeText(impl.Truth(w)))
		}
	}
	other := play(t, keeperOf(zeros(768), givers()), step{evLend(3, 0, 9), impl.Good})
	if w := play(t, other, step{evFill(3, 0, 6, "x"), impl.Denied}); !sameKeeper(w, other) {
		t.Error("filled is what was not made")
	}
}

// TestEvPowerKeepsWhatWas: no line kept, all, each one, and lines that are none.
func TestEvPowerKeepsWhatWas(t *testing.T) {
	k := keeperOf(pattern(9, 768), givers())
	k.Clock = 12
	k = play(t, k,
		step{evLend(1, 1, 9), impl.Good}, step{evLend(6, 0, 9), impl.Good}, step{evFile(1, 1, "new"), impl.Good}, step{evMake(6, 0, 1, "x"), impl.Good},
		step{evTouch(1, 224, pattern(1, 32)), impl.Good}, step{evTouch(1, 352, pattern(2, 128)), impl.Good}, step{evTouch(6, 32, "liar, all of it!"), impl.Good}, step{evTouch(6, 128, "liar, all of it!"), impl.Good})
	lists := keptLists()
	for line := range 96 {
		lists = append(lists, []int{line}, slices.Delete(slices.Clone(lists[17]), line, line+1))
	}
	for _, kept := range lists {
		w := play(t, k, step{evPower(kept...), impl.Good}, step{evFile(1, 1, "x"), impl.NoFile}, step{evBack(6, 0), impl.NoFile})
		holdTreeText(t, "power", w, giversText)
		if len(w.Loans) != 0 || w.Clock != 12 || w.Dev.Mem != w.Dev.Dur || impl.Truth(w) != w.Dev.Mem {
			t.Fatalf("with the lines %v kept there is %+v", kept, w)
		}
	}
	taken := play(t, k, step{evFile(1, 1, "ever"), impl.Good}, step{evBack(1, 1), impl.Good}, step{evPower(), impl.Good})
	holdTreeText(t, "what was taken lasts", taken, strings.Replace(giversText, "6f6e65", "65766572", 1))
}

func TestActAllOfManyEvents(t *testing.T) {
	k := keeperOf(zeros(768), givers())
	play(t, k)
	list := []impl.Event{}
	for n := range 300 {
		list = append(list, []impl.Event{evLend(1, 1, 2), evFile(1, 1, pattern(n%250, n%100)), evTick(), evBack(1, 1), {Kind: 10}, evLend(2, 1, 2)}[n%6])
	}
	want, wantCodes := k, []int{}
	for _, e := range list {
		next, code := wantAct(want, e)
		want, wantCodes = next, append(wantCodes, code)
	}
	if !slices.Equal(wantCodes[294:], []int{impl.Good, impl.Good, impl.Good, impl.Good, impl.Wrong, impl.Denied}) || want.Clock != 50 {
		t.Fatalf("the events are others: %v", wantCodes)
	}
	holdActAll(t, k, list, want, wantCodes)
	holdActAll(t, k, nil, k, nil)
	holdActAll(t, k, []impl.Event{}, k, nil)
	for _, n := range []int{301, 302, 600, 5000} {
		holdActAll(t, k, slices.Repeat([]impl.Event{evTick()}, n), k, nil)
	}
	holdActAll(t, k, append(list, evTick()), k, nil)
	ticks, _ := impl.ActAll(k, make([]impl.Event, 300))
	if !sameKeeper(ticks, k) {
		t.Error("events for no ticks change a keeper")
	}
	_, codes := impl.ActAll(k, make([]impl.Event, 300))
	if !slices.Equal(codes, slices.Repeat([]int{impl.Wrong}, 300)) {
		t.Errorf("events for no ticks have the codes %v", codes)
	}
}

// eachKind has an event of each kind that a keeper of givers could grant.
func eachKind() []impl.Event {
	return []impl.Event{
		evLend(2, 2, 5), evTouch(1, 48, "x"), evLast(1, 48, 16), evBack(1, 1), evTick(), evPower(6, 28), evFile(1, 1, "x"), evMake(0, 0, 1, "x"), evRemove(0, 0, "b"), evFill(0, 0, 6, "x"),
	}
}

func TestOtherKinds(t *testing.T) {
	k := play(t, keeperOf(zeros(768), givers()), step{evLend(1, 1, 9), impl.Good}, step{evLend(0, 0, 9), impl.Good}, step{evMake(0, 0, 1, "y"), impl.Good})
	for n, e := range eachKind() {
		if e.Kind != n {
			t.Fatalf("the event %d is %+v", n, e)
		}
		play(t, k, step{e, impl.Good})
		for _, kind := range append(farNumbers(), -3, -2, 10, 11, 19, 100) {
			e.Kind = kind
			if w := play(t, k, step{e, impl.Wrong}); !sameKeeper(w, k) || impl.EventText(e) != "" {
				t.Errorf("the kind %d: %q, %+v", kind, impl.EventText(e), w)
			}
		}
	}
}

// TestEventsOfWrongKeepers: they stay as they are, whatever happens.
func TestEventsOfWrongKeepers(t *testing.T) {
	t.Parallel()
	events := append(eachKind(), impl.Event{Kind: -1}, impl.Event{Kind: 10})
	for what, k := range wrongKeepers(t) {
		for _, e := range events {
			got, code := tryAct(t, k, e)
			if code != impl.Wrong || !sameKeeper(got, k) {
				t.Errorf("%s: %q has the code %d, and leaves %+v", what, impl.EventText(e), code, got)
			}
		}
		holdActAll(t, k, events, k, slices.Repeat([]int{impl.Wrong}, len(events)))
		holdActAll(t, k, nil, k, nil)
		holdActAll(t, k, make([]impl.Event, 301), k, nil)
		for _, l := range k.Loans {
			want, _ := wantLoanOf(k, l.Client, l.Ino)
			if got, ok := impl.LoanOf(k, l.Client, l.Ino); !ok || !sameLoan(got, want) {
				t.Errorf("%s: the loan of %d to %d is %+v, %v", what, l.Ino, l.Client, got, ok)
			}
		}
	}
}

func TestEventText(t *testing.T) {
	for want, e := range map[string]impl.Event{
		"lend 1 0 5":                     evLend(1, 0, 5),
		"lend -1 -20 0":                  evLend(-1, -20, 0),
		"touch 1 192 4a":                 evTouch(1, 192, "J"),
		"touch 8 0 00ff0a20":             evTouch(8, 0, "\x00\xff\n "),
		"touch 1 192 -":                  evTouch(1, 192, ""),
		"last 1 8 3":                     evLast(1, 8, 3),
		"last 1 8 0":                     evLast(1, 8, 0),
		"back 1 0":                       evBack(1, 0),
		"tick":                           evTick(),
		"power":                          evPower(),
		"power 6 7":                      evPower(6, 7),
		"power -1 95 95 0 1000000":       evPower(-1, 95, 95, 0, 1000000),
		"file 1 2 -":                     evFile(1, 2, ""),
		"file 1 2 c3a4":                  evFile(1, 2, "ä"),
		"make 1 0 1 f":                   evMake(1, 0, 1, "f"),
		"make 1 0 2 ":                    evMake(1, 0, 2, ""),
		"make 1 0 -2  a b\n":             evMake(1, 0, -2, " a b\n"),
		"remove 3 4 a.b":                 evRemove(3, 4, "a.b"),
		"remove 3 4 ":                    evRemove(3, 4, ""),
		"remove 3 4 \x00\xff":            evRemove(3, 4, "\x00\xff"),
		"fill 1 0 1 68656c6c6f":          evFill(1, 0, 1, "hello"),
		"fill 1 0 1 -":                   evFill(1, 0, 1, ""),
		"lend -9223372036854775808 0 -1": evLend(math.MinInt, 0, -1),
		"back 0 9223372036854775807":     evBack(0, math.MaxInt),
	} {
		if got := impl.EventText(e); got != want || want != wantEventText(e) {
			t.Errorf("EventText(%+v) = %q, not %q", e, got, want)
		}
	}
}

// TestEventTextOfEachKind: with any Text and any Kept, of which each kind tells
// what it has.
func TestEventTextOfEachKind(t *testing.T) {
	numbers := append(farNumbers(), places()...)
	for kind := -2; kind < 13; kind++ {
		for n, text := range append(memTexts(), "\n", "a b", "\x00\x01") {
			for m, kept := range keptLists() {
				at := 7*n + 3*m
				e := impl.Event{Kind: kind, Client: numbers[at%len(numbers)], Ino: numbers[(at+5)%len(numbers)], At: numbers[(at+11)%len(numbers)], Text: text, Kept: kept}
				if got := impl.EventText(e); got != wantEventText(e) {
					t.Fatalf("EventText(%+v) = %q, not %q", e, got, wantEventText(e))
				}
			}
		}
	}
	for n, word := range []string{"lend", "touch", "last", "back", "tick", "power", "file", "make", "remove", "fill"} {
		if got := impl.EventText(impl.Event{Kind: n}); strings.Split(got, " ")[0] != word {
			t.Errorf("the word of the kind %d is in %q", n, got)
		}
	}
}

// plan is what an honest client has in mind of a loan.
type plan struct {
	loan  impl.Loan
	data  string
	names []impl.Entry
	fresh map[int]content
}

// world is a keeper on whose memory honest clients (0 .. 4) and liars (5 .. 8)
// write; plans are those of the honest ones, by inode.
type world struct {
	t      *testing.T
	r      *rand.Rand
	k      impl.Keeper
	plans  map[int]*plan
	events []impl.Event
	codes  []int
	count  map[string][7]int
}

// act has an event happen; what honest clients have in mind is there when it
// comes back, however it does.
func (w *world) act(e impl.Event) int {
	was := w.k
	next, code := tryAct(w.t, w.k, e)
	w.k, w.events, w.codes = next, append(w.events, e), append(w.codes, code)
	word, _, _ := strings.Cut(impl.EventText(e), " ")
	if w.isHonest(e.Client) && e.Kind != impl.EvTick && e.Kind != impl.EvPower {
		word = "honest " + word
	}
	count := w.count[word]
	count[code]++
	w.count[word] = count
	if e.Kind == impl.EvPower {
		clear(w.plans)
	}
	for _, l := range was.Loans {
		if p := w.plans[l.Ino]; p != nil && !isLent(w.k, l.Ino) {
			w.comesBack(was, p, e, code)
			delete(w.plans, l.Ino)
		}
	}
	return code
}

func (w *world) isHonest(client int) bool {
	return client >= 0 && client < 5
}

// comesBack asks that what an honest client wrote is taken, unless it gives
// away what is not to be given, and is there then.
func (w *world) comesBack(was impl.Keeper, p *plan, e impl.Event, code int) {
	taken := slices.ContainsFunc(takenBy(was, e, code), func(l impl.Loan) bool { return l.Ino == p.loan.Ino })
	free := true
	for _, gone := range wantGone(was.Dev.Mem, p.loan) {
		c := contentOf(wantTruth(was), gone)
		free = free && !isLent(was, gone) && (c.kind == 1 || c.data == "")
	}
	if free && !taken {
		w.t.Fatalf("%q: not taken is what an honest client wrote: %+v", impl.EventText(e), p)
	}
	if !taken {
		return
	}
	truth := impl.Truth(w.k)
	if n, _ := wantInode(p.loan.Rec); n.Kind == 1 {
		if got := contentOf(truth, p.loan.Ino); got != (content{kind: 1, owner: n.Owner, data: p.data}) {
			w.t.Fatalf("%q: of an honest client there is %+v, not %q", impl.EventText(e), got, p.data)
		}
		return
	}
	if list, ok := wantNames(p.loan, truth); !ok || !slices.Equal(list, p.names) {
		w.t.Fatalf("%q: of an honest client there are %v, not %v", impl.EventText(e), list, p.names)
	}
	for _, entry := range p.names {
		if want, made := p.fresh[entry.Ino]; made && contentOf(truth, entry.Ino) != want {
			w.t.Fatalf("%q: new by an honest client is %+v, not %+v", impl.EventText(e), contentOf(truth, entry.Ino), want)
		}
	}
}

func (w *world) lend() {
	files := impl.Files(impl.Truth(w.k))
	f := files[w.r.Intn(len(files))]
	client, ino := w.r.Intn(9), f.Ino
	if w.r.Intn(5) > 0 && f.Owner != 9 {
		client = f.Owner
	}
	if w.r.Intn(12) == 0 {
		client, ino = w.r.Intn(11)-1, w.r.Intn(10)-1
	}
	if w.act(evLend(client, ino, []int{1, 2, 3, 4, 6, 9, 30, 100, 0, 101}[w.r.Intn(10)])) == impl.Good && w.isHonest(client) {
		l, _ := wantLoanOf(w.k, client, ino)
		names, _ := wantNames(l, w.k.Dev.Mem)
		w.plans[ino] = &plan{loan: l, data: contentOf(w.k.Dev.Mem, ino).data, names: names, fresh: map[int]content{}}
	}
}

// someEvent is of an honest client's kind, for a loan.
func (w *world) someEvent(l impl.Loan) impl.Event {
	names, _ := wantNames(l, w.k.Dev.Mem)
	name, fresh := goodNames()[w.r.Intn(len(goodNames()))], w.r.Intn(8)
	if len(names) > 0 && w.r.Intn(3) > 0 {
		name = names[w.r.Intn(len(names))].Name
	}
	if len(l.Fresh) > 0 && w.r.Intn(6) > 0 {
		fresh = l.Fresh[w.r.Intn(len(l.Fresh))]
	}
	if l.Rec[0] == 1 && w.r.Intn(8) > 0 {
		return evFile(l.Client, l.Ino, pattern(w.r.Intn(250), w.r.Intn(200)))
	}
	switch pick := w.r.Intn(10); {
	case pick < 4:
		return evMake(l.Client, l.Ino, 1+w.r.Intn(2), goodNames()[w.r.Intn(len(goodNames()))])
	case pick < 8:
		return evFill(l.Client, l.Ino, fresh, pattern(w.r.Intn(250), w.r.Intn(140)))
	case pick < 9:
		return evRemove(l.Client, l.Ino, name)
	}
	return evFile(l.Client, l.Ino, pattern(w.r.Intn(250), w.r.Intn(200)))
}

// keepsWord has an honest client do something, and keep it in mind.
func (w *world) keepsWord(p *plan) {
	e := w.someEvent(p.loan)
	if w.act(e) != impl.Good {
		return
	}
	switch e.Kind {
	case impl.EvFile:
		p.data = e.Text
	case impl.EvMake:
		for _, ino := range p.loan.Fresh {
			if !slices.ContainsFunc(p.names, func(n impl.Entry) bool { return n.Ino == ino }) {
				p.names = append(p.names, entry(ino, e.Text))
				p.fresh[ino] = content{kind: e.At, owner: p.loan.Client}
				break
			}
		}
	case impl.EvRemove:
		p.names = slices.DeleteFunc(p.names, func(n impl.Entry) bool { return n.Name == e.Text })
	case impl.EvFill:
		filled := p.fresh[e.At]
		filled.data = e.Text
		p.fresh[e.At] = filled
	}
}

// lies has a liar write what it likes into a loan, or do as honest ones do.
func (w *world) lies(l impl.Loan) {
	if w.r.Intn(2) == 0 {
		w.act(w.someEvent(l))
		return
	}
	mem := scribble(w.r, w.k.Dev.Mem, l)
	for _, r := range wantRanges(l) {
		if w.r.Intn(8) > 0 && mem[r.At:r.At+r.N] != w.k.Dev.Mem[r.At:r.At+r.N] {
			w.act(evTouch(l.Client, r.At, mem[r.At:r.At+r.N]))
		}
		if w.r.Intn(6) == 0 {
			w.act(evLast(l.Client, r.At, 1+w.r.Intn(r.N)))
		}
	}
}

// stray is an event that nobody has a right to, most of the time.
func (w *world) stray() {
	client, ino, at, n := w.r.Intn(5)+5, w.r.Intn(10)-1, w.r.Intn(800)-16, w.r.Intn(40)
	w.act([]impl.Event{
		evTouch(client, at, pattern(w.r.Intn(250), n)), evLast(client, at, n), evBack(client, ino), evFile(client, ino, pattern(1, n)),
		evMake(client, ino, 1, "stray"), evRemove(client, ino, "a"), evFill(client, ino, at%8, pattern(2, n)), {Kind: at%40 + 10, Client: client, Ino: ino},
	}[w.r.Intn(8)])
}

func (w *world) step() {
	pick := w.r.Intn(40)
	if len(w.k.Loans) == 0 && pick < 20 || pick < 8 {
		w.lend()
		return
	}
	switch {
	case pick < 28 && len(w.k.Loans) > 0:
		l := w.k.Loans[w.r.Intn(len(w.k.Loans))]
		if p := w.plans[l.Ino]; p != nil {
			w.keepsWord(p)
		} else {
			w.lies(l)
		}
	case pick < 33 && len(w.k.Loans) > 0:
		l := w.k.Loans[w.r.Intn(len(w.k.Loans))]
		w.act(evBack(l.Client, l.Ino))
	case pick < 36:
		w.stray()
	case pick < 39:
		w.act(evTick())
	case w.r.Intn(2) == 0:
		w.act(evPower(w.r.Perm(100)[:w.r.Intn(100)]...))
	}
}

// TestWorlds is promise 8 as a whole.
func TestWorlds(t *testing.T) {
	t.Parallel()
	r := rand.New(rand.NewSource(81))
	count := map[string][7]int{}
	for range 160 {
		w := &world{t: t, r: r, plans: map[int]*plan{}, count: count}
		w.k = keeperOf(pattern(r.Intn(99), 768), randomTree(r))
		w.k.Clock = []int{0, 1, 50, 999990}[r.Intn(4)]
		first := cloneKeeper(w.k)
		for len(w.events) < 110 {
			w.step()
		}
		holdActAll(t, first, w.events, w.k, w.codes)
	}
	for word, codes := range map[string][]int{
		"lend": {impl.Good, impl.Denied, impl.Busy, impl.Wrong}, "honest lend": {impl.Good, impl.Denied, impl.Busy, impl.Wrong},
		"touch": {impl.Good, impl.Fault}, "last": {impl.Good, impl.Fault}, "back": {impl.Good, impl.NoFile, impl.Rejected}, "honest back": {impl.Good},
		"tick": {impl.Good}, "power": {impl.Good}, "": {impl.Wrong}, "file": {impl.Good, impl.NoFile, impl.Denied}, "honest file": {impl.Good, impl.Denied},
		"make": {impl.Good, impl.NoFile, impl.Denied}, "honest make": {impl.Good, impl.Denied}, "remove": {impl.NoFile, impl.Denied}, "honest remove": {impl.Good, impl.Denied},
		"fill": {impl.Good, impl.NoFile, impl.Denied}, "honest fill": {impl.Good, impl.Denied},
	} {
		for _, code := range codes {
			if count[word][code] < 20 {
				t.Errorf("too few of one sort to tell: %s, %v", word, count[word])
			}
		}
	}
}

// anyEvents are of each kind and others, with numbers near and far.
func anyEvents() []impl.Event {
	list := eachKind()
	numbers, words, lines := append(farNumbers(), places()...), memTexts(), keptLists()
	for n := range 400 {
		list = append(list, impl.Event{Kind: n%13 - 1, Client: n % 9, Ino: n % 8, At: n * 7 % 770, Text: words[n%len(words)], Kept: lines[n%len(lines)]})
		list = append(list, impl.Event{Kind: n%13 - 1, Client: numbers[n%len(numbers)], Ino: numbers[n*3%len(numbers)], At: numbers[n*7%len(numbers)], Text: words[n*5%len(words)], Kept: lines[n*3%len(lines)]})
	}
	return list
}

func worldAnswers(k impl.Keeper, e impl.Event) []any {
	l, there := impl.LoanOf(k, e.Client, e.Ino)
	next, code := impl.Act(k, e)
	later, codes := impl.ActAll(k, []impl.Event{e, evTick(), e})
	return []any{l, there, next, code, later, codes, impl.EventText(e)}
}

// TestWorldsAnswerAtAnyArguments: a panic fails the test by itself; the same
// question twice has the same answer.
func TestWorldsAnswerAtAnyArguments(t *testing.T) {
	t.Parallel()
	keepers := lentKeepers(t)
	for _, d := range append(devices(), wrongDevices()...) {
		keepers = append(keepers, impl.Keeper{Dev: d}, impl.Keeper{Dev: d, Loans: goodLoans(), Clock: 5})
	}
	base := keeperOf(zeros(768), smallTree())
	for _, l := range anyLoans()[:300] {
		k := cloneKeeper(base)
		k.Loans = []impl.Loan{l}
		keepers = append(keepers, k)
	}
	events := anyEvents()
	for n, e := range events {
		for m := range 3 {
			k := keepers[(5*n+m*len(events))%len(keepers)]
			tryAct(t, k, e)
			want, there := wantLoanOf(k, e.Client, e.Ino)
			if got, ok := impl.LoanOf(k, e.Client, e.Ino); ok != there || !sameLoan(got, want) {
				t.Fatalf("LoanOf = %+v, %v, not %+v, %v", got, ok, want, there)
			}
			if n%5 == 0 && !reflect.DeepEqual(worldAnswers(k, e), worldAnswers(k, e)) {
				t.Fatalf("two answers to one question, of %+v", k)
			}
		}
	}
	holdActAll(t, base, events, base, nil)
	for from := 0; from+300 < len(events); from += 250 {
		want, codes := base, []int{}
		for _, e := range events[from : from+300] {
			next, code := wantAct(want, e)
			want, codes = next, append(codes, code)
		}
		holdActAll(t, base, events[from:from+300], want, codes)
	}
}

// worldKeepers are some in which eachKind is granted, or refused, or wrong.
func worldKeepers(t *testing.T) []impl.Keeper {
	first := keeperOf(pattern(9, 768), givers())
	lent := play(t, first, step{evLend(1, 1, 1), impl.Good}, step{evLend(0, 0, 9), impl.Good}, step{evMake(0, 0, 1, "y"), impl.Good}, step{evTouch(1, 224, "dirty"), impl.Good})
	liar := play(t, lent, step{evTouch(1, 48, "liar, all of it!"), impl.Good}, step{evTouch(0, 32, "liar, all of it!"), impl.Good})
	wrong, short := cloneKeeper(lent), cloneKeeper(lent)
	wrong.Clock, short.Dev.Mem = -1, short.Dev.Mem[1:]
	return []impl.Keeper{first, lent, liar, wrong, short, {}}
}

// TestWorldsWriteIntoNoArgument, nor behind it.
func TestWorldsWriteIntoNoArgument(t *testing.T) {
	for _, given := range worldKeepers(t) {
		k, rooms := roomy(given)
		was, spareKept := cloneKeeper(k), []int{6, 28, -7, -7}
		list := append(eachKind(), evBack(0, 0), impl.Event{Kind: 10}, impl.Event{Kind: -7}, impl.Event{Kind: -7})
		list[5].Kept = spareKept[:2]
		events := list[:len(list)-2]
		for _, e := range events {
			worldAnswers(k, e)
			impl.ActAll(k, events)
		}
		many := slices.Repeat(list, 30)
		impl.ActAll(k, many[:301])
		want := append(eachKind(), evBack(0, 0), impl.Event{Kind: 10}, impl.Event{Kind: -7}, impl.Event{Kind: -7})
		if !sameKeeper(k, was) || !reflect.DeepEqual(list, want) || !slices.Equal(spareKept, []int{6, 28, -7, -7}) {
			t.Errorf("the keeper, the events or what is behind them is changed: %+v, %+v", k, list)
		}
		if spare := k.Loans[:cap(k.Loans)]; len(given.Loans) > 0 && spare[len(k.Loans)].Ino != -7 {
			t.Errorf("what is behind the loans is changed: %+v", spare)
		}
		for _, room := range rooms {
			if !slices.Equal((*room)[len(*room)-8:], []int{-7, -7, -7, -7, -7, -7, -7, -7}) {
				t.Errorf("what is behind a list is changed: %v", *room)
			}
		}
	}
}

// TestWorldAnswersAreNewMemory: no text of an answer is one of an argument, and
// what is written into an answer shows nowhere.
func TestWorldAnswersAreNewMemory(t *testing.T) {
	for _, k := range worldKeepers(t) {
		for _, e := range append(eachKind(), impl.Event{Kind: 10}, evLend(9, 9, 9), evBack(3, 3), evFile(1, 1, zeros(193)), evTouch(1, 224, pattern(1, 32)), evFile(1, 1, pattern(1, 32))) {
			next, _ := impl.Act(k, e)
			later, codes := impl.ActAll(k, []impl.Event{e, e})
			for _, text := range append(keeperTexts(next), append(keeperTexts(later), impl.EventText(e))...) {
				if sharesMemory(text, e.Text) {
					t.Fatalf("%q: an answer shares its text", impl.EventText(e))
				}
			}
			holdNew(t, "Act of "+impl.EventText(e), k, next)
			holdNew(t, "ActAll of "+impl.EventText(e), k, later)
			clear(codes[:cap(codes)])
		}
		none, _ := impl.ActAll(k, nil)
		holdNew(t, "ActAll of nothing", k, none)
		many, _ := impl.ActAll(k, make([]impl.Event, 301))
		holdNew(t, "ActAll of too many", k, many)
		for _, l := range k.Loans {
			got, _ := impl.LoanOf(k, l.Client, l.Ino)
			holdNew(t, "LoanOf", k, impl.Keeper{Loans: []impl.Loan{got}})
		}
	}
	name := strings.Clone("abc")
	for _, e := range []impl.Event{evMake(1, 0, 1, name), evRemove(1, 0, name), evTouch(1, 0, name)} {
		if sharesMemory(impl.EventText(e), name) {
			t.Errorf("%q shares its text", impl.EventText(e))
		}
	}
}
