package tests

import (
	"encoding/hex"
	"fmt"
	"math/rand"
	"reflect"
	"regexp"
	"slices"
	"strconv"
	"strings"
	"sync"
	"testing"

	"loop.example/g00278/impl"
)

// eventForms are the texts of events, by kind, as the document says them; what
// is to be read stands in groups.
func eventForms() []*regexp.Regexp {
	list := []*regexp.Regexp{}
	for _, form := range []string{"lend N N N", "touch N N H", "last N N N", "back N N", "tick", "power((?: N)*)", "file N N H", "make N N N T", "remove N N T", "fill N N N H"} {
		form = strings.ReplaceAll(form, "(?: N)*", "(?: (?:0|[1-9][0-9]{0,5}))*")
		form = strings.ReplaceAll(form, "N", "(0|[1-9][0-9]{0,5})")
		form = strings.ReplaceAll(form, "H", "(-|(?:[0-9a-f][0-9a-f])+)")
		form = strings.ReplaceAll(form, "T", "((?s:.*))")
		list = append(list, regexp.MustCompile(`\A`+form+`\z`))
	}
	return list
}

var forms = eventForms()

func number(word string) int {
	n, _ := strconv.Atoi(word)
	return n
}

func unhex(word string) string {
	text, _ := hex.DecodeString(strings.Trim(word, "-"))
	return string(text)
}

// wantReadEvent is what the document says of ReadEvent; it calls nothing of
// the program.
func wantReadEvent(s string) (impl.Event, bool) {
	for kind, form := range forms {
		m := form.FindStringSubmatch(s)
		if m == nil {
			continue
		}
		e := impl.Event{Kind: kind}
		switch kind {
		case 0:
			e.Client, e.Ino, e.At = number(m[1]), number(m[2]), number(m[3])
		case 1:
			e.Client, e.At, e.Text = number(m[1]), number(m[2]), unhex(m[3])
		case 2:
			if number(m[3]) > 768 {
				return impl.Event{}, false
			}
			e.Client, e.At, e.Text = number(m[1]), number(m[2]), zeros(number(m[3]))
		case 3:
			e.Client, e.Ino = number(m[1]), number(m[2])
		case 5:
			for _, word := range strings.Fields(m[1]) {
				e.Kept = append(e.Kept, number(word))
			}
		case 6:
			e.Client, e.Ino, e.Text = number(m[1]), number(m[2]), unhex(m[3])
		case 7:
			e.Client, e.Ino, e.At, e.Text = number(m[1]), number(m[2]), number(m[3]), m[4]
		case 8:
			e.Client, e.Ino, e.Text = number(m[1]), number(m[2]), m[3]
		case 9:
			e.Client, e.Ino, e.At, e.Text = number(m[1]), number(m[2]), number(m[3]), unhex(m[4])
		}
		return e, true
	}
	return impl.Event{}, false
}

func sameEvent(a impl.Event, b impl.Event) bool {
	return a.Kind == b.Kind && a.Client == b.Client && a.Ino == b.Ino && a.At == b.At && a.Text == b.Text && slices.Equal(a.Kept, b.Kept)
}

// holdRead asks ReadEvent of a text; it answers whether that is an event's.
func holdRead(t *testing.T, s string) bool {
	t.Helper()
	want, ok := wantReadEvent(s)
	got, read := impl.ReadEvent(s)
	if read != ok || !sameEvent(got, want) {
		t.Fatalf("ReadEvent(%q) = %+v, %v, not %+v, %v", s, got, read, want, ok)
	}
	if read && impl.EventText(got) != s {
		t.Fatalf("ReadEvent(%q) has the text %q", s, impl.EventText(got))
	}
	return read
}

func refuseRead(t *testing.T, s string) {
	t.Helper()
	if holdRead(t, s) {
		t.Errorf("%q is read as an event", s)
	}
}

func acceptRead(t *testing.T, s string) {
	t.Helper()
	if !holdRead(t, s) {
		t.Errorf("%q is not read as an event", s)
	}
}

// readable is an event as ReadEvent can tell it: what its kind does not have is
// not there, and what lasts is told as zeros.
func readable(e impl.Event) impl.Event {
	kept := impl.Event{Kind: e.Kind, Client: e.Client, Ino: e.Ino, At: e.At, Text: e.Text}
	switch e.Kind {
	case impl.EvTick:
		return impl.Event{Kind: e.Kind}
	case impl.EvPower:
		return impl.Event{Kind: e.Kind, Kept: e.Kept}
	case impl.EvLend:
		kept.Text = ""
	case impl.EvBack:
		kept.At, kept.Text = 0, ""
	case impl.EvTouch:
		kept.Ino = 0
	case impl.EvLast:
		kept.Ino, kept.Text = 0, zeros(len(e.Text))
	case impl.EvFile, impl.EvRemove:
		kept.At = 0
	}
	return kept
}

// wantLine is what the document says of one line.
func wantLine(k impl.Keeper, line string) (impl.Keeper, string) {
	if e, ok := wantReadEvent(line); ok {
		next, code := wantAct(k, e)
		return next, []string{"good", "nofile", "denied", "busy", "fault", "rejected", "wrong"}[code]
	}
	files, _, _ := wantTree(wantTruth(k))
	list := []string{}
	switch line {
	case "tree":
		return k, strings.ReplaceAll(wantTreeText(files), "\n", ";")
	case "clock":
		return k, strconv.Itoa(k.Clock)
	case "loans":
		for _, l := range k.Loans {
			list = append(list, fmt.Sprintf("%d:%d:%d", l.Ino, l.Client, l.Until))
		}
	case "dirty":
		for _, line := range wantDirty(k.Dev) {
			list = append(list, strconv.Itoa(line))
		}
	default:
		return k, wantAsked(k, files, line)
	}
	if len(list) == 0 {
		return k, "-"
	}
	return k, strings.Join(list, " ")
}

var lookForm = regexp.MustCompile(`\Alook (0|[1-9][0-9]{0,5}) (0|[1-9][0-9]{0,5}) (0|[1-9][0-9]{0,5})\z`)

// wantAsked is of the lines that have words behind theirs.
func wantAsked(k impl.Keeper, files []impl.File, line string) string {
	if path, ok := strings.CutPrefix(line, "find "); ok {
		for _, f := range files {
			if f.Path == path {
				return strconv.Itoa(f.Ino)
			}
		}
		return "-1"
	}
	m := lookForm.FindStringSubmatch(line)
	if m == nil {
		return "what"
	}
	at, n := number(m[2]), number(m[3])
	if wantAccess(k, number(m[1]), at, n) != impl.Good {
		return "fault"
	}
	return hex.EncodeToString([]byte(k.Dev.Mem[at : at+n]))
}

func wantDesk(text string) string {
	if text == "" {
		return ""
	}
	if len(text) > 8000 || strings.Count(text, "\n") > 120 || text[len(text)-1] != '\n' {
		return "long\n"
	}
	k, told := keeperOf(zeros(768), []held{dirOf(0, 9, nil)}), ""
	for _, line := range strings.Split(text[:len(text)-1], "\n") {
		next, answer := wantLine(k, line)
		k, told = next, told+answer+"\n"
	}
	return told
}

func holdDesk(t *testing.T, text string) string {
	t.Helper()
	got, want := impl.Desk(text), wantDesk(text)
	if got != want {
		t.Fatalf("Desk(%q) = %q, not %q", text, got, want)
	}
	return got
}

// converse has pairs of a line and its answer, all in one script.
func converse(t *testing.T, pairs ...[2]string) {
	t.Helper()
	script, want := "", ""
	for _, p := range pairs {
		script, want = script+p[0]+"\n", want+p[1]+"\n"
	}
	if got := holdDesk(t, script); got != want {
		lines, answers := strings.Split(script, "\n"), strings.Split(got, "\n")
		for n := range min(len(lines), len(answers)) {
			if n >= len(pairs) || answers[n] != pairs[n][1] {
				t.Fatalf("line %d, %q, is answered %q in %q, not %q", n, lines[n], answers[n], got, want)
			}
		}
		t.Fatalf("told is %q, not %q", got, want)
	}
	holdBeginnings(t, script)
}

// holdBeginnings is promise 9 for each beginning of a script that is a script.
func holdBeginnings(t *testing.T, script string) {
	t.Helper()
	whole := impl.Desk(script)
	for end := range len(script) + 1 {
		if end > 0 && script[end-1] != '\n' {
			continue
		}
		holdBeginning(t, script, whole, end)
	}
}

func holdBeginning(t *testing.T, script string, whole string, end int) {
	t.Helper()
	told := impl.Desk(script[:end])
	if !strings.HasPrefix(whole, told) || strings.Count(told, "\n") != strings.Count(script[:end], "\n") {
		t.Fatalf("of %q is told %q, of its beginning of %d bytes %q", script, whole, end, told)
	}
}

func TestReadEventOfEachKind(t *testing.T) {
	for s, want := range map[string]impl.Event{
		"lend 1 0 5":              evLend(1, 0, 5),
		"lend 8 7 100":            evLend(8, 7, 100),
		"touch 1 192 4a":          evTouch(1, 192, "J"),
		"touch 8 0 00ff0a20":      evTouch(8, 0, "\x00\xff\n "),
		"touch 1 192 -":           evTouch(1, 192, ""),
		"last 1 8 3":              {Kind: 2, Client: 1, At: 8, Text: "\x00\x00\x00"},
		"last 1 8 0":              {Kind: 2, Client: 1, At: 8},
		"back 1 0":                evBack(1, 0),
		"tick":                    evTick(),
		"power":                   evPower(),
		"power 6":                 evPower(6),
		"power 95 6 6 999999 0":   evPower(95, 6, 6, 999999, 0),
		"file 1 2 -":              evFile(1, 2, ""),
		"file 1 2 c3a4":           evFile(1, 2, "ä"),
		"make 1 0 1 f":            evMake(1, 0, 1, "f"),
		"make 1 0 2 ":             evMake(1, 0, 2, ""),
		"make 1 0 2 a b":          evMake(1, 0, 2, "a b"),
		"make 1 0 2  a  b ":       evMake(1, 0, 2, " a  b "),
		"make 1 0 2 a\nb\r\x00":   evMake(1, 0, 2, "a\nb\r\x00"),
		"make 0 1 999999 -":       evMake(0, 1, 999999, "-"),
		"remove 3 4 a.b":          evRemove(3, 4, "a.b"),
		"remove 3 4 ":             evRemove(3, 4, ""),
		"remove 3 4  ":            evRemove(3, 4, " "),
		"remove 3 4 5 6":          evRemove(3, 4, "5 6"),
		"remove 3 4 \x00\xff\xc3": evRemove(3, 4, "\x00\xff\xc3"),
		"fill 1 0 1 68656c6c6f":   evFill(1, 0, 1, "hello"),
		"fill 1 0 1 -":            evFill(1, 0, 1, ""),
	} {
		acceptRead(t, s)
		if got, ok := impl.ReadEvent(s); !ok || !sameEvent(got, want) {
			t.Errorf("ReadEvent(%q) = %+v, %v, not %+v", s, got, ok, want)
		}
	}
}

// numbered are lines with a number in each place of each kind.
func numbered(word string) []string {
	list := []string{}
	for _, form := range []string{"lend # 1 2", "lend 1 # 2", "lend 1 2 #", "touch # 1 aa", "touch 1 # aa", "last # 1 2", "last 1 # 2", "back # 1", "back 1 #", "power #", "power # 1 2", "power 1 # 2", "power 1 2 #", "file # 1 -", "file 1 # -", "make # 1 2 a", "make 1 # 2 a", "make 1 2 # a", "remove # 1 a", "remove 1 # a", "fill # 1 2 aa", "fill 1 # 2 aa", "fill 1 2 # aa"} {
		list = append(list, strings.Replace(form, "#", word, 1))
	}
	return list
}

func wrongNumbers() []string {
	return []string{
		"", "-1", "-0", "+1", "-", "00", "01", "007", "0999999", "000000", "1000000", "1000001", "9999999", "99999999999999999999", "18446744073709551616", "9223372036854775808",
		"x", "1x", "x1", "1a2", "a", "1.", "1.0", "1,0", "1e3", "0x1", "0b1", "1_0", "\t1", "1\t", "1\n", "1\r", "1\x00", "\x00", "\xff", "１", "٣", "½", "#",
	}
}

func TestReadEventOfNumbers(t *testing.T) {
	for _, word := range []string{"0", "1", "9", "10", "99", "100", "768", "769", "99999", "100000", "999998", "999999"} {
		for _, s := range numbered(word) {
			acceptRead(t, s)
			got, _ := impl.ReadEvent(s)
			if n := number(word); got.Client != n && got.Ino != n && got.At != n && !slices.Contains(got.Kept, n) {
				t.Errorf("in %q there is no %d: %+v", s, n, got)
			}
		}
	}
	for _, word := range wrongNumbers() {
		for _, s := range numbered(word) {
			refuseRead(t, s)
		}
		refuseRead(t, "last 1 2 "+word)
	}
}

func TestReadEventOfLast(t *testing.T) {
	for _, n := range []int{0, 1, 8, 32, 100, 767, 768} {
		s := "last 1 8 " + strconv.Itoa(n)
		acceptRead(t, s)
		if got, _ := impl.ReadEvent(s); got.Text != zeros(n) {
			t.Errorf("%q has %q for a text", s, got.Text)
		}
	}
	for _, n := range []int{769, 770, 1000, 5000, 5001, 8000, 65536, 999999} {
		refuseRead(t, "last 1 8 "+strconv.Itoa(n))
	}
	for _, s := range []string{"last 1 8 -", "last 1 8 00", "last 1 8 aa", "last 1 8 ", "last 1 8"} {
		refuseRead(t, s)
	}
}

func TestReadEventOfBytes(t *testing.T) {
	all := ""
	for b := range 256 {
		all += fmt.Sprintf("%02x", b)
	}
	for _, start := range []string{"touch 1 48 ", "file 1 2 ", "fill 1 0 6 "} {
		for _, word := range []string{"-", "00", "0a", "ff", "20", "2d", "2d2d", "6869", all, strings.Repeat("00", 192), strings.Repeat("ab", 5000)} {
			acceptRead(t, start+word)
			got, _ := impl.ReadEvent(start + word)
			if want := unhex(word); got.Text != want {
				t.Errorf("%q is read as %q", start+word, got.Text)
			}
		}
		for _, word := range []string{
			"", "--", "-6869", "6869-", "68-69", "-6", "6-", "-0", "- ", " -", "-\n", "6", "686", all + "0", "F0", "fF", "Ff", "0A", "6869AB", "g0", "0g", "zz", "0x68", "68 69", " 6869", "6869 ", "68  ",
			"6869\n", "68\n", "\n68", "68\r", "\r\n", "\x00\x00", "68\x00", "6\x00", "\xff\xff", "ä", "äa", "٣٣", "//", "::", "``", "@@",
		} {
			refuseRead(t, start+word)
		}
		refuseRead(t, strings.TrimSuffix(start, " "))
	}
	for a := range 256 {
		for b := range 256 {
			holdRead(t, "touch 1 48 "+string([]byte{byte(a), byte(b)}))
		}
	}
}

// TestReadEventOfTexts: what stands behind the blank is taken as it is.
func TestReadEventOfTexts(t *testing.T) {
	for _, text := range append(memTexts(), "-", "a b", " a", "a ", "  ", "\n", "a\n", "\t", "f", "\x00", "0", "1 2", pattern(3, 9000)) {
		for start, want := range map[string]impl.Event{"make 1 0 1": evMake(1, 0, 1, text), "remove 1 0": evRemove(1, 0, text)} {
			acceptRead(t, start+" "+text)
			if got, ok := impl.ReadEvent(start + " " + text); !ok || !sameEvent(got, want) {
				t.Errorf("ReadEvent of %q and %q = %+v, %v", start, text, got, ok)
			}
		}
	}
	for _, s := range []string{"make", "make ", "make 1", "make 1 ", "make 1 0", "make 1 0 ", "make 1 0 1", "make 1 0 f", "make 1 0 f g", "make 1 0  f", "make  1 0 1 f", "make 1  0 1 f", "remove", "remove ", "remove 1", "remove 1 ", "remove 1 0", "remove 1 f", "remove f 1 0", "remove 1  0 f"} {
		refuseRead(t, s)
	}
}

func TestReadEventOfPower(t *testing.T) {
	many := "power"
	for n := range 300 {
		many += " " + strconv.Itoa(n*7919%1000000)
	}
	for _, s := range []string{"power", "power 0", "power 95", "power 96", "power 0 0 0", "power 3 4", "power 999999", many} {
		acceptRead(t, s)
	}
	if got, _ := impl.ReadEvent(many); len(got.Kept) != 300 || got.Kept[299] != 299*7919%1000000 || got.Kept[1] != 7919 {
		t.Errorf("of many lines there are %v", got.Kept)
	}
	for _, s := range []string{"power ", "power  ", " power", "power  3", "power 3 ", "power 3  4", "power x", "power -1", "power 3 x", "power -", "power 3,4", "power 1000000", "power3", "powers", "powe", many + " ", many + " x"} {
		refuseRead(t, s)
	}
}

// oneOfEach is a line of each kind of event, all of which are read.
func oneOfEach() []string {
	return []string{"lend 1 0 5", "touch 1 48 6869", "last 1 48 16", "back 1 0", "tick", "power 6 28", "file 1 1 -", "make 1 0 1 f", "remove 1 0 f", "fill 1 0 1 c3a4"}
}

// questions is a line of each kind that is no event.
func questions() []string {
	return []string{"tree", "loans", "dirty", "find /f", "look 1 32 16", "clock"}
}

func TestReadEventRefuses(t *testing.T) {
	for _, s := range append(questions(), "", " ", "  ", "\n", "what", "good", "tick tick", "tick 0", "tick-", "1", "0 1 2", "-", "\x00", "\xff", "lend", "lend ", "lend 1", "lend 1 0", "lend 1 0 ", "lends 1 0 5", "len 1 0 5", "lend1 0 5") {
		refuseRead(t, s)
	}
	texts := map[string]bool{"make": true, "remove": true}
	for _, s := range oneOfEach() {
		acceptRead(t, s)
		word, behind, _ := strings.Cut(s, " ")
		if s != "tick" {
			refuseRead(t, word+"  "+behind)
			refuseRead(t, word+"\t"+behind)
			refuseRead(t, word+"\n"+behind)
			refuseRead(t, word+behind)
		}
		for _, ahead := range []string{" ", "\n", "\t", "\x00", "x", "\ufeff"} {
			refuseRead(t, ahead+s)
		}
		if words := strings.Split(s, " "); word != "power" {
			for n := range words {
				refuseRead(t, strings.Join(words[:n], " "))
				if blank := strings.Join(words[:n], " ") + " "; holdRead(t, blank) != (texts[word] && n == len(words)-1) {
					t.Errorf("%q is read, or not", blank)
				}
			}
		}
		for _, more := range []string{" ", " 1", " x", "\n", "\r", "\x00", " -"} {
			if word != "power" || more != " 1" {
				if holdRead(t, s+more) != texts[word] {
					t.Errorf("%q is read, or not", s+more)
				}
			}
		}
		for _, other := range []string{strings.ToUpper(word), strings.ToUpper(word[:1]) + word[1:], word[1:], word[:len(word)-1], word + "s", word + word} {
			refuseRead(t, strings.Replace(s, word, other, 1))
		}
	}
}

// TestReadEventOfChangedTexts: each byte is left out, put in twice, or another
// one, and what is read is what the document asks.
func TestReadEventOfChangedTexts(t *testing.T) {
	others := []byte{0, 9, 10, 13, 32, '+', '-', '.', '0', '1', '9', 'A', 'F', 'a', 'f', 'g', 't', 0x7f, 0x80, 0xc3, 0xff}
	count := [2]int{}
	note := func(s string) {
		if holdRead(t, s) {
			count[1]++
		} else {
			count[0]++
		}
	}
	for _, s := range append(oneOfEach(), "last 1 40 768", "lend 999999 0 10", "power", "power 0 0", "fill 1 0 1 -", "make 1 0 1 ", "remove 1 0  ") {
		for at := range len(s) {
			note(s[:at] + s[at+1:])
			note(s[:at] + s[at:at+1] + s[at:])
			note(s[:at])
			for _, b := range others {
				note(s[:at] + string([]byte{b}) + s[at+1:])
				note(s[:at] + string([]byte{b}) + s[at:])
			}
		}
		for b := range 256 {
			note(s + string([]byte{byte(b)}))
		}
	}
	if count[0] < 1000 || count[1] < 500 {
		t.Errorf("too few of one sort to tell: %v", count)
	}
}

// TestEventsComeBackFromTheirTexts, where their numbers can be told.
func TestEventsComeBackFromTheirTexts(t *testing.T) {
	r := rand.New(rand.NewSource(91))
	for range 20000 {
		number := func() int {
			return []int{0, 1, 8, 9, 10, 767, 768, 999999, r.Intn(1000000), r.Intn(20)}[r.Intn(10)]
		}
		e := impl.Event{Kind: r.Intn(10), Client: number(), Ino: number(), At: number(), Text: pattern(r.Intn(250), r.Intn(40))}
		if r.Intn(4) == 0 {
			e.Text = texts()[r.Intn(len(texts()))]
		}
		for range r.Intn(6) {
			e.Kept = append(e.Kept, number())
		}
		s := impl.EventText(e)
		acceptRead(t, s)
		if got, ok := impl.ReadEvent(s); !ok || !sameEvent(got, readable(e)) {
			t.Fatalf("ReadEvent(%q) = %+v, %v, not %+v", s, got, ok, readable(e))
		}
	}
	for _, e := range anyEvents() {
		holdRead(t, impl.EventText(e))
	}
	for _, far := range append(farNumbers(), 1000000, -1) {
		if far < 0 || far > 999999 {
			for _, e := range []impl.Event{evLend(far, 0, 5), evLend(1, far, 5), evLend(1, 0, far), evTouch(far, 1, "x"), evTouch(1, far, "x"), evLast(far, 1, 1), evLast(1, far, 1), evBack(far, 0), evBack(1, far), evPower(far), evPower(1, far, 2), evFile(far, 1, "x"), evFile(1, far, ""), evMake(far, 0, 1, "x"), evMake(1, far, 1, "x"), evMake(1, 0, far, "x"), evRemove(far, 0, "x"), evRemove(1, far, "x"), evFill(far, 0, 1, "x"), evFill(1, far, 1, "x"), evFill(1, 0, far, "x")} {
				refuseRead(t, impl.EventText(e))
			}
		}
	}
}

// TestDeskOfEachLine is an ordinary session with each kind of line.
func TestDeskOfEachLine(t *testing.T) {
	converse(t,
		[2]string{"tree", "d / 9 -;"}, [2]string{"loans", "-"}, [2]string{"dirty", "-"}, [2]string{"find /", "0"}, [2]string{"find /f", "-1"}, [2]string{"look 1 32 16", "fault"}, [2]string{"clock", "0"},
		[2]string{"lend 1 0 5", "good"}, [2]string{"loans", "0:1:5"}, [2]string{"lend 1 0 5", "busy"}, [2]string{"lend 2 0 5", "busy"}, [2]string{"lend 2 1 5", "nofile"}, [2]string{"lend 9 0 5", "wrong"}, [2]string{"lend 1 0 0", "wrong"}, [2]string{"lend 1 0 101", "wrong"},
		[2]string{"make 1 0 1 f", "good"}, [2]string{"make 1 0 1 f", "denied"}, [2]string{"make 1 0 2 d", "good"}, [2]string{"make 1 0 1 g", "denied"}, [2]string{"make 2 0 1 g", "nofile"},
		[2]string{"fill 1 0 1 6869", "good"}, [2]string{"fill 1 0 2 6869", "denied"}, [2]string{"fill 2 0 1 6869", "nofile"}, [2]string{"look 1 192 4", "68690000"}, [2]string{"look 1 32 16", "02092000050000000000000000000000"}, [2]string{"look 2 32 16", "fault"},
		[2]string{"tree", "d / 9 -;"}, [2]string{"find /f", "-1"}, [2]string{"back 2 0", "nofile"}, [2]string{"back 1 0", "good"}, [2]string{"back 1 0", "nofile"},
		[2]string{"tree", "d / 9 -;d /d 1 -;f /f 1 6869;"}, [2]string{"find /f", "1"}, [2]string{"find /d", "2"}, [2]string{"find /g", "-1"}, [2]string{"loans", "-"},
		[2]string{"lend 2 1 3", "denied"}, [2]string{"lend 1 1 3", "good"}, [2]string{"tick", "good"}, [2]string{"clock", "1"}, [2]string{"lend 1 2 100", "good"}, [2]string{"loans", "1:1:3 2:1:101"},
		[2]string{"file 1 1 -", "good"}, [2]string{"file 1 1 68656c6c6f", "good"}, [2]string{"file 1 2 -", "denied"}, [2]string{"file 1 0 -", "nofile"}, [2]string{"touch 1 192 4a", "good"}, [2]string{"touch 1 160 4a", "fault"}, [2]string{"touch 1 192 -", "fault"},
		[2]string{"dirty", "24"}, [2]string{"last 1 192 1", "good"}, [2]string{"dirty", "-"}, [2]string{"last 1 192 0", "fault"}, [2]string{"last 2 192 1", "fault"}, [2]string{"look 1 192 5", "4a656c6c6f"},
		[2]string{"tick", "good"}, [2]string{"tree", "d / 9 -;d /d 1 -;f /f 1 6869;"}, [2]string{"tick", "good"}, [2]string{"tree", "d / 9 -;d /d 1 -;f /f 1 4a656c6c6f;"}, [2]string{"loans", "2:1:101"}, [2]string{"clock", "3"},
		[2]string{"touch 1 64 ff", "good"}, [2]string{"dirty", "8"}, [2]string{"back 1 2", "rejected"}, [2]string{"dirty", "-"}, [2]string{"tree", "d / 9 -;d /d 1 -;f /f 1 4a656c6c6f;"},
		[2]string{"lend 3 0 9", "good"}, [2]string{"remove 3 0 f", "good"}, [2]string{"remove 3 0 f", "denied"}, [2]string{"remove 2 0 f", "nofile"}, [2]string{"touch 3 40 00ff", "good"}, [2]string{"dirty", "5"}, [2]string{"power 5", "good"}, [2]string{"dirty", "-"}, [2]string{"loans", "-"}, [2]string{"tree", "d / 9 -;d /d 1 -;f /f 1 4a656c6c6f;"},
		[2]string{"lend 3 0 9", "good"}, [2]string{"remove 3 0 f", "good"}, [2]string{"back 3 0", "good"}, [2]string{"power", "good"}, [2]string{"tree", "d / 9 -;d /d 1 -;"}, [2]string{"clock", "3"}, [2]string{"what", "what"},
	)
}

// TestDeskOfManyLoans: none, one, and all eight inodes, with files below files
// and directories.
func TestDeskOfManyLoans(t *testing.T) {
	converse(t,
		[2]string{"loans", "-"}, [2]string{"lend 4 0 7", "good"}, [2]string{"loans", "0:4:7"}, [2]string{"make 4 0 2 d", "good"}, [2]string{"make 4 0 1 a", "good"}, [2]string{"fill 4 0 2 00", "good"}, [2]string{"tick", "good"}, [2]string{"back 4 0", "good"},
		[2]string{"lend 4 1 7", "good"}, [2]string{"loans", "1:4:8"}, [2]string{"make 4 1 1 x.y", "good"}, [2]string{"fill 4 1 3 0a20", "good"}, [2]string{"make 4 1 2 deep", "good"}, [2]string{"back 4 1", "good"},
		[2]string{"lend 4 4 7", "good"}, [2]string{"make 4 4 1 1", "good"}, [2]string{"make 4 4 1 2", "good"}, [2]string{"back 4 4", "good"}, [2]string{"lend 8 0 1", "good"}, [2]string{"make 8 0 1 zz", "good"}, [2]string{"tick", "good"}, [2]string{"loans", "-"},
		[2]string{"tree", "d / 9 -;f /a 4 00;d /d 4 -;d /d/deep 4 -;f /d/deep/1 4 -;f /d/deep/2 4 -;f /d/x.y 4 0a20;f /zz 8 -;"}, [2]string{"find /d/deep/2", "6"}, [2]string{"find /zz", "7"}, [2]string{"find d", "-1"}, [2]string{"find /d/", "-1"}, [2]string{"find //", "-1"}, [2]string{"find", "what"}, [2]string{"find ", "-1"}, [2]string{"find  ", "-1"}, [2]string{"find /d deep", "-1"}, [2]string{"find  /d", "-1"}, [2]string{"find /d ", "-1"},
		[2]string{"lend 4 6 1", "good"}, [2]string{"lend 4 3 2", "good"}, [2]string{"loans", "3:4:4 6:4:3"}, [2]string{"lend 8 7 3", "good"}, [2]string{"lend 0 0 100", "good"}, [2]string{"lend 4 1 4", "good"}, [2]string{"lend 4 2 5", "good"}, [2]string{"lend 4 5 6", "good"}, [2]string{"lend 4 4 7", "good"},
		[2]string{"loans", "0:0:102 1:4:6 2:4:7 3:4:4 4:4:9 5:4:8 6:4:3 7:8:5"}, [2]string{"loans", "0:0:102 1:4:6 2:4:7 3:4:4 4:4:9 5:4:8 6:4:3 7:8:5"}, [2]string{"tick", "good"}, [2]string{"loans", "0:0:102 1:4:6 2:4:7 3:4:4 4:4:9 5:4:8 7:8:5"}, [2]string{"back 8 7", "good"}, [2]string{"loans", "0:0:102 1:4:6 2:4:7 3:4:4 4:4:9 5:4:8"},
		[2]string{"tick", "good"}, [2]string{"tick", "good"}, [2]string{"loans", "0:0:102 1:4:6 2:4:7 4:4:9 5:4:8"}, [2]string{"power", "good"}, [2]string{"loans", "-"}, [2]string{"lend 4 6 1", "good"}, [2]string{"loans", "6:4:6"}, [2]string{"clock", "5"},
	)
}

// TestDeskOfLook: of bytes that are lent, that are not, of none, and over the
// end of what is lent.
func TestDeskOfLook(t *testing.T) {
	converse(t,
		[2]string{"look 1 160 1", "fault"}, [2]string{"lend 1 0 5", "good"}, [2]string{"look 1 160 1", "00"}, [2]string{"touch 1 160 00ff0a", "good"}, [2]string{"look 1 160 3", "00ff0a"}, [2]string{"look 1 161 2", "ff0a"}, [2]string{"look 1 160 0", "fault"}, [2]string{"look 1 0 1", "fault"}, [2]string{"look 1 31 2", "fault"},
		[2]string{"look 1 160 128", "00ff0a" + strings.Repeat("00", 125)}, [2]string{"look 1 160 129", "fault"}, [2]string{"look 1 287 1", "00"}, [2]string{"look 1 288 1", "fault"}, [2]string{"look 2 160 1", "fault"}, [2]string{"look 9 160 1", "fault"}, [2]string{"look 999999 999999 999999", "fault"}, [2]string{"look 0 0 0", "fault"},
		[2]string{"look 1 160", "what"}, [2]string{"look 1", "what"}, [2]string{"look", "what"}, [2]string{"look ", "what"}, [2]string{"look 1 160 1 ", "what"}, [2]string{"look 1 160 1 1", "what"}, [2]string{"look 1 160 1000000", "what"}, [2]string{"look 1000000 160 1", "what"}, [2]string{"look 1 0160 1", "what"}, [2]string{"look 1 160 01", "what"}, [2]string{"look 1 -160 1", "what"}, [2]string{"look 1 160 -1", "what"}, [2]string{"look 1  160 1", "what"}, [2]string{"look  1 160 1", "what"}, [2]string{"look 1 x 1", "what"}, [2]string{"look x 160 1", "what"}, [2]string{"look 1 160 -", "what"}, [2]string{"Look 1 160 1", "what"}, [2]string{"LOOK 1 160 1", "what"}, [2]string{"look 1 160 1\r", "what"},
		[2]string{"look 1 160 3", "00ff0a"}, [2]string{"power 20", "good"}, [2]string{"look 1 160 3", "fault"},
	)
}

// TestDeskOfTexts: blanks belong to a text, and bytes of nothing are a hyphen.
func TestDeskOfTexts(t *testing.T) {
	converse(t,
		[2]string{"make 1 0 1 a", "nofile"}, [2]string{"remove 1 0 ", "nofile"}, [2]string{"lend 1 0 9", "good"}, [2]string{"make 1 0 1 ", "denied"}, [2]string{"make 1 0 1 a b", "denied"}, [2]string{"make 1 0 1  a", "denied"}, [2]string{"make 1 0 1 a ", "denied"}, [2]string{"make 1 0 1 a\r", "denied"}, [2]string{"make 1 0 1 a\x00", "denied"}, [2]string{"make 1 0 1 \xff", "denied"}, [2]string{"make 1 0 1", "what"}, [2]string{"make 1 0 3 a", "denied"}, [2]string{"make 1 0 0 a", "denied"},
		[2]string{"make 1 0 1 abcdefghijklmno", "denied"}, [2]string{"make 1 0 1 abcdefghijklmn", "good"}, [2]string{"remove 1 0", "what"}, [2]string{"remove 1 0 ", "denied"}, [2]string{"remove 1 0 abcdefghijklmn ", "denied"}, [2]string{"remove 1 0  abcdefghijklmn", "denied"}, [2]string{"remove 1 0 abcdefghijklmn", "good"}, [2]string{"make 1 0 1 -", "denied"}, [2]string{"make 1 0 1 a", "good"},
		[2]string{"fill 1 0 1", "what"}, [2]string{"fill 1 0 1 ", "what"}, [2]string{"fill 1 0 1 -", "good"}, [2]string{"fill 1 0 1 -61", "what"}, [2]string{"fill 1 0 1 --", "what"}, [2]string{"fill 1 0 1 6", "what"}, [2]string{"fill 1 0 1 AA", "what"}, [2]string{"fill 1 0 1 61", "good"}, [2]string{"fill 1 0 1 61 ", "what"}, [2]string{"fill 1 0 1 61 62", "what"}, [2]string{"look 1 192 1", "61"}, [2]string{"back 1 0", "good"}, [2]string{"tree", "d / 9 -;f /a 1 61;"},
		[2]string{"lend 1 1 9", "good"}, [2]string{"file 1 1", "what"}, [2]string{"file 1 1 ", "what"}, [2]string{"file 1 1 -6", "what"}, [2]string{"file 1 1 6-", "what"}, [2]string{"file 1 1 6g", "what"}, [2]string{"file 1 1 " + strings.Repeat("ab", 160), "good"}, [2]string{"file 1 1 " + strings.Repeat("ab", 161), "denied"}, [2]string{"file 1 1 -", "good"}, [2]string{"touch 1 48 -", "fault"}, [2]string{"touch 1 48 -00", "what"}, [2]string{"touch 1 48", "what"}, [2]string{"touch 1 48 0", "what"}, [2]string{"back 1 1", "good"}, [2]string{"tree", "d / 9 -;f /a 1 -;"},
	)
}

// TestDeskOfDirtyAndPower: no line kept, some, and all.
func TestDeskOfDirtyAndPower(t *testing.T) {
	all := ""
	for n := range 96 {
		all += " " + strconv.Itoa(n)
	}
	for _, kept := range []string{"", " 0", " 6", " 20 21 22 23", " 999999", all, all + all} {
		converse(t,
			[2]string{"dirty", "-"}, [2]string{"lend 1 0 9", "good"}, [2]string{"make 1 0 1 f", "good"}, [2]string{"back 1 0", "good"}, [2]string{"lend 1 1 9", "good"}, [2]string{"lend 2 0 9", "good"}, [2]string{"dirty", "-"},
			[2]string{"touch 1 48 0101", "good"}, [2]string{"dirty", "-"}, [2]string{"touch 1 55 0707", "good"}, [2]string{"dirty", "6 7"}, [2]string{"touch 2 160 ff", "good"}, [2]string{"dirty", "6 7 20"}, [2]string{"last 1 48 1", "good"}, [2]string{"dirty", "7 20"}, [2]string{"last 1 48 768", "fault"}, [2]string{"last 1 48 769", "what"},
			[2]string{"power" + kept, "good"}, [2]string{"dirty", "-"}, [2]string{"loans", "-"}, [2]string{"tree", "d / 9 -;f /f 1 -;"}, [2]string{"power" + kept, "good"}, [2]string{"power" + kept + " ", "what"}, [2]string{"power" + kept + " x", "what"},
		)
	}
}

// TestDeskOfEdges: the empty script, one line, just 120 lines and just
// MaxScript bytes, and one beyond.
func TestDeskOfEdges(t *testing.T) {
	if impl.MaxScript != 8000 {
		t.Errorf("MaxScript is %d", impl.MaxScript)
	}
	full := strings.Repeat("find /"+strings.Repeat("a", 59)+"\n", 120)
	long := func(n int) string {
		return strings.Repeat("x", n-1) + "\n"
	}
	hundred := strings.Repeat("tick\n", 100)
	last := hundred + "clock\nfind " + strings.Repeat("/", 8000-len(hundred)-12) + "\n"
	for _, c := range [][2]string{
		{"", ""}, {"\n", "what\n"}, {"\n\n", "what\nwhat\n"}, {"clock\n", "0\n"}, {"clock\n\nclock\n", "0\nwhat\n0\n"}, {" \n", "what\n"},
		{strings.Repeat("clock\n", 119), strings.Repeat("0\n", 119)}, {strings.Repeat("clock\n", 120), strings.Repeat("0\n", 120)}, {strings.Repeat("clock\n", 121), "long\n"}, {strings.Repeat("clock\n", 122), "long\n"},
		{strings.Repeat("\n", 120), strings.Repeat("what\n", 120)}, {strings.Repeat("\n", 121), "long\n"}, {strings.Repeat("\n", 8000), "long\n"}, {strings.Repeat("\n", 8001), "long\n"},
		{strings.Repeat("tick\n", 119) + "clock\n", strings.Repeat("good\n", 119) + "119\n"}, {strings.Repeat("tick\n", 120) + "clock\n", "long\n"},
		{long(7999), "what\n"}, {long(8000), "what\n"}, {long(8001), "long\n"}, {long(8002), "long\n"}, {long(100000), "long\n"}, {"clock\n" + long(7994), "0\nwhat\n"}, {"clock\n" + long(7995), "long\n"},
		{full, strings.Repeat("-1\n", 120)}, {last, strings.Repeat("good\n", 100) + "100\n-1\n"}, {last + "\n", "long\n"}, {"\n" + last, "long\n"},
		{"clock", "long\n"}, {"x", "long\n"}, {" ", "long\n"}, {"\r", "long\n"}, {"\x00", "long\n"}, {"clock\nclock", "long\n"}, {"clock\n ", "long\n"}, {"\nx", "long\n"}, {"clock\n\r", "long\n"}, {"clock\n\x00", "long\n"}, {strings.Repeat("clock\n", 119) + "clock", "long\n"}, {strings.Repeat("clock\n", 120) + "x", "long\n"}, {long(7999) + "x", "long\n"},
		{"long\n", "what\n"},
	} {
		if got := holdDesk(t, c[0]); got != c[1] {
			t.Errorf("Desk of %d bytes, %.40q, is %.60q, not %.60q", len(c[0]), c[0], got, c[1])
		}
		if c[1] != "long\n" {
			holdBeginnings(t, c[0])
		}
	}
	if len(last) != 8000 {
		t.Errorf("the greatest script has %d bytes", len(last))
	}
}

// noLines are answered what, wherever they stand.
func noLines() []string {
	list := []string{"", " ", "  ", "-", "0", "1 2 3", "what", "good", "long", "nofile", "quit", "help", "look", "find", "\x00", "\r", "\t", "\xff\xfe", "ä", "\ufefftree", "tree;", "tree\x00", "files", "TREE", "events"}
	for _, s := range append(oneOfEach(), questions()...) {
		word, behind, more := strings.Cut(s, " ")
		list = append(list, " "+s, "\t"+s, "x"+s, strings.ToUpper(word)+s[len(word):], strings.ToUpper(s[:1])+s[1:], s[1:], word[:len(word)-1]+s[len(word):], word+"s"+s[len(word):], "\x00"+s, "\r"+s)
		if more {
			list = append(list, word+behind, word+"\t"+behind)
		}
		if more && word != "find" {
			list = append(list, word+"  "+behind, word+" x"+behind, word+" -"+behind, word+" 0"+behind, word+" +"+behind, word+" "+behind[1:])
		}
		if !slices.Contains([]string{"find", "make", "remove"}, word) {
			list = append(list, s+" ", s+" x", s+"\r", s+"\x00", s+"\t", s+" -", s+" -1", s+"\xff")
		}
		if !more {
			list = append(list, s+" 0", s+" "+s, s+s)
		}
	}
	for _, word := range wrongNumbers() {
		if !strings.Contains(word, "\n") {
			list = append(list, numbered(word)...)
			list = append(list, "look "+word+" 1 1", "look 1 "+word+" 1", "look 1 1 "+word, "last 1 40 "+word)
		}
	}
	return append(list, "last 1 40 769", "last 1 40 5000", "last 1 40 999999")
}

// TestDeskRefusesLines: a line that is none changes nothing, and the session
// goes on behind it.
func TestDeskRefusesLines(t *testing.T) {
	state := "tree\nloans\ndirty\nclock\nlook 1 32 16\n"
	first := "lend 1 0 5\nmake 1 0 1 f\nback 1 0\nlend 1 0 5\ntick\ntouch 1 48 ff\ntouch 1 32 0209\nlend 1 1 7\ntouch 1 49 0101\n"
	told := holdDesk(t, first+state)
	answer := strings.Join(strings.SplitAfter(told, "\n")[9:], "")
	if answer != "d / 9 -;f /f 1 -;\n0:1:5 1:1:8\n6\n1\n02091000050000000000000000000000\n" {
		t.Fatalf("the session is another one: %q", answer)
	}
	for _, line := range noLines() {
		got := holdDesk(t, first+line+"\n"+state)
		if want := strings.TrimSuffix(told, answer) + "what\n" + answer; got != want {
			t.Errorf("behind %q is told %q, not %q", line, got, want)
		}
	}
}

// talk is a script that grows, of what happens in a world and of questions
// between.
type talk struct {
	world  *world
	script string
	lines  int
}

// say answers whether there was room for a line.
func (c *talk) say(line string) bool {
	if c.lines == 120 || len(c.script)+len(line) >= 8000 {
		return false
	}
	c.script, c.lines = c.script+line+"\n", c.lines+1
	return true
}

func (c *talk) question() string {
	w := c.world
	files := impl.Files(impl.Truth(w.k))
	path := files[w.r.Intn(len(files))].Path
	client, at, n := w.r.Intn(10), w.r.Intn(780), w.r.Intn(40)
	if len(w.k.Loans) > 0 && w.r.Intn(5) > 0 {
		l := w.k.Loans[w.r.Intn(len(w.k.Loans))]
		ranges := wantRanges(l)
		at = ranges[w.r.Intn(len(ranges))].At
		client, n = l.Client, 1+w.r.Intn(32)
	}
	look := fmt.Sprintf("look %d %d %d", client, at, n)
	others := noLines()
	return []string{"tree", "tree", "tree", "loans", "loans", "dirty", "clock", "find " + path, "find " + path + goodNames()[w.r.Intn(len(goodNames()))], look, look, others[w.r.Intn(len(others))]}[w.r.Intn(12)]
}

// goOn lets something happen, and tells it; false when there is no room left.
func (c *talk) goOn() bool {
	from := len(c.world.events)
	c.world.step()
	for _, e := range c.world.events[from:] {
		if !c.say(impl.EventText(e)) {
			return false
		}
	}
	return c.world.r.Intn(3) > 0 || c.say(c.question())
}

// talks are whole scripts of many clients, with ticks and power cuts between.
func talks(t *testing.T, seed int64, count int) []string {
	r := rand.New(rand.NewSource(seed))
	list := []string{}
	for range count {
		c := &talk{world: &world{t: t, r: r, plans: map[int]*plan{}, count: map[string][7]int{}}}
		c.world.k = keeperOf(zeros(768), []held{dirOf(0, 9, nil)})
		for c.goOn() {
		}
		list = append(list, c.script)
	}
	return list
}

// TestDeskTalks holds whole scripts against the document, and their beginnings
// against them (promise 9).
func TestDeskTalks(t *testing.T) {
	t.Parallel()
	r := rand.New(rand.NewSource(92))
	count := map[string]int{}
	for n, script := range talks(t, 93, 60) {
		told := holdDesk(t, script)
		answers := strings.Split(told, "\n")
		for at, line := range strings.Split(script, "\n") {
			word, _, _ := strings.Cut(line, " ")
			sort, _, _ := strings.Cut(answers[at], " ")
			count[word+" "+sort]++
		}
		if n%4 == 0 {
			holdBeginnings(t, script)
			continue
		}
		lines := strings.SplitAfter(script, "\n")
		for range 8 {
			holdBeginning(t, script, told, len(strings.Join(lines[:r.Intn(len(lines))], "")))
		}
	}
	for _, sort := range []string{"lend good", "lend busy", "lend denied", "lend wrong", "touch good", "touch fault", "last good", "last fault", "back good", "back rejected", "back nofile", "tick good", "power good", "file good", "file denied", "file nofile", "make good", "make denied", "make nofile", "remove good", "remove denied", "fill good", "fill denied", "fill nofile", "tree d", "loans -", "dirty -", "find 0", "find -1", "find 1", "look fault", "look what", "lend what"} {
		if count[sort] < 5 {
			t.Errorf("too few of one sort to tell: %s, %d", sort, count[sort])
		}
	}
}

// TestDeskOfMixedLines: lines of all sorts in any order, most of which are
// refused or none at all.
func TestDeskOfMixedLines(t *testing.T) {
	t.Parallel()
	r := rand.New(rand.NewSource(94))
	pool := append(append(oneOfEach(), questions()...), noLines()...)
	for _, e := range anyEvents() {
		if text := impl.EventText(e); len(text) < 200 && !strings.Contains(text, "\n") {
			pool = append(pool, text)
		}
	}
	good := append(oneOfEach(), questions()...)
	for n := range 300 {
		script := ""
		for range r.Intn(60) {
			list := [][]string{pool, good, good}[r.Intn(3)]
			script += list[r.Intn(len(list))] + "\n"
		}
		holdDesk(t, script)
		if n%10 == 0 && len(script) <= 8000 {
			holdBeginnings(t, script)
		}
	}
}

// TestDeskAnswersAtAnyText: a panic fails the test by itself; the same text
// twice has the same answer, which has a line for each line of a script.
func TestDeskAnswersAtAnyText(t *testing.T) {
	t.Parallel()
	r := rand.New(rand.NewSource(95))
	scripts := append(append(talks(t, 96, 6), memTexts()...), goodMemories()...)
	for _, text := range memTexts() {
		scripts = append(scripts, text+"\n", "\n"+text, text+"\n"+text+"\n")
	}
	for range 800 {
		room := []byte(scripts[r.Intn(6)])
		for range 1 + r.Intn(6) {
			at := r.Intn(len(room))
			switch r.Intn(4) {
			case 0:
				room[at] = byte(r.Intn(256))
			case 1:
				room[at] = " \n-0123456789abcdef"[r.Intn(19)]
			case 2:
				room = slices.Delete(room, at, min(len(room), at+1+r.Intn(3)))
			default:
				room = slices.Insert(room, at, byte(r.Intn(256)))
			}
		}
		scripts = append(scripts, string(room))
	}
	for n, text := range scripts {
		got := impl.Desk(text)
		if n%5 == 0 || len(text) < 100 {
			holdDesk(t, text)
		}
		isScript := text == "" || len(text) <= 8000 && strings.HasSuffix(text, "\n") && strings.Count(text, "\n") <= 120
		if isScript && strings.Count(got, "\n") != strings.Count(text, "\n") || !isScript && got != "long\n" {
			t.Fatalf("Desk(%q) = %q", text, got)
		}
		holdRead(t, text)
		for _, line := range strings.Split(text, "\n") {
			holdRead(t, line)
		}
		if n%20 == 0 && got != impl.Desk(text) {
			t.Fatalf("two answers to one text: %q", text)
		}
	}
}

// TestDesksSideBySide: nothing is kept from one call to another, nor shared by
// two at the same time.
func TestDesksSideBySide(t *testing.T) {
	t.Parallel()
	scripts := talks(t, 97, 4)
	want := []string{}
	for _, script := range scripts {
		want = append(want, impl.Desk(script))
	}
	group := sync.WaitGroup{}
	for n := range 24 {
		group.Go(func() {
			for round := range 3 {
				at := (n + round) % len(scripts)
				if got := impl.Desk(scripts[at]); got != want[at] {
					t.Errorf("beside others is told %q, not %q", got, want[at])
				}
			}
		})
	}
	group.Wait()
}

// TestDeskAnswersAreNewMemory: no text of an answer is one of the argument, and
// what is written into a list shows nowhere.
func TestDeskAnswersAreNewMemory(t *testing.T) {
	for _, s := range append(oneOfEach(), "make 1 0 1 a b c", "make 1 0 1 ", "remove 1 0 \x00", "touch 1 0 6869", "power", "power 1 2 3", "no event", "tree", "") {
		s = strings.Clone(s)
		e, ok := impl.ReadEvent(s)
		again, _ := impl.ReadEvent(s)
		if sharesMemory(e.Text, s) {
			t.Errorf("the text of ReadEvent(%q) is a part of it", s)
		}
		list := e.Kept[:cap(e.Kept)]
		for n := range list {
			list[n] = -7
		}
		if third, still := impl.ReadEvent(s); still != ok || !reflect.DeepEqual(again, third) {
			t.Errorf("a list of ReadEvent(%q) is shared: %+v, then %+v", s, again, third)
		}
		if told := impl.Desk(s); sharesMemory(told, s) {
			t.Errorf("Desk(%q) is a part of it", s)
		}
	}
	script := strings.Clone("lend 1 0 5\nlook 1 32 16\nwhat\ntree\nlong\n")
	if told := impl.Desk(script); sharesMemory(told, script) {
		t.Error("what is told is a part of the script")
	}
}
