package tests

import (
	"fmt"
	"math"
	"reflect"
	"strings"
	"testing"
	"unsafe"

	"loop.example/g00278/impl"
)

// texts are of ordinary bytes, of runes of more bytes, of bytes that are no
// rune at all, and of zeros.
func texts() []string {
	return []string{
		"", "a", "abc", "abcdefgh", " ", "  ", " a  b ",
		"\x00", "\x00\x00\x00", "\xff", "\xff\xfe\x80", "h\u00e4\u20ac\U0001f600", "\xe2\x82", "0", "120", "-1",
	}
}

// places are those in and just outside of a short text, and those whose sum
// with a length does not fit into an int.
func places() []int {
	list := []int{
		math.MinInt, math.MinInt + 1, math.MinInt32, -65536, -2, -1,
		math.MaxInt - 8, math.MaxInt - 2, math.MaxInt - 1, math.MaxInt,
		255, 256, 4999, 5000, 5001, 65535, 65536, 999999, 1000000, math.MaxInt32, math.MaxUint32,
	}
	for i := range 20 {
		list = append(list, i)
	}
	return list
}

// allLieIn adds as uint64, where two ints of 0 or more can't wrap round.
func allLieIn(s string, i int, n int) bool {
	return i >= 0 && n >= 0 && uint64(i)+uint64(n) <= uint64(len(s))
}

// sharesMemory tells whether two texts have a byte in common.
func sharesMemory(a string, b string) bool {
	if a == "" || b == "" {
		return false
	}
	x := uintptr(unsafe.Pointer(unsafe.StringData(a)))
	y := uintptr(unsafe.Pointer(unsafe.StringData(b)))
	return x < y+uintptr(len(b)) && y < x+uintptr(len(a))
}

func TestByteAt(t *testing.T) {
	for _, s := range texts() {
		for _, i := range places() {
			want := 0
			if i >= 0 && i < len(s) {
				want = int([]byte(s)[i])
			}
			if got := impl.ByteAt(s, i); got != want {
				t.Errorf("ByteAt(%q, %d) = %d, not %d", s, i, got, want)
			}
		}
	}
}

func TestPart(t *testing.T) {
	for _, s := range texts() {
		for _, i := range places() {
			for _, n := range places() {
				want := ""
				if allLieIn(s, i, n) {
					want = string([]byte(s)[i : i+n])
				}
				if got := impl.Part(s, i, n); got != want {
					t.Errorf("Part(%q, %d, %d) = %q, not %q", s, i, n, got, want)
				}
			}
		}
	}
}

func TestWith(t *testing.T) {
	for _, s := range texts() {
		for _, i := range places() {
			for _, x := range texts() {
				want := []byte(s)
				if allLieIn(s, i, len(x)) {
					for j := range len(x) {
						want[i+j] = x[j]
					}
				}
				if got := impl.With(s, i, x); got != string(want) {
					t.Errorf("With(%q, %d, %q) = %q, not %q", s, i, x, got, want)
				}
			}
		}
	}
}

func TestWithIsReadBack(t *testing.T) {
	s := strings.Repeat("0123456789", 10)
	x := "\x00\xff \n"
	for i := 0; i <= len(s)-len(x); i++ {
		got := impl.With(s, i, x)
		if impl.Part(got, i, len(x)) != x {
			t.Errorf("at %d: what was put is not there", i)
		}
		if impl.Part(got, 0, i) != s[:i] || impl.Part(got, i+len(x), len(s)-i-len(x)) != s[i+len(x):] {
			t.Errorf("at %d: something else was changed", i)
		}
	}
	for i := len(s) - len(x) + 1; i < len(s)+5; i++ {
		if impl.With(s, i, x) != s {
			t.Errorf("at %d: changed, though not all of it lies there", i)
		}
	}
}

func TestZeros(t *testing.T) {
	if impl.MaxBytes != 5000 {
		t.Errorf("MaxBytes is %d", impl.MaxBytes)
	}
	for n := range 5001 {
		if got := impl.Zeros(n); got != strings.Repeat("\x00", n) {
			t.Fatalf("Zeros(%d) has %d bytes, or others than 0", n, len(got))
		}
	}
	for _, n := range places() {
		if got := impl.Zeros(n); (n < 0 || n > 5000) && got != "" {
			t.Errorf("Zeros(%d) has %d bytes", n, len(got))
		}
	}
}

func TestPair(t *testing.T) {
	for n := range 65536 {
		s := impl.Pair(n)
		if len(s) != 2 || int(s[0]) != n%256 || int(s[1]) != n/256 {
			t.Fatalf("Pair(%d) = %q", n, s)
		}
		if impl.PairAt(s, 0) != n || impl.PairAt("x"+s, 1) != n || impl.PairAt("xy"+s+"z", 2) != n {
			t.Fatalf("the Pair of %d is not read back", n)
		}
	}
	for _, n := range places() {
		if got := impl.Pair(n); (n < 0 || n > 65535) && got != "" {
			t.Errorf("Pair(%d) = %q", n, got)
		}
	}
}

func TestPairAt(t *testing.T) {
	for _, s := range texts() {
		for _, i := range places() {
			want := 0
			if allLieIn(s, i, 2) {
				want = int(s[i]) + 256*int(s[i+1])
			}
			if got := impl.PairAt(s, i); got != want {
				t.Errorf("PairAt(%q, %d) = %d, not %d", s, i, got, want)
			}
		}
	}
}

func TestDecText(t *testing.T) {
	for _, n := range places() {
		if got := impl.DecText(n); got != fmt.Sprint(n) {
			t.Errorf("DecText(%d) = %q", n, got)
		}
	}
	if got := impl.DecText(math.MinInt); got != "-9223372036854775808" {
		t.Errorf("DecText of the least int is %q", got)
	}
	if got := impl.DecText(math.MaxInt); got != "9223372036854775807" {
		t.Errorf("DecText of the greatest int is %q", got)
	}
}

func TestReadDecOfNumbers(t *testing.T) {
	for n := range 1000000 {
		if got := impl.ReadDec(impl.DecText(n)); got != n {
			t.Fatalf("the DecText of %d is read as %d", n, got)
		}
	}
	for _, n := range places() {
		if got := impl.ReadDec(impl.DecText(n)); (n < 0 || n > 999999) && got != -1 {
			t.Errorf("the DecText of %d is read as %d", n, got)
		}
	}
}

func TestReadDecOfOtherTexts(t *testing.T) {
	wrong := []string{
		"", "00", "01", "007", "0000000", "000001", "0999999", "1000000", "9999999",
		"-", "-0", "-1", "+1", "--1", " 1", "1 ", "1 2", "1\n", "\n", "1.0", "1e3", "1_000", "0x1", "a", "1a", "a1",
		"/", ":", "1/", "1:", "\x00", "1\x00", "\x001", "\xff", "1\xff", "\uff11", "\u0661",
		"18446744073709551616", "18446744073709551617", "9223372036854775808", "-9223372036854775808",
		strings.Repeat("0", 10000), strings.Repeat("9", 10000), strings.Repeat("0", 10000) + "1",
	}
	for _, s := range wrong {
		if got := impl.ReadDec(s); got != -1 {
			t.Errorf("ReadDec(%q) = %d", s, got)
		}
	}
}

func TestHex(t *testing.T) {
	all := ""
	for n := range 256 {
		s := string([]byte{byte(n)})
		all += s
		if got := impl.Hex(s); got != fmt.Sprintf("%02x", n) {
			t.Errorf("Hex of the byte %d is %q", n, got)
		}
	}
	for _, s := range append(texts(), all) {
		if got := impl.Hex(s); got != fmt.Sprintf("%x", []byte(s)) {
			t.Errorf("Hex(%q) = %q", s, got)
		}
	}
}

func TestWords(t *testing.T) {
	cases := []struct {
		s    string
		want []string
	}{
		{"", []string{""}},
		{" ", []string{"", ""}},
		{"   ", []string{"", "", "", ""}},
		{"a", []string{"a"}},
		{"lend 1 2", []string{"lend", "1", "2"}},
		{" a", []string{"", "a"}},
		{"a ", []string{"a", ""}},
		{"a  b", []string{"a", "", "b"}},
		{"  a b  ", []string{"", "", "a", "b", "", ""}},
		{"a\tb\nc\u00a0d\x00e\u2003f", []string{"a\tb\nc\u00a0d\x00e\u2003f"}},
		{"\xff \xe2\x82 \u00e4", []string{"\xff", "\xe2\x82", "\u00e4"}},
	}
	for _, c := range cases {
		if got := impl.Words(c.s); !reflect.DeepEqual(got, c.want) {
			t.Errorf("Words(%q) = %q, not %q", c.s, got, c.want)
		}
	}
}

// TestWordsOfAllShortTexts: the parts, with blanks between them, are the text
// again, and none has a blank: no other list is so.
func TestWordsOfAllShortTexts(t *testing.T) {
	short := []string{""}
	for from := 0; len(short[len(short)-1]) < 6; {
		upTo := len(short)
		for _, s := range short[from:upTo] {
			short = append(short, s+" ", s+"a", s+"\xc3")
		}
		from = upTo
	}
	for _, s := range short {
		got := impl.Words(s)
		if len(got) != strings.Count(s, " ")+1 || strings.Join(got, " ") != s || strings.Contains(strings.Join(got, ""), " ") {
			t.Errorf("Words(%q) = %q", s, got)
		}
	}
}

func TestBytesAnswersAreNewMemory(t *testing.T) {
	s := string([]byte("one two three"))
	x := string([]byte("ONE TWO THREE"))
	short := string([]byte("ab"))
	answers := []string{
		impl.Part(s, 0, len(s)), impl.Part(s, 4, 3), impl.Part(s, -1, 3),
		impl.With(s, 0, x), impl.With(s, 0, short), impl.With(s, 0, ""), impl.With(s, -1, x), impl.With(s, 1, x), impl.With(s, math.MaxInt, short),
	}
	answers = append(answers, impl.Words(s)...)
	answers = append(answers, impl.Words(x)...)
	answers = append(answers, impl.Words(short)...)
	for n, a := range answers {
		if sharesMemory(a, s) || sharesMemory(a, x) || sharesMemory(a, short) {
			t.Errorf("answer %d, %q, shares memory with an argument", n, a)
		}
	}
	if s != "one two three" || x != "ONE TWO THREE" || short != "ab" {
		t.Error("an argument was written into")
	}
}

func TestWordsListsAreNew(t *testing.T) {
	s := "a b"
	one := impl.Words(s)
	one[0] = "changed"
	_ = append(one[:1], "changed too")
	if two := impl.Words(s); !reflect.DeepEqual(two, []string{"a", "b"}) {
		t.Errorf("a change in one answer shows in another: %q", two)
	}
}

// TestBytesAnswerAtAnyArguments: a panic fails the test by itself; the same
// question twice has the same answer.
func TestBytesAnswerAtAnyArguments(t *testing.T) {
	long := strings.Repeat("\xff\x00 9", 20000)
	for _, s := range append(texts(), long) {
		for _, i := range places() {
			first := []any{impl.ByteAt(s, i), impl.Part(s, i, i), impl.With(s, i, s), impl.Zeros(i), impl.Pair(i), impl.PairAt(s, i), impl.DecText(i)}
			again := []any{impl.ByteAt(s, i), impl.Part(s, i, i), impl.With(s, i, s), impl.Zeros(i), impl.Pair(i), impl.PairAt(s, i), impl.DecText(i)}
			if !reflect.DeepEqual(first, again) {
				t.Errorf("at %d of a text of %d bytes: two answers to one question", i, len(s))
			}
		}
		first := []any{impl.ReadDec(s), impl.Hex(s), impl.Words(s)}
		again := []any{impl.ReadDec(s), impl.Hex(s), impl.Words(s)}
		if !reflect.DeepEqual(first, again) {
			t.Errorf("of a text of %d bytes: two answers to one question", len(s))
		}
	}
}
