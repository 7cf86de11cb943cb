package impl

import (
	"strconv"
	"strings"
)

const MaxBytes = 5000

const (
	maxPair = 65535
	maxDec  = 999999
)

var hexDigits = [16]byte{'0', '1', '2', '3', '4', '5', '6', '7', '8', '9', 'a', 'b', 'c', 'd', 'e', 'f'}

func ByteAt(s string, i int) int {
	if i < 0 || i >= len(s) {
		return 0
	}
	return int(s[i])
}

// liesIn takes n from the length instead of adding it to i, since a sum of
// great numbers would wrap round and seem to lie inside.
func liesIn(s string, i int, n int) bool {
	return i >= 0 && n >= 0 && i <= len(s) && n <= len(s)-i
}

// Part clones, since a slice of a string shares its memory.
func Part(s string, i int, n int) string {
	if !liesIn(s, i, n) {
		return ""
	}
	return strings.Clone(s[i : i+n])
}

func With(s string, i int, t string) string {
	room := []byte(s)
	if liesIn(s, i, len(t)) {
		copy(room[i:], t)
	}
	return string(room)
}

func Zeros(n int) string {
	if n < 0 || n > MaxBytes {
		return ""
	}
	return string(make([]byte, n))
}

func Pair(n int) string {
	if n < 0 || n > maxPair {
		return ""
	}
	return string([]byte{byte(n), byte(n >> 8)})
}

func PairAt(s string, i int) int {
	if !liesIn(s, i, 2) {
		return 0
	}
	return int(s[i]) + int(s[i+1])<<8
}

func DecText(n int) string {
	return strconv.Itoa(n)
}

// ReadDec holds what it read against its DecText at the end: this refuses the
// empty text and needless noughts, which the loop lets through.
func ReadDec(s string) int {
	n := 0
	for _, c := range s {
		if c < '0' || c > '9' {
			return -1
		}
		n = n*10 + int(c-'0')
		if n > maxDec {
			return -1
		}
	}
	if DecText(n) != s {
		return -1
	}
	return n
}

// Hex goes by place, since a range over s would join bytes into longer runes.
func Hex(s string) string {
	digits := make([]byte, 0, 2*len(s))
	for i := 0; i < len(s); i++ {
		digits = append(digits, hexDigits[s[i]>>4], hexDigits[s[i]&15])
	}
	return string(digits)
}

func Words(s string) []string {
	words := []string{}
	start := 0
	for i := 0; i < len(s); i++ {
		if s[i] == ' ' {
			words = append(words, Part(s, start, i-start))
			start = i + 1
		}
	}
	return append(words, Part(s, start, len(s)-start))
}
