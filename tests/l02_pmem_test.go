package tests

import (
	"math"
	"math/rand"
	"reflect"
	"slices"
	"strings"
	"testing"

	"loop.example/g00278/impl"
)

// pattern is of so many bytes, none of them a zero, and unlike another seed's
// at every place (seeds 0 .. 250).
func pattern(seed int, n int) string {
	room := make([]byte, n)
	for i := range room {
		room[i] = byte(1 + (i*7+i/251+seed)%251)
	}
	return string(room)
}

// devices are all DevOk: without a dirty line, with every line dirty, and with
// some that differ in one byte alone, the first or the last of a line too.
func devices() []impl.Dev {
	zeros := strings.Repeat("\x00", 768)
	one, two := pattern(0, 768), pattern(1, 768)
	list := []impl.Dev{{Mem: zeros, Dur: zeros}, {Mem: one, Dur: one}, {Mem: one, Dur: two}, {Mem: one, Dur: zeros}, {Mem: zeros, Dur: one}}
	for _, at := range [][]int{{0}, {7}, {8}, {767}, {760}, {759, 760}, {7, 8}, {0, 767}, {100, 101, 300, 301, 302, 500}} {
		room := []byte(one)
		for _, i := range at {
			room[i] = 255
		}
		list = append(list, impl.Dev{Mem: string(room), Dur: one}, impl.Dev{Mem: one, Dur: string(room)})
	}
	room := []byte(two)
	for i := range room {
		if i/8%2 == 0 {
			room[i] = one[i]
		}
	}
	return append(list, impl.Dev{Mem: string(room), Dur: one}, impl.Dev{Mem: two, Dur: string(room)})
}

// wrongDevices have a text that is not of 768 bytes in Mem, in Dur, or in both.
func wrongDevices() []impl.Dev {
	list := []impl.Dev{}
	good := pattern(3, 768)
	for _, n := range []int{0, 1, 8, 760, 767, 769, 776, 1536, 100000} {
		bad := pattern(4, n)
		list = append(list, impl.Dev{Mem: bad, Dur: good}, impl.Dev{Mem: good, Dur: bad}, impl.Dev{Mem: bad, Dur: bad}, impl.Dev{Mem: bad, Dur: pattern(5, n)})
	}
	return append(list, impl.Dev{Mem: good + "x", Dur: good[1:]}, impl.Dev{Mem: good[1:], Dur: good + "x"})
}

// memPlaces are the ends of the memory, of lines and of pages, and places()
func memPlaces() []int {
	list := places()
	for _, i := range []int{24, 31, 32, 33, 95, 96, 97, 383, 384, 385, 751, 752, 753, 758, 759, 760, 761, 766, 767, 768, 769, 770, 775, 776, 777, 1536} {
		list = append(list, i)
	}
	return append(list, math.MaxInt-767, math.MaxInt-768, math.MaxInt-769, math.MinInt+767, math.MinInt+768, -7, -8, -9, -767, -768, -769)
}

func memTexts() []string {
	list := texts()
	for _, n := range []int{1, 2, 7, 8, 9, 15, 16, 17, 32, 760, 767, 768, 769, 776} {
		list = append(list, pattern(9, n))
	}
	return list
}

// keptLists have lines that are not dirty, none, twice and below 0 in them.
func keptLists() [][]int {
	all, even := []int{}, []int{}
	for n := range 96 {
		all = append(all, n)
		if n%2 == 0 {
			even = append(even, n)
		}
	}
	back := slices.Clone(all)
	slices.Reverse(back)
	return [][]int{
		nil, {}, {0}, {1}, {94}, {95}, {96}, {97}, {-1}, {-96}, {0, 0}, {95, 0, 95, 0}, {12, 37, 62}, {62, 37, 12, 37},
		{math.MinInt, math.MaxInt}, {math.MaxInt, 95, math.MinInt, 0, -1, 96}, {8, 16, 767, 768, 256, 256 + 95}, all, even, back,
		append(slices.Clone(all), all...), append([]int{-5, 1000}, even...), slices.Repeat([]int{1}, 5000),
	}
}

func lineIs(a string, b string, n int) bool {
	return a[8*n:8*n+8] == b[8*n:8*n+8]
}

func wantFlush(d impl.Dev, i int, n int) impl.Dev {
	if !allLieIn(d.Mem, i, n) {
		return d
	}
	dur := []byte(d.Dur)
	for at := i; at < i+n; at++ {
		for b := at - at%8; b < at-at%8+8; b++ {
			dur[b] = d.Mem[b]
		}
	}
	return impl.Dev{Mem: d.Mem, Dur: string(dur)}
}

func wantDirty(d impl.Dev) []int {
	list := []int{}
	for n := range 96 {
		if !lineIs(d.Mem, d.Dur, n) {
			list = append(list, n)
		}
	}
	return list
}

func wantPower(d impl.Dev, kept []int) impl.Dev {
	left := []byte(d.Dur)
	for _, n := range kept {
		if n >= 0 && n < 96 {
			copy(left[8*n:8*n+8], d.Mem[8*n:8*n+8])
		}
	}
	return impl.Dev{Mem: string(left), Dur: string(left)}
}

func TestMemorySizes(t *testing.T) {
	if impl.LineSize != 8 || impl.PageSize != 32 || impl.Pages != 24 || impl.Size != 768 {
		t.Error("a constant of the memory is another number")
	}
}

func TestDevOk(t *testing.T) {
	for _, d := range devices() {
		if !impl.DevOk(d) {
			t.Error("a device of Size bytes twice is not DevOk")
		}
	}
	for _, d := range wrongDevices() {
		if impl.DevOk(d) {
			t.Errorf("a device of %d and %d bytes is DevOk", len(d.Mem), len(d.Dur))
		}
	}
	if impl.DevOk(impl.Dev{}) {
		t.Error("the zero value is DevOk")
	}
}

func TestDevOf(t *testing.T) {
	for n := range 1600 {
		s := pattern(n%250, n)
		d, ok := impl.DevOf(s)
		if ok != (n == 768) {
			t.Errorf("DevOf of %d bytes answers %v", n, ok)
		}
		if ok && d != (impl.Dev{Mem: s, Dur: s}) || !ok && d != (impl.Dev{}) {
			t.Errorf("DevOf of %d bytes is another device", n)
		}
	}
	if d, ok := impl.DevOf(strings.Repeat("x", 1000000)); ok || d != (impl.Dev{}) {
		t.Error("DevOf of a long text")
	}
}

func TestStore(t *testing.T) {
	for _, d := range devices() {
		for _, i := range memPlaces() {
			for _, x := range memTexts() {
				want := d
				if allLieIn(d.Mem, i, len(x)) {
					want.Mem = d.Mem[:i] + x + d.Mem[i+len(x):]
				}
				if impl.Store(d, i, x) != want {
					t.Fatalf("Store of %d bytes at %d", len(x), i)
				}
			}
		}
	}
}

func TestStoreUpToTheEnd(t *testing.T) {
	d := devices()[1]
	for n := range 800 {
		x := pattern(77, n)
		just := impl.Store(d, 768-n, x)
		if n <= 768 && (just.Mem != d.Mem[:768-n]+x || just.Dur != d.Dur) || n > 768 && just != d {
			t.Errorf("a store of %d bytes that ends just at Size", n)
		}
		if impl.Store(d, 769-n, x) != d {
			t.Errorf("a store of %d bytes that passes Size by one is there", n)
		}
	}
}

func TestStoreOverTheBorderOfLines(t *testing.T) {
	d := impl.Dev{Mem: strings.Repeat("\x00", 768), Dur: strings.Repeat("\x00", 768)}
	for n := range 95 {
		d2 := impl.Store(d, 8*n+6, "abcd")
		if got := impl.Dirty(d2); !reflect.DeepEqual(got, []int{n, n + 1}) {
			t.Errorf("over the border behind line %d: %v are dirty", n, got)
		}
		if d2.Dur != d.Dur {
			t.Errorf("over the border behind line %d: it lasts", n)
		}
		half := impl.Power(d2, []int{n})
		if half.Mem[8*n+6:8*n+10] != "ab\x00\x00" || half.Mem != half.Dur {
			t.Errorf("over the border behind line %d: power leaves %q", n, half.Mem[8*n+6:8*n+10])
		}
	}
}

func TestFlush(t *testing.T) {
	for _, d := range devices() {
		for _, i := range memPlaces() {
			for _, n := range memPlaces() {
				if impl.Flush(d, i, n) != wantFlush(d, i, n) {
					t.Fatalf("Flush of %d bytes at %d", n, i)
				}
			}
		}
	}
}

// TestFlushOfEachPlace: with every line dirty, a line too many or too few
// shows.
func TestFlushOfEachPlace(t *testing.T) {
	d := devices()[2]
	for i := range 770 {
		for _, n := range []int{0, 1, 2, 7, 8, 9, 10, 16, 17, 32, 768 - i, 769 - i} {
			if impl.Flush(d, i, n) != wantFlush(d, i, n) {
				t.Fatalf("Flush of %d bytes at %d", n, i)
			}
		}
	}
}

func TestFlushOfOneByte(t *testing.T) {
	d := devices()[2]
	for i := range 768 {
		f := impl.Flush(d, i, 1)
		if f.Mem != d.Mem {
			t.Fatalf("a flush at %d changes what is read", i)
		}
		for n := range 96 {
			if n == i/8 && !lineIs(f.Dur, d.Mem, n) || n != i/8 && !lineIs(f.Dur, d.Dur, n) {
				t.Fatalf("a flush at %d: line %d", i, n)
			}
		}
	}
	if impl.Flush(d, 0, 768) != (impl.Dev{Mem: d.Mem, Dur: d.Mem}) {
		t.Error("a flush of all bytes")
	}
}

func TestFlushOfNothing(t *testing.T) {
	for _, d := range devices() {
		for i := -10; i < 780; i++ {
			if impl.Flush(d, i, 0) != d || impl.Flush(d, i, -1) != d || impl.Flush(d, i, 769-max(i, 0)) != d {
				t.Fatalf("a flush of no bytes, or of more than there are, at %d", i)
			}
		}
	}
}

func TestDirty(t *testing.T) {
	for _, d := range devices() {
		if got := impl.Dirty(d); !slices.Equal(got, wantDirty(d)) {
			t.Errorf("Dirty = %v, not %v", got, wantDirty(d))
		}
	}
	if got := impl.Dirty(devices()[2]); len(got) != 96 || got[0] != 0 || got[95] != 95 {
		t.Errorf("with every line dirty: %v", got)
	}
	if got := impl.Dirty(devices()[1]); len(got) != 0 {
		t.Errorf("with none: %v", got)
	}
}

func TestDirtyOfEachByte(t *testing.T) {
	d := devices()[1]
	for i := range 768 {
		s := impl.Store(d, i, "\x00")
		turned := impl.Dev{Mem: s.Dur, Dur: s.Mem}
		if a, b := impl.Dirty(s), impl.Dirty(turned); !slices.Equal(a, []int{i / 8}) || !slices.Equal(b, []int{i / 8}) {
			t.Fatalf("one byte at %d: %v and %v are dirty", i, a, b)
		}
		if back := impl.Store(s, i, d.Mem[i:i+1]); len(impl.Dirty(back)) != 0 {
			t.Fatalf("one byte at %d, written back: still dirty", i)
		}
	}
}

func TestPower(t *testing.T) {
	for _, d := range devices() {
		for _, kept := range keptLists() {
			got := impl.Power(d, kept)
			if got != wantPower(d, kept) {
				t.Errorf("Power, with %v kept, of a device with the dirty lines %v", kept, impl.Dirty(d))
			}
			if len(impl.Dirty(got)) != 0 || impl.Power(got, kept) != got {
				t.Error("power that goes twice changes something")
			}
		}
		if impl.Power(d, impl.Dirty(d)).Mem != d.Mem || impl.Power(d, nil).Mem != d.Dur {
			t.Error("all kept, or none")
		}
	}
}

// TestEachLineIsOldOrNew is promise 2, over long ways of stores, flushes and
// power cuts, held against plain lines of bytes.
func TestEachLineIsOldOrNew(t *testing.T) {
	r := rand.New(rand.NewSource(2))
	for range 40 {
		d := devices()[r.Intn(5)]
		for range 60 {
			i, n := r.Intn(780)-4, r.Intn(40)
			switch r.Intn(5) {
			case 0, 1:
				x := pattern(r.Intn(250), n)
				s := impl.Store(d, i, x)
				if s.Dur != d.Dur || allLieIn(d.Mem, i, n) && s.Mem[i:i+n] != x {
					t.Fatal("a store lasts at once, or is not there")
				}
				d = s
			case 2, 3:
				f := impl.Flush(d, i, n)
				if f != wantFlush(d, i, n) {
					t.Fatal("a flush")
				}
				d = f
			default:
				d = cutPower(t, r, d)
			}
		}
	}
}

func cutPower(t *testing.T, r *rand.Rand, d impl.Dev) impl.Dev {
	kept := []int{}
	for range r.Intn(150) {
		kept = append(kept, r.Intn(110)-5)
	}
	p := impl.Power(d, kept)
	if p.Mem != p.Dur {
		t.Fatal("what is read after power went is not what lasts")
	}
	for n := range 96 {
		if slices.Contains(kept, n) && !lineIs(p.Mem, d.Mem, n) || !slices.Contains(kept, n) && !lineIs(p.Mem, d.Dur, n) {
			t.Fatalf("line %d is neither as it lasted nor as it was written", n)
		}
	}
	return p
}

func TestMemoryOfWrongDevices(t *testing.T) {
	for _, d := range wrongDevices() {
		for _, i := range memPlaces() {
			for _, x := range []string{"", "a", "abcdefghi"} {
				if impl.Store(d, i, x) != d {
					t.Fatalf("a store at %d into a device that is not DevOk", i)
				}
			}
			for _, n := range []int{math.MinInt, -1, 0, 1, 8, 767, 768, 769, math.MaxInt} {
				if impl.Flush(d, i, n) != d {
					t.Fatalf("a flush of %d bytes at %d of a device that is not DevOk", n, i)
				}
			}
		}
		for _, kept := range keptLists() {
			if impl.Power(d, kept) != d {
				t.Fatal("power of a device that is not DevOk")
			}
		}
		if len(impl.Dirty(d)) != 0 {
			t.Fatal("dirty lines of a device that is not DevOk")
		}
	}
}

func TestMemoryAnswersAreNewMemory(t *testing.T) {
	x := pattern(8, 9)
	s := pattern(8, 768)
	made, _ := impl.DevOf(s)
	for _, d := range append(devices(), wrongDevices()...) {
		answers := []impl.Dev{made}
		for _, i := range []int{-1, 0, 5, 759, 760, math.MaxInt} {
			answers = append(answers, impl.Store(d, i, x), impl.Store(d, i, ""), impl.Flush(d, i, 0), impl.Flush(d, i, 9))
		}
		answers = append(answers, impl.Store(d, 0, s), impl.Flush(d, 0, 768), impl.Power(d, nil), impl.Power(d, []int{0, 95}), impl.Power(d, impl.Dirty(d)))
		for n, a := range answers {
			for _, given := range []string{d.Mem, d.Dur, x, s} {
				if sharesMemory(a.Mem, given) || sharesMemory(a.Dur, given) {
					t.Fatalf("answer %d shares memory with an argument", n)
				}
			}
		}
	}
}

func TestMemoryWritesIntoNoArgument(t *testing.T) {
	for _, d := range append(devices(), wrongDevices()...) {
		mem, dur := strings.Clone(d.Mem), strings.Clone(d.Dur)
		for _, list := range keptLists() {
			room := append(slices.Clone(list), 11, 12, 13)
			before := slices.Clone(room)
			impl.Power(d, room[:len(list)])
			if !slices.Equal(room, before) {
				t.Fatalf("Power writes into its list, or behind it: %v", room)
			}
		}
		impl.Store(d, 0, "abc")
		impl.Flush(d, 0, 768)
		one := impl.Dirty(d)
		for n := range one {
			one[n] = -7
		}
		if two := impl.Dirty(d); slices.Contains(two, -7) {
			t.Fatal("a change in one answer shows in another")
		}
		if d.Mem != mem || d.Dur != dur {
			t.Fatal("a device was written into")
		}
	}
}
