package tests

import (
	"go/ast"
	"go/parser"
	"go/token"
	"maps"
	"math/rand"
	"path/filepath"
	"reflect"
	"slices"
	"strings"
	"testing"
	"unsafe"

	"loop.example/g00278/impl"
)

// This file is promise 10 for the program as a whole: every function answers
// at any arguments, and writes into none.

func allFunctions() map[string]any {
	return map[string]any{
		"ByteAt": impl.ByteAt, "Part": impl.Part, "With": impl.With, "Zeros": impl.Zeros, "Pair": impl.Pair, "PairAt": impl.PairAt, "DecText": impl.DecText, "ReadDec": impl.ReadDec, "Hex": impl.Hex, "Words": impl.Words,
		"DevOk": impl.DevOk, "DevOf": impl.DevOf, "Store": impl.Store, "Flush": impl.Flush, "Dirty": impl.Dirty, "Power": impl.Power,
		"InodeOk": impl.InodeOk, "PutInode": impl.PutInode, "GetInode": impl.GetInode, "EntryOk": impl.EntryOk, "PutEntry": impl.PutEntry, "GetEntry": impl.GetEntry, "PutDir": impl.PutDir, "GetDir": impl.GetDir, "RecAt": impl.RecAt, "Load": impl.Load,
		"Sound": impl.Sound, "Files": impl.Files, "Find": impl.Find, "Used": impl.Used, "Format": impl.Format, "TreeText": impl.TreeText,
		"Ranges": impl.Ranges, "LoanOk": impl.LoanOk, "Within": impl.Within, "Undo": impl.Undo, "Verdict": impl.Verdict, "Gone": impl.Gone, "Come": impl.Come,
		"Truth": impl.Truth, "KeeperOk": impl.KeeperOk, "KeeperNew": impl.KeeperNew, "Lend": impl.Lend, "Touch": impl.Touch, "Last": impl.Last, "Look": impl.Look, "GiveBack": impl.GiveBack, "Tick": impl.Tick, "PowerCut": impl.PowerCut,
		"Puts": impl.Puts, "PutFile": impl.PutFile, "PutNames": impl.PutNames, "Make": impl.Make, "Remove": impl.Remove, "Names": impl.Names, "Fill": impl.Fill,
		"LoanOf": impl.LoanOf, "Act": impl.Act, "ActAll": impl.ActAll, "EventText": impl.EventText,
		"ReadEvent": impl.ReadEvent, "Desk": impl.Desk,
	}
}

// TestAllFunctionsAreAsked: a function that is in the program and not among
// allFunctions would go unasked.
func TestAllFunctionsAreAsked(t *testing.T) {
	files, err := filepath.Glob("../impl/*.go")
	if err != nil || len(files) == 0 {
		t.Fatal("the program is not here", err)
	}
	there := []string{}
	for _, file := range files {
		tree, err := parser.ParseFile(token.NewFileSet(), file, nil, 0)
		if err != nil {
			t.Fatal(err)
		}
		for _, d := range tree.Decls {
			if f, ok := d.(*ast.FuncDecl); ok && f.Recv == nil && f.Name.IsExported() {
				there = append(there, f.Name.Name)
			}
		}
	}
	slices.Sort(there)
	if asked := slices.Sorted(maps.Keys(allFunctions())); !slices.Equal(asked, there) {
		t.Errorf("asked are %v, there are %v", asked, there)
	}
}

// memory is a piece that a text or a list takes, with the room behind it.
type memory struct {
	from   uintptr
	to     uintptr
	isList bool
}

func (m memory) meets(other memory) bool {
	return m.from < other.to && other.from < m.to
}

// memories are those of a value, and of all that it holds.
func memories(v reflect.Value) []memory {
	list := []memory{}
	switch v.Kind() {
	case reflect.String:
		if v.Len() > 0 {
			from := uintptr(unsafe.Pointer(unsafe.StringData(v.String())))
			list = append(list, memory{from: from, to: from + uintptr(v.Len())})
		}
	case reflect.Slice:
		if v.Cap() > 0 {
			list = append(list, memory{from: v.Pointer(), to: v.Pointer() + uintptr(v.Cap())*v.Type().Elem().Size(), isList: true})
		}
		for n := range v.Len() {
			list = append(list, memories(v.Index(n))...)
		}
	case reflect.Struct:
		for n := range v.NumField() {
			list = append(list, memories(v.Field(n))...)
		}
	}
	return list
}

// roomyCopy is of new memory throughout, each list with filled room behind it.
func roomyCopy(v reflect.Value) reflect.Value {
	made := reflect.New(v.Type()).Elem()
	switch v.Kind() {
	case reflect.String:
		made.SetString(strings.Clone(v.String()))
	case reflect.Slice:
		made = reflect.MakeSlice(v.Type(), v.Len()+3, v.Len()+3)
		for n := range v.Len() {
			made.Index(n).Set(roomyCopy(v.Index(n)))
		}
		for n := v.Len(); n < made.Len(); n++ {
			fillSpare(made.Index(n))
		}
		made = made.Slice(0, v.Len())
	case reflect.Struct:
		for n := range v.NumField() {
			made.Field(n).Set(roomyCopy(v.Field(n)))
		}
	default:
		made.Set(v)
	}
	return made
}

func fillSpare(v reflect.Value) {
	switch v.Kind() {
	case reflect.Int:
		v.SetInt(-7)
	case reflect.String:
		v.SetString("spare")
	case reflect.Struct:
		for n := range v.NumField() {
			fillSpare(v.Field(n))
		}
	}
}

// sameRoom holds two values against each other, with the room behind lists.
func sameRoom(a reflect.Value, b reflect.Value) bool {
	switch a.Kind() {
	case reflect.Slice:
		if a.Len() != b.Len() || a.Cap() != b.Cap() {
			return false
		}
		for n := range a.Cap() {
			if !sameRoom(a.Slice(0, a.Cap()).Index(n), b.Slice(0, b.Cap()).Index(n)) {
				return false
			}
		}
		return true
	case reflect.Struct:
		for n := range a.NumField() {
			if !sameRoom(a.Field(n), b.Field(n)) {
				return false
			}
		}
		return true
	}
	return a.Interface() == b.Interface()
}

func poolOf[T any](lists ...[]T) []reflect.Value {
	pool := []reflect.Value{}
	for _, list := range lists {
		for _, x := range list {
			pool = append(pool, reflect.ValueOf(&x).Elem())
		}
	}
	return pool
}

func anyTexts() []string {
	list := append(memTexts(), goodNames()...)
	list = append(append(list, wrongNames()...), oneOfEach()...)
	list = append(append(list, questions()...), zeros(16), head, "/", "/a", "/b/c", "a b", pattern(1, 192), pattern(1, 193), zeros(5000), pattern(4, 8001), strings.Repeat("tick\n", 120), "lend 1 0 5\nloans\ntree\n")
	for n, inode := range goodInodes() {
		if n%8 == 0 {
			list = append(list, wantRecord(inode))
		}
	}
	for _, dir := range goodDirs() {
		list = append(list, wantDir(dir))
	}
	for range 4 {
		list = append(list, goodMemories()...)
	}
	return list
}

// pools are arguments by type: ordinary ones, edges, and wrong ones.
func pools(t *testing.T) map[reflect.Type][]reflect.Value {
	near := []int{}
	for n := range 30 {
		near = append(near, n, 32*(n%24), 32+16*(n%8))
	}
	keepers := lentKeepers(t)
	for _, k := range wrongKeepers(t) {
		if len(k.Loans) < 10 {
			keepers = append(keepers, k)
		}
	}
	loans, mems := anyLoans(), []string{}
	for _, k := range keepers {
		loans, mems = append(append(loans, k.Loans...), k.Loans...), append(mems, k.Dev.Mem)
	}
	puts := [][]impl.Put{nil, {}, {{At: 0, Bytes: "x"}}, {{At: 160, Bytes: pattern(1, 32)}, {At: -1, Bytes: "x"}, {At: 32, Bytes: ""}}, {{At: 767, Bytes: "xy"}, {At: 766, Bytes: "xy"}}}
	events := [][]impl.Event{nil, {}, eachKind(), anyEvents()[:40], slices.Repeat(eachKind(), 30), make([]impl.Event, 301)}
	entries := []impl.Entry{{}, {Ino: 1, Name: "a"}, {Ino: 7, Name: "abcdefghijklmn"}, {Ino: 8, Name: "a"}, {Ino: 3, Name: ".."}, {Ino: -1, Name: pattern(1, 20)}}
	list := map[reflect.Type][]reflect.Value{}
	for _, pool := range [][]reflect.Value{
		poolOf(anyTexts(), mems), poolOf(near, near, places(), farNumbers()), poolOf(keptLists()), poolOf(goodDirs(), wrongDirs()), poolOf(puts), poolOf(events),
		poolOf(devices(), wrongDevices()), poolOf(goodInodes(), wrongInodes()), poolOf(entries), poolOf(loans), poolOf(append(keepers, impl.Keeper{})), poolOf(anyEvents()),
	} {
		list[pool[0].Type()] = pool
	}
	return list
}

// asked is a question with its answer.
type asked struct {
	name   string
	args   []reflect.Value
	answer []any
}

func answersOf(list []reflect.Value) []any {
	plain := []any{}
	for _, v := range list {
		plain = append(plain, v.Interface())
	}
	return plain
}

// ask has a function answer twice, and asks what the conventions say of every
// answer. A panic fails the test by itself.
func ask(t *testing.T, name string, args []reflect.Value) asked {
	t.Helper()
	f := reflect.ValueOf(allFunctions()[name])
	given, before := []reflect.Value{}, []reflect.Value{}
	for _, arg := range args {
		given, before = append(given, roomyCopy(arg)), append(before, roomyCopy(arg))
	}
	answer, again := f.Call(given), f.Call(given)
	if !reflect.DeepEqual(answersOf(answer), answersOf(again)) {
		t.Fatalf("%s has two answers at %v", name, args)
	}
	theirs, ours := []memory{}, []memory{}
	for n := range given {
		if !sameRoom(given[n], before[n]) {
			t.Fatalf("%s writes into its argument %d: %v, was %v", name, n, given[n], before[n])
		}
		theirs = append(theirs, memories(given[n])...)
	}
	for _, v := range answer {
		ours = append(ours, memories(v)...)
	}
	for n, m := range ours {
		if slices.ContainsFunc(theirs, m.meets) {
			t.Fatalf("%s shares memory with an argument at %v", name, args)
		}
		if slices.ContainsFunc(ours[:n], func(other memory) bool { return m.isList && other.isList && m.meets(other) }) {
			t.Fatalf("two lists of %s share memory at %v", name, args)
		}
	}
	return asked{name: name, args: given, answer: answersOf(answer)}
}

// TestAllFunctionsAtAnyArguments asks once more at the end, the last question
// first: nothing is kept from one call to another.
func TestAllFunctionsAtAnyArguments(t *testing.T) {
	t.Parallel()
	r := rand.New(rand.NewSource(101))
	pool := pools(t)
	all := []asked{}
	for _, name := range slices.Sorted(maps.Keys(allFunctions())) {
		kind := reflect.TypeOf(allFunctions()[name])
		for range 300 {
			args := []reflect.Value{}
			for n := range kind.NumIn() {
				list := pool[kind.In(n)]
				if len(list) == 0 {
					t.Fatalf("there are no arguments of the type %v", kind.In(n))
				}
				args = append(args, list[r.Intn(len(list))])
			}
			all = append(all, ask(t, name, args))
		}
	}
	for n := len(all) - 1; n >= 0; n -= 3 {
		q := all[n]
		if got := answersOf(reflect.ValueOf(allFunctions()[q.name]).Call(q.args)); !reflect.DeepEqual(got, q.answer) {
			t.Fatalf("%s answers %v later on, and %v before", q.name, got, q.answer)
		}
	}
}
