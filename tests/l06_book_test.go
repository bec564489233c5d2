package tests

import (
	"math"
	"slices"
	"strings"
	"testing"

	"loop.example/g00372/impl"
)

var bookNames = []string{"a", "z", "m", "ab", "zz", "abc", "xyz", "abcd", "zzzz"}

// wrongNames are of no letter, of more than four, and with a byte that is no letter at each place, the ones right beside a and z among them.
func wrongNames() []string {
	names := []string{"", "abcde", "zzzzz", strings.Repeat("a", 256), strings.Repeat("ab", 130), "é", "aé", "abcd\x00"}
	for length := 1; length <= 4; length++ {
		for at := range length {
			for _, b := range []byte{'a' - 1, 'z' + 1, 'A', 'Z', '0', ' ', '\n', 0, 255} {
				name := []byte("kmpq")[:length]
				name[at] = b
				names = append(names, string(name))
			}
		}
	}
	return names
}

func handName(s string) bool {
	return s != "" && len(s) < 5 && strings.Trim(s, "abcdefghijklmnopqrstuvwxyz") == ""
}

// handBook lays the map out place by place: cut off at Size, a right one is what it was.
func handBook(b impl.Book) bool {
	p, right := handPlaced(b.Map)
	return right && p.below(b.Size) == p && handName(b.Name) && b.Size > 0 && b.Size < 17 && b.Epoch > -1 && b.Epoch < 1001
}

// sameBook is not Alike: it asks for every field.
func sameBook(a impl.Book, b impl.Book) bool {
	return a.Name == b.Name && a.Size == b.Size && slices.Equal(a.Map, b.Map) && a.Fixed == b.Fixed && a.Epoch == b.Epoch
}

func sameBooks(a []impl.Book, b []impl.Book) bool {
	return slices.EqualFunc(a, b, sameBook)
}

func cloneBooks(list []impl.Book) []impl.Book {
	clone := slices.Clone(list)
	for i := range clone {
		clone[i].Map = slices.Clone(clone[i].Map)
	}
	return clone
}

func bookOf(name string, size int64, m ...impl.Run) impl.Book {
	return impl.Book{Name: name, Size: size, Map: m}
}

func withMap(b impl.Book, m []impl.Run) impl.Book {
	b.Map = m
	return b
}

func checkBookOk(t *testing.T, b impl.Book, right bool) {
	t.Helper()
	for _, given := range layRuns(b.Map) {
		kept := slices.Clone(given.memory)
		if got := impl.BookOk(withMap(b, given.list)); got != right {
			t.Fatalf("BookOk(%v) is %v", b, got)
		}
		if !slices.Equal(given.memory, kept) {
			t.Fatalf("BookOk(%v): the memory handed in became %v; it was %v", b, given.memory, kept)
		}
	}
}

// checkAlike asks both ways round, with each map laid out in several ways.
func checkAlike(t *testing.T, a impl.Book, b impl.Book, want bool) {
	t.Helper()
	for _, one := range layRuns(a.Map) {
		for _, other := range layRuns(b.Map) {
			oneKept, otherKept := slices.Clone(one.memory), slices.Clone(other.memory)
			if impl.Alike(withMap(a, one.list), withMap(b, other.list)) != want {
				t.Fatalf("Alike(%v, %v) is %v", a, b, !want)
			}
			if impl.Alike(withMap(b, other.list), withMap(a, one.list)) != want {
				t.Fatalf("Alike(%v, %v) is %v", b, a, !want)
			}
			if !slices.Equal(one.memory, oneKept) || !slices.Equal(other.memory, otherKept) {
				t.Fatalf("Alike(%v, %v) has changed the memory handed in", a, b)
			}
		}
	}
}

// checkNewBook asks twice: neither answer may share memory with the other or with the name.
func checkNewBook(t *testing.T, name string, size int64, want impl.Book, is bool) {
	t.Helper()
	text := "a" + name + "z"
	given := text[1 : 1+len(name)]
	first, told := impl.NewBook(given, size)
	if told != is || !sameBook(first, want) {
		t.Fatalf("NewBook(%q, %d) is %v, %v; wanted %v, %v", name, size, first, told, want, is)
	}
	spoilt := run(-801, -802, -803)
	for i := range first.Map[:cap(first.Map)] {
		first.Map[:cap(first.Map)][i] = spoilt
	}
	second, told := impl.NewBook(given, size)
	if told != is || !sameBook(second, want) {
		t.Fatalf("NewBook(%q, %d), asked again, is %v, %v; wanted %v, %v", name, size, second, told, want, is)
	}
	if slices.Contains(second.Map[:cap(second.Map)], spoilt) {
		t.Fatalf("NewBook(%q, %d): two answers share memory", name, size)
	}
	if sharesMemory(first.Name, text) || sharesMemory(second.Name, text) || sharesMemory(first.Name, second.Name) {
		t.Fatalf("NewBook(%q, %d): its Name shares memory", name, size)
	}
}

// checkFind lays the list in memory in several ways, with the name in the room ahead of it and behind it.
func checkFind(t *testing.T, list []impl.Book, name string, want int64) {
	t.Helper()
	same := bookOf(name, 1)
	exact := append(make([]impl.Book, 0, len(list)), list...)
	roomy := append(cloneBooks(list), same, same)
	middle := slices.Concat([]impl.Book{same}, list, []impl.Book{same, {}})
	laid := []struct{ list, memory []impl.Book }{
		{list, list[:cap(list)]},
		{exact, exact},
		{roomy[:len(list)], roomy},
		{middle[1 : 1+len(list)], middle},
	}
	for _, given := range laid {
		kept := cloneBooks(given.memory)
		if got := impl.FindBook(given.list, name); got != want {
			t.Fatalf("FindBook(%v, %q) is %d; wanted %d", list, name, got, want)
		}
		if !sameBooks(given.memory, kept) {
			t.Fatalf("FindBook(%v, %q): the memory handed in became %v; it was %v", list, name, given.memory, kept)
		}
	}
}

// handFind goes from the end to the beginning: what it sees last is the first.
func handFind(list []impl.Book, name string) int64 {
	found := int64(-1)
	for i := len(list) - 1; i >= 0; i-- {
		if list[i].Name == name {
			found = int64(i)
		}
	}
	return found
}

// someBooks are right ones: of every Size, with each of someMaps that goes into it, with one name after the other.
func someBooks() []impl.Book {
	list := []impl.Book{}
	for size := int64(1); size <= 16; size++ {
		for i, m := range someMaps() {
			b := bookOf(bookNames[(i+int(size))%len(bookNames)], size, m...)
			b.Fixed, b.Epoch = i%2 == 1, []int64{0, 1, 999, 1000}[i%4]
			if p, _ := handPlaced(m); p.below(size) == p {
				list = append(list, b)
			}
		}
	}
	return list
}

// wrongBooks are wrong in one field each, and the last ones in all.
func wrongBooks() []impl.Book {
	right := impl.Book{Name: "ab", Size: 5, Map: []impl.Run{run(0, 2, 3), run(4, 1, 0)}, Fixed: true, Epoch: 7}
	list := []impl.Book{}
	put := func(change func(*impl.Book)) {
		b := right
		change(&b)
		list = append(list, b)
	}
	for _, name := range wrongNames() {
		put(func(b *impl.Book) { b.Name = name })
	}
	for _, size := range []int64{0, 1, 4, 17, math.MinInt64, math.MinInt64 + 5, -5, -1, 256 + 5, 1<<32 + 5, math.MaxInt64 - 1, math.MaxInt64} {
		put(func(b *impl.Book) { b.Size = size })
	}
	for _, epoch := range []int64{-1, 1001, math.MinInt64, math.MinInt64 + 7, -7, 1 << 16, 1<<32 + 7, math.MaxInt64 - 1, math.MaxInt64} {
		put(func(b *impl.Book) { b.Epoch = epoch })
	}
	for _, m := range append(wrongMaps(), []impl.Run{run(5, 1, 0)}, []impl.Run{run(4, 2, 0)}, []impl.Run{run(0, 6, 0)}, []impl.Run{run(0, 2, 3), run(3, 3, 0)}, []impl.Run{run(15, 1, 0)}) {
		put(func(b *impl.Book) { b.Map = m })
	}
	return append(list, impl.Book{}, impl.Book{Fixed: true}, impl.Book{Name: "", Size: 17, Map: []impl.Run{{}}, Epoch: -1})
}

func TestBooksWorkedByHand(t *testing.T) {
	b, _ := impl.NewBook("ab", 3)
	checkNewBook(t, "ab", 3, impl.Book{Name: "ab", Size: 3}, true)
	checkBookOk(t, b, true)
	checkBookOk(t, bookOf("ab", 3, run(0, 1, 9), run(2, 1, 11)), true)
	checkBookOk(t, bookOf("ab", 3, run(0, 3, 21)), true)
	checkBookOk(t, bookOf("ab", 3, run(0, 4, 20)), false)
	checkBookOk(t, bookOf("ab", 3, run(3, 1, 0)), false)
	checkAlike(t, b, impl.Book{Name: "zz", Size: 3, Fixed: true, Epoch: 1000}, true)
	checkAlike(t, b, bookOf("ab", 4), false)
	checkAlike(t, b, bookOf("ab", 3, run(0, 1, 0)), false)
	row := []impl.Book{bookOf("b", 1), bookOf("ab", 2), bookOf("abc", 3), bookOf("ab", 4)}
	checkFind(t, row, "ab", 1)
	checkFind(t, row, "abc", 2)
	checkFind(t, row, "a", -1)
}

func TestNewBooks(t *testing.T) {
	for size := int64(1); size <= 16; size++ {
		for _, name := range bookNames {
			checkNewBook(t, name, size, impl.Book{Name: name, Size: size}, true)
			b, _ := impl.NewBook(name, size)
			checkBookOk(t, b, true)
		}
	}
}

func TestNewBooksOutOfRange(t *testing.T) {
	sizes := append([]int64{0, 17}, farNumbers...)
	for _, size := range sizes {
		for _, name := range slices.Concat(bookNames, wrongNames()) {
			checkNewBook(t, name, size, impl.Book{}, false)
		}
	}
	for _, name := range wrongNames() {
		for size := int64(-1); size <= 18; size++ {
			checkNewBook(t, name, size, impl.Book{}, false)
		}
	}
}

func TestSomeBooksAreRight(t *testing.T) {
	for _, b := range someBooks() {
		checkBookOk(t, b, true)
		checkAlike(t, b, b, true)
	}
}

func TestMapsAgainstEachSize(t *testing.T) {
	for _, m := range someMaps() {
		p, _ := handPlaced(m)
		for _, size := range append(nearPlaces(), farNumbers...) {
			checkBookOk(t, bookOf("ab", size, m...), size >= 1 && size <= 16 && p.below(size) == p)
		}
	}
	for size := int64(1); size <= 16; size++ {
		for count := int64(1); count <= size; count++ {
			for _, page := range []int64{0, 24 - count} {
				checkBookOk(t, bookOf("ab", size, run(size-count, count, page)), true)
				checkBookOk(t, bookOf("ab", size-1, run(size-count, count, page)), false)
			}
		}
	}
}

func TestEpochsOfBooks(t *testing.T) {
	for _, epoch := range append([]int64{-1, 0, 1, 500, 999, 1000, 1001, 1 << 16}, farNumbers...) {
		for _, b := range []impl.Book{bookOf("ab", 3), bookOf("z", 16, run(0, 16, 8)), {Name: "abcd", Size: 1, Fixed: true}} {
			b.Epoch = epoch
			checkBookOk(t, b, epoch >= 0 && epoch <= 1000)
		}
	}
}

func TestNamesOfBooks(t *testing.T) {
	for _, name := range bookNames {
		checkBookOk(t, bookOf(name, 3, run(1, 2, 5)), true)
	}
	for _, name := range wrongNames() {
		checkBookOk(t, bookOf(name, 3, run(1, 2, 5)), false)
	}
}

func TestWrongBooks(t *testing.T) {
	others := []impl.Book{bookOf("ab", 5, run(0, 2, 3), run(4, 1, 0)), bookOf("ab", 5), {}}
	for _, b := range wrongBooks() {
		checkBookOk(t, b, false)
		checkAlike(t, b, b, false)
		for _, other := range others {
			checkAlike(t, b, other, false)
		}
		fixed := b
		fixed.Fixed = !b.Fixed
		checkAlike(t, b, fixed, false)
	}
}

func TestAlikeButForNameFixedAndEpoch(t *testing.T) {
	for i, b := range someBooks() {
		for _, name := range bookNames {
			other := b
			other.Name = name
			checkAlike(t, b, other, true)
		}
		for _, epoch := range []int64{0, 1, 500, 1000} {
			other := b
			other.Epoch = epoch
			checkAlike(t, b, other, true)
		}
		other := b
		other.Fixed = !b.Fixed
		checkAlike(t, b, other, true)
		other.Name, other.Epoch = bookNames[i%len(bookNames)], int64(i%1001)
		checkAlike(t, b, other, true)
	}
}

func TestBooksOfOtherSizesAreNotAlike(t *testing.T) {
	for _, b := range someBooks() {
		for size := int64(-1); size <= 18; size++ {
			other := b
			other.Size = size
			checkAlike(t, b, other, size == b.Size)
		}
	}
}

// otherRuns are this list with one field of one Run changed, with one Run less, and with one more.
func otherRuns(m []impl.Run) [][]impl.Run {
	lists := [][]impl.Run{append(slices.Clone(m), run(15, 1, 23)), slices.Concat([]impl.Run{run(0, 1, 0)}, m)}
	for i := range m {
		for _, by := range []int64{-1, 1} {
			from, count, page := slices.Clone(m), slices.Clone(m), slices.Clone(m)
			from[i].From += by
			count[i].Count += by
			page[i].Page += by
			lists = append(lists, from, count, page)
		}
		lists = append(lists, slices.Delete(slices.Clone(m), i, i+1))
	}
	return lists
}

func TestBooksWithOtherMapsAreNotAlike(t *testing.T) {
	rights := 0
	for _, b := range someBooks() {
		for _, m := range otherRuns(b.Map) {
			other := withMap(b, m)
			checkAlike(t, b, other, false)
			other.Name, other.Epoch, other.Fixed = "q", 3, !b.Fixed
			checkAlike(t, b, other, false)
			if handBook(other) {
				rights++
			}
		}
	}
	if rights < 100 {
		t.Fatalf("only %d of the others were right", rights)
	}
}

// Two books over one memory: the one's map is the beginning of the other's.
func TestBooksThatShareTheirMemory(t *testing.T) {
	m := []impl.Run{run(0, 2, 3), run(4, 1, 0), run(6, 2, 9)}
	kept := slices.Clone(m)
	for i := range len(m) + 1 {
		for j := range len(m) + 1 {
			if got := impl.Alike(bookOf("a", 9, m[:i]...), bookOf("b", 9, m[:j]...)); got != (i == j) {
				t.Fatalf("of %d and of %d Runs: %v", i, j, got)
			}
		}
	}
	if !slices.Equal(m, kept) {
		t.Fatalf("%v was %v", m, kept)
	}
}

func TestFindBook(t *testing.T) {
	lists := [][]impl.Book{nil, {}, {bookOf("ab", 3)}, {bookOf("ab", 3), bookOf("ab", 3)}, someBooks(), wrongBooks(), slices.Concat(wrongBooks(), someBooks()), slices.Concat(someBooks(), wrongBooks())}
	six := []impl.Book{}
	for i, name := range []string{"f", "ab", "zz", "abcd", "ab", "a"} {
		six = append(six, bookOf(name, int64(i+1), run(0, 1, int64(i))))
	}
	for i := range six {
		lists = append(lists, six[:i+1], six[i:])
	}
	names := slices.Concat(bookNames, wrongNames(), []string{"f", "abc", "ba", "abcdz", "zza", "ABCD", "ab ", " ab", "\x00ab"})
	for _, list := range lists {
		for _, name := range names {
			checkFind(t, list, name, handFind(list, name))
		}
	}
}

func TestFirstAndLastOfTheList(t *testing.T) {
	list := []impl.Book{}
	for i := range 40 {
		list = append(list, bookOf(string([]byte{'a' + byte(i/7), 'a' + byte(i%7)}), 2))
	}
	for i, b := range list {
		checkFind(t, list, b.Name, int64(i))
		checkFind(t, list[:i], b.Name, -1)
		checkFind(t, list[i+1:], b.Name, -1)
		checkFind(t, slices.Concat(list, list), b.Name, int64(i))
	}
}

// FindBook asks for the Name alone: a text that is no name is found where a book has it.
func TestWrongBooksAreFound(t *testing.T) {
	for _, name := range wrongNames() {
		checkFind(t, nil, name, -1)
		checkFind(t, []impl.Book{bookOf("ab", 3), bookOf("a", 3)}, name, -1)
		checkFind(t, []impl.Book{bookOf("ab", 3), bookOf(name, 3), bookOf(name, 3)}, name, 1)
	}
	checkFind(t, []impl.Book{{}}, "", 0)
	checkFind(t, []impl.Book{bookOf("ab", 3), {}}, "", 1)
	checkFind(t, []impl.Book{{Name: "ab", Size: -1, Epoch: -1}, bookOf("ab", 3)}, "ab", 0)
}

// picked gives numbers without any order, but the same in each run.
func picked(seed uint32) func(below int64) int64 {
	return func(below int64) int64 {
		seed = seed*1664525 + 1013904223
		return int64(seed>>16) % below
	}
}

func pickOf[T any](next func(below int64) int64, list []T) T {
	return list[next(int64(len(list)))]
}

// A book stays right, whatever is mapped below its Size and wherever it is cut off; without any order, but the same in each run.
func TestBooksStayRight(t *testing.T) {
	next := picked(6)
	for size := int64(1); size <= 16; size++ {
		b, _ := impl.NewBook("ab", size)
		p := nonePlaced()
		for range 200 {
			place, page := next(b.Size), next(25)-1
			b.Map, _ = impl.Mapped(b.Map, place, page)
			p = p.with(place, page)
			if next(20) == 0 {
				b.Size = 1 + next(16)
				b.Map = impl.Below(b.Map, b.Size)
				p = p.below(b.Size)
			}
			b.Fixed, b.Epoch = next(2) == 0, next(1001)
			checkBookOk(t, b, true)
			checkAlike(t, b, bookOf("cd", b.Size, p.written()...), true)
			past, _ := impl.Mapped(b.Map, b.Size, next(24))
			checkBookOk(t, withMap(b, past), b.Size == 16)
		}
	}
}

// Books without any order, but the same in each run, mostly near to right ones.
func TestBooksAnswerAtEveryArgument(t *testing.T) {
	next := picked(60)
	maps, wrong := someMaps(), wrongMaps()
	numbers := append(slices.Concat(nearPlaces(), farNumbers), extremes...)
	texts := wrongNames()
	book := func() impl.Book {
		b := impl.Book{Name: pickOf(next, bookNames), Size: 1 + next(16), Fixed: next(2) == 0, Epoch: next(1001)}
		m, _ := handPlaced(pickOf(next, maps))
		b.Map = m.below(b.Size).written()
		switch next(16) {
		case 0:
			b.Name = pickOf(next, texts)
		case 1:
			b.Size = pickOf(next, numbers)
		case 2:
			b.Epoch = pickOf(next, numbers)
		case 3:
			b.Map = pickOf(next, wrong)
		}
		return b
	}
	rights, alikes := 0, 0
	for range 3000 {
		list := []impl.Book{}
		for range 1 + next(7) {
			list = append(list, book())
		}
		a, b := list[0], list[len(list)-1]
		alike := handBook(a) && handBook(b) && a.Size == b.Size && slices.Equal(a.Map, b.Map)
		rights, alikes = rights+int(asNumber(handBook(a))), alikes+int(asNumber(alike))
		checkBookOk(t, a, handBook(a))
		checkAlike(t, a, b, alike)
		for _, name := range []string{book().Name, b.Name, pickOf(next, texts)} {
			checkFind(t, list, name, handFind(list, name))
			size := pickOf(next, numbers)
			if handName(name) && size >= 1 && size <= 16 {
				checkNewBook(t, name, size, impl.Book{Name: name, Size: size}, true)
			} else {
				checkNewBook(t, name, size, impl.Book{}, false)
			}
		}
	}
	if rights < 1000 || rights > 2900 || alikes < 50 || alikes > 2000 {
		t.Fatalf("%d books of 3000 were right, %d alike", rights, alikes)
	}
}
