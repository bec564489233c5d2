package tests

import (
	"maps"
	"math"
	"slices"
	"strings"
	"testing"
	"unsafe"

	"loop.example/g00372/impl"
)

// leaf is a Book with its places laid out one by one.
type leaf struct {
	size  int64
	pages placed
	fixed bool
	epoch int64
}

// handShelf keeps no Counts: they are counted anew whenever they are asked for.
type handShelf struct {
	pages  int64
	values [24]int64
	leaves map[string]leaf
}

func newHandShelf(pages int64) handShelf {
	return handShelf{pages: pages, leaves: map[string]leaf{}}
}

func (h handShelf) names() []string {
	return slices.Sorted(maps.Keys(h.leaves))
}

func (h handShelf) with(name string, l leaf) handShelf {
	h.leaves = maps.Clone(h.leaves)
	h.leaves[name] = l
	return h
}

func (h handShelf) without(name string) handShelf {
	h.leaves = maps.Clone(h.leaves)
	delete(h.leaves, name)
	return h
}

func (h handShelf) count(page int64) int64 {
	count := int64(0)
	for _, l := range h.leaves {
		for _, had := range l.pages {
			if had >= 0 && had == page {
				count++
			}
		}
	}
	return count
}

func (h handShelf) used() int64 {
	used := 0
	for _, l := range h.leaves {
		used += len(l.pages.pages())
	}
	return int64(used)
}

func (h handShelf) firstFree() int64 {
	for page := range h.pages {
		if h.count(page) == 0 {
			return page
		}
	}
	return -1
}

// full takes all pages that are free for the one Book "full".
func (h handShelf) full() handShelf {
	l := leaf{size: 16, pages: nonePlaced()}
	for place := range l.pages {
		page := h.with("full", l).firstFree()
		if page < 0 {
			break
		}
		l.pages[place] = page
		h.values[page] = 600 + page
	}
	return h.with("full", l)
}

func (h handShelf) shelf() impl.Shelf {
	s := impl.Shelf{}
	for page := range h.pages {
		count := h.count(page)
		s.Pool.Counts = append(s.Pool.Counts, count)
		s.Pool.Pages = append(s.Pool.Pages, min(count, 1)*h.values[page])
	}
	for _, name := range h.names() {
		l := h.leaves[name]
		s.Books = append(s.Books, impl.Book{Name: name, Size: l.size, Map: l.pages.written(), Fixed: l.fixed, Epoch: l.epoch})
	}
	return s
}

// codes are all that apply, by themselves and in order.
func (h handShelf) codes(o impl.Op) []int64 {
	l, there := h.leaves[o.Name]
	_, other := h.leaves[o.Other]
	is := func(kinds ...int64) bool { return slices.Contains(kinds, o.Kind) }
	applies := []bool{
		1: !handOp(o),
		2: !is(1) && !there,
		3: is(1) && there || is(4, 5) && other,
		4: is(2, 3, 6, 7) && there && o.Epoch < l.epoch,
		5: is(2, 3, 7) && l.fixed,
		6: is(2, 3, 9) && there && o.At >= l.size,
		7: is(1, 4, 5) && len(h.leaves) == 6,
		8: is(8) && l.epoch == 1000,
		9: is(2) && there && h.count(l.pages.pageOf(o.At)) != 1 && h.firstFree() < 0,
	}
	codes := []int64{}
	for code, is := range applies {
		if is {
			codes = append(codes, int64(code))
		}
	}
	return codes
}

func (h handShelf) did(o impl.Op) (handShelf, impl.Reply) {
	if codes := h.codes(o); len(codes) > 0 {
		return h, impl.Reply{Code: codes[0]}
	}
	l, r := h.leaves[o.Name], impl.Reply{}
	switch o.Kind {
	case impl.OpMake:
		l = leaf{size: o.Value, pages: nonePlaced()}
	case impl.OpWrite:
		page := l.pages[o.At]
		if h.count(page) != 1 {
			page = h.firstFree()
		}
		h.values[page] = o.Value
		l.pages[o.At] = page
	case impl.OpTrim:
		l.pages[o.At] = -1
	case impl.OpSnap, impl.OpClone:
		return h.with(o.Other, leaf{size: l.size, pages: l.pages, fixed: o.Kind == impl.OpSnap}), r
	case impl.OpDelete:
		return h.without(o.Name), r
	case impl.OpResize:
		l.size, l.pages = o.Value, l.pages.below(o.Value)
	case impl.OpAttach:
		l.epoch++
		r.Value = l.epoch
	case impl.OpRead:
		if page := l.pages[o.At]; page >= 0 {
			r.Value = h.values[page]
		}
	}
	return h.with(o.Name, l), r
}

// handShelfRight counts the places of each page, and takes one away for each Count.
func handShelfRight(s impl.Shelf) bool {
	if !handRight(s.Pool) || len(s.Books) > 6 {
		return false
	}
	left := make([]int64, 24)
	copy(left, s.Pool.Counts)
	names := []string{}
	for _, b := range s.Books {
		if !handBook(b) {
			return false
		}
		p, _ := handPlaced(b.Map)
		for _, page := range p.pages() {
			left[page]--
		}
		names = append(names, b.Name)
	}
	return slices.Equal(slices.Compact(slices.Sorted(slices.Values(names))), names) && slices.Equal(left, make([]int64, 24))
}

func sameShelf(a impl.Shelf, b impl.Shelf) bool {
	return samePool(a.Pool, b.Pool) && sameBooks(a.Books, b.Books)
}

func cloneShelf(s impl.Shelf) impl.Shelf {
	return impl.Shelf{Pool: clonePool(s.Pool), Books: cloneBooks(s.Books)}
}

// laidShelf is a Shelf and all memory that it lies in.
type laidShelf struct {
	shelf   impl.Shelf
	numbers [][]int64
	runs    [][]impl.Run
	books   []impl.Book
}

func (l laidShelf) kept() laidShelf {
	kept := laidShelf{numbers: cloneLists(l.numbers), books: cloneBooks(l.books)}
	for _, runs := range l.runs {
		kept.runs = append(kept.runs, slices.Clone(runs))
	}
	return kept
}

func (l laidShelf) is(kept laidShelf) bool {
	return slices.EqualFunc(l.numbers, kept.numbers, slices.Equal) && slices.EqualFunc(l.runs, kept.runs, slices.Equal) && sameBooks(l.books, kept.books)
}

// layShelf lays one Shelf in memory in several ways: as it is, with room behind each list, and with all lists of a kind in the room behind one another.
func layShelf(s impl.Shelf) []laidShelf {
	asItIs := laidShelf{shelf: s, numbers: [][]int64{s.Pool.Counts[:cap(s.Pool.Counts)], s.Pool.Pages[:cap(s.Pool.Pages)]}, books: s.Books[:cap(s.Books)]}
	pools := laidOut(s.Pool)
	withRoom, inOne := laidShelf{numbers: pools[1].memory}, laidShelf{numbers: pools[2].memory}
	withRoom.shelf.Pool, inOne.shelf.Pool = pools[1].pool, pools[2].pool
	withRoom.books, inOne.books = append(cloneBooks(s.Books), bookOf("zzzz", 3), impl.Book{}), append([]impl.Book{bookOf("a", 3)}, append(cloneBooks(s.Books), bookOf("zzzz", 3))...)
	withRoom.shelf.Books, inOne.shelf.Books = withRoom.books[:len(s.Books)], inOne.books[1:1+len(s.Books)]
	runs := []impl.Run{}
	for _, b := range s.Books {
		runs = append(runs, b.Map...)
	}
	runs = append(runs, run(15, 1, 23))
	inOne.runs = [][]impl.Run{runs}
	from := 0
	for i, b := range s.Books {
		laid := layRuns(b.Map)[2]
		asItIs.runs = append(asItIs.runs, b.Map[:cap(b.Map)])
		withRoom.runs = append(withRoom.runs, laid.memory)
		withRoom.shelf.Books[i].Map = laid.list
		inOne.shelf.Books[i].Map = runs[from : from+len(b.Map)]
		from += len(b.Map)
	}
	return []laidShelf{asItIs, withRoom, inOne}
}

// span is a piece of memory.
type span struct{ from, to uintptr }

func spanOf[T any](list []T) span {
	from := uintptr(unsafe.Pointer(unsafe.SliceData(list)))
	return span{from, from + uintptr(cap(list))*unsafe.Sizeof(*new(T))}
}

func spanOfText(s string) span {
	from := uintptr(unsafe.Pointer(unsafe.StringData(s)))
	return span{from, from + uintptr(len(s))}
}

func (s span) meets(other span) bool {
	return s.from < other.to && other.from < s.to && s.from < s.to && other.from < other.to
}

func spansOf(s impl.Shelf) []span {
	spans := []span{spanOf(s.Pool.Counts), spanOf(s.Pool.Pages), spanOf(s.Books)}
	for _, b := range s.Books {
		spans = append(spans, spanOf(b.Map), spanOfText(b.Name))
	}
	return spans
}

func checkShelfApart(t *testing.T, what string, answer impl.Shelf, given []span) {
	t.Helper()
	spans := spansOf(answer)
	for i, one := range spans {
		if slices.ContainsFunc(given, one.meets) {
			t.Fatalf("%s: what is answered shares memory with what was handed in", what)
		}
		if slices.ContainsFunc(spans[:i], one.meets) {
			t.Fatalf("%s: two lists of one answer share memory", what)
		}
	}
}

// checkDid asks with one Shelf laid out in several ways: the answer must be as wanted each time, new memory, and what was handed in must stay.
func checkDid(t *testing.T, s impl.Shelf, o impl.Op, want impl.Shelf, reply impl.Reply) {
	t.Helper()
	want = cloneShelf(want)
	for _, given := range layShelf(s) {
		kept := given.kept()
		got, told := impl.Did(given.shelf, o)
		if !given.is(kept) {
			t.Fatalf("Did(%v, %v): the memory handed in became %v; it was %v", s, o, given, kept)
		}
		if !sameShelf(got, want) || told != reply {
			t.Fatalf("Did(%v, %v) is %v, %v; wanted %v, %v", s, o, got, told, want, reply)
		}
		checkShelfApart(t, "Did", got, append(spansOf(given.shelf), spanOfText(o.Name), spanOfText(o.Other)))
	}
}

// step holds one Op against what was worked out by hand, and goes on from what Did answered.
func step(t *testing.T, s impl.Shelf, h handShelf, o impl.Op) (impl.Shelf, handShelf, impl.Reply) {
	t.Helper()
	wanted, reply := h.did(o)
	checkDid(t, s, o, wanted.shelf(), reply)
	next, _ := impl.Did(s, o)
	return next, wanted, reply
}

func checkShelfLooks(t *testing.T, s impl.Shelf, right bool, used int64) {
	t.Helper()
	for _, given := range layShelf(s) {
		kept := given.kept()
		if impl.ShelfOk(given.shelf) != right {
			t.Fatalf("ShelfOk(%v) is %v", s, !right)
		}
		if got := impl.PlacesUsed(given.shelf); got != used {
			t.Fatalf("PlacesUsed(%v) is %d; wanted %d", s, got, used)
		}
		if !given.is(kept) {
			t.Fatalf("the memory handed in became %v; it was %v", given, kept)
		}
	}
}

func checkReads(t *testing.T, s impl.Shelf, name string, at int64, want int64) {
	t.Helper()
	for _, given := range layShelf(s) {
		kept := given.kept()
		if got := impl.Reads(given.shelf, name, at); got != want {
			t.Fatalf("Reads(%v, %q, %d) is %d; wanted %d", s, name, at, got, want)
		}
		if !given.is(kept) {
			t.Fatalf("Reads(%v, %q, %d): the memory handed in became %v; it was %v", s, name, at, given, kept)
		}
	}
}

// checkCounts counts the places of each page by the Shelf's own Maps.
func checkCounts(t *testing.T, s impl.Shelf) {
	t.Helper()
	counts := make([]int64, len(s.Pool.Counts))
	used := int64(0)
	for _, b := range s.Books {
		p, _ := handPlaced(b.Map)
		for _, page := range p.pages() {
			counts[page]++
			used++
		}
	}
	if !slices.Equal(counts, s.Pool.Counts) || !handShelfRight(s) {
		t.Fatalf("%v: the places have %v", s, counts)
	}
	checkShelfLooks(t, s, true, used)
}

// lastWritten tells of each Book what was written last at each place, without any page.
type lastWritten map[string][]int64

func (w lastWritten) note(o impl.Op) {
	switch o.Kind {
	case impl.OpMake:
		w[o.Name] = make([]int64, o.Value)
	case impl.OpWrite:
		w[o.Name][o.At] = o.Value
	case impl.OpTrim:
		w[o.Name][o.At] = 0
	case impl.OpSnap, impl.OpClone:
		w[o.Other] = slices.Clone(w[o.Name])
	case impl.OpDelete:
		delete(w, o.Name)
	case impl.OpResize:
		values := make([]int64, o.Value)
		copy(values, w[o.Name])
		w[o.Name] = values
	}
}

func checkLastWritten(t *testing.T, s impl.Shelf, w lastWritten) {
	t.Helper()
	for name, values := range w {
		for place := range 18 {
			want := int64(-1)
			if place < len(values) {
				want = values[place]
			}
			if got := impl.Reads(s, name, int64(place)); got != want {
				t.Fatalf("Reads(%v, %q, %d) is %d; wanted %d", s, name, place, got, want)
			}
		}
	}
}

var shelfNames = []string{"a", "ab", "abc", "b", "m", "mz", "z", "zzzz"}

// likelyOp is a right one, mostly of a Book that is there and mostly such as is not refused.
func likelyOp(next func(int64) int64, h handShelf) impl.Op {
	o := impl.Op{Kind: pickOf(next, []int64{1, 1, 2, 2, 2, 2, 2, 2, 3, 3, 4, 5, 6, 7, 8, 9}), Name: pickOf(next, shelfNames)}
	if names := h.names(); len(names) > 0 && o.Kind != impl.OpMake && next(12) > 0 {
		o.Name = pickOf(next, names)
	}
	l := h.leaves[o.Name]
	if tellsOf(o.Kind, "o") {
		o.Other = pickOf(next, shelfNames)
	}
	if tellsOf(o.Kind, "a") {
		o.At = next(max(l.size, 1))
		if next(15) == 0 {
			o.At = pickOf(next, []int64{l.size, 15, 16, 255})
		}
	}
	if tellsOf(o.Kind, "s") {
		o.Value = pickOf(next, []int64{1, 2, 3, 5, 8, 12, 15, 16})
	}
	if tellsOf(o.Kind, "v") {
		o.Value = next(1000)
	}
	if tellsOf(o.Kind, "e") {
		o.Epoch = min(1000, l.epoch+next(3))
		if next(10) == 0 {
			o.Epoch = max(0, l.epoch-1)
		}
	}
	return o
}

func makeOp(name string, size int64) impl.Op {
	return impl.Op{Kind: impl.OpMake, Name: name, Value: size}
}

func writeOp(name string, at int64, value int64) impl.Op {
	return impl.Op{Kind: impl.OpWrite, Name: name, At: at, Value: value}
}

func trimOp(name string, at int64) impl.Op {
	return impl.Op{Kind: impl.OpTrim, Name: name, At: at}
}

func snapOp(name string, other string) impl.Op {
	return impl.Op{Kind: impl.OpSnap, Name: name, Other: other}
}

func cloneOp(name string, other string) impl.Op {
	return impl.Op{Kind: impl.OpClone, Name: name, Other: other}
}

func deleteOp(name string) impl.Op {
	return impl.Op{Kind: impl.OpDelete, Name: name}
}

func resizeOp(name string, size int64) impl.Op {
	return impl.Op{Kind: impl.OpResize, Name: name, Value: size}
}

func attachOp(name string) impl.Op {
	return impl.Op{Kind: impl.OpAttach, Name: name}
}

func readOp(name string, at int64) impl.Op {
	return impl.Op{Kind: impl.OpRead, Name: name, At: at}
}

func atEpoch(o impl.Op, epoch int64) impl.Op {
	o.Epoch = epoch
	return o
}

// oneOfEach Kind is of a Book "b", At 0, with "q" as Other.
func oneOfEach() []impl.Op {
	return []impl.Op{makeOp("b", 3), writeOp("b", 0, 7), trimOp("b", 0), snapOp("b", "q"), cloneOp("b", "q"), deleteOp("b"), resizeOp("b", 2), attachOp("b"), readOp("b", 0)}
}

// doneFrom does these Ops, none of which may be refused.
func doneFrom(t *testing.T, pages int64, ops ...impl.Op) (impl.Shelf, handShelf) {
	t.Helper()
	s, is := impl.NewShelf(pages)
	if !is {
		t.Fatalf("NewShelf(%d) is false", pages)
	}
	h := newHandShelf(pages)
	for _, o := range ops {
		next, hand, r := step(t, s, h, o)
		if r.Code != impl.RpOk {
			t.Fatalf("Did(%v, %v): %v", s, o, r)
		}
		s, h = next, hand
	}
	return s, h
}

func TestShelfCodes(t *testing.T) {
	codes := []int64{impl.RpOk, impl.RpBad, impl.RpNone, impl.RpThere, impl.RpFenced, impl.RpFixed, impl.RpRange, impl.RpMany, impl.RpWorn, impl.RpFull}
	if !slices.Equal(codes, []int64{0, 1, 2, 3, 4, 5, 6, 7, 8, 9}) || impl.MaxBooks != 6 {
		t.Fatal(codes, impl.MaxBooks)
	}
}

func TestNewShelves(t *testing.T) {
	for pages := int64(1); pages <= 24; pages++ {
		s, is := impl.NewShelf(pages)
		want := impl.Shelf{Pool: poolOf(make([]int64, pages), make([]int64, pages))}
		if !is || !sameShelf(s, want) {
			t.Fatalf("NewShelf(%d) is %v, %v", pages, s, is)
		}
		checkShelfLooks(t, s, true, 0)
		again, _ := impl.NewShelf(pages)
		checkShelfApart(t, "NewShelf", s, spansOf(again))
	}
	for _, pages := range append([]int64{0, 25, 26, -24}, farNumbers...) {
		s, is := impl.NewShelf(pages)
		if within := pages >= 1 && pages <= 24; is != within || !within && !sameShelf(s, impl.Shelf{}) {
			t.Errorf("NewShelf(%d) is %v, %v", pages, s, is)
		}
	}
}

func TestShelvesWorkedByHand(t *testing.T) {
	s, _ := impl.NewShelf(3)
	first := bookOf("b", 4, run(1, 2, 0))
	snap, clone := bookOf("a", 4, run(1, 2, 0)), bookOf("c", 4, run(1, 2, 0))
	snap.Fixed = true
	attached := bookOf("c", 4, run(1, 1, 0), run(2, 1, 2))
	attached.Epoch = 1
	for _, c := range []struct {
		o     impl.Op
		want  impl.Shelf
		reply impl.Reply
	}{
		{makeOp("b", 4), impl.Shelf{Pool: poolOf([]int64{0, 0, 0}, []int64{0, 0, 0}), Books: []impl.Book{bookOf("b", 4)}}, impl.Reply{}},
		{writeOp("b", 1, 7), impl.Shelf{Pool: poolOf([]int64{1, 0, 0}, []int64{7, 0, 0}), Books: []impl.Book{bookOf("b", 4, run(1, 1, 0))}}, impl.Reply{}},
		{writeOp("b", 2, 8), impl.Shelf{Pool: poolOf([]int64{1, 1, 0}, []int64{7, 8, 0}), Books: []impl.Book{first}}, impl.Reply{}},
		{writeOp("b", 1, 0), impl.Shelf{Pool: poolOf([]int64{1, 1, 0}, []int64{0, 8, 0}), Books: []impl.Book{first}}, impl.Reply{}},
		{writeOp("b", 1, 9), impl.Shelf{Pool: poolOf([]int64{1, 1, 0}, []int64{9, 8, 0}), Books: []impl.Book{first}}, impl.Reply{}},
		{snapOp("b", "a"), impl.Shelf{Pool: poolOf([]int64{2, 2, 0}, []int64{9, 8, 0}), Books: []impl.Book{snap, first}}, impl.Reply{}},
		{cloneOp("a", "c"), impl.Shelf{Pool: poolOf([]int64{3, 3, 0}, []int64{9, 8, 0}), Books: []impl.Book{snap, first, clone}}, impl.Reply{}},
		{writeOp("c", 2, 5), impl.Shelf{Pool: poolOf([]int64{3, 2, 1}, []int64{9, 8, 5}), Books: []impl.Book{snap, first, bookOf("c", 4, run(1, 1, 0), run(2, 1, 2))}}, impl.Reply{}},
		{attachOp("c"), impl.Shelf{Pool: poolOf([]int64{3, 2, 1}, []int64{9, 8, 5}), Books: []impl.Book{snap, first, attached}}, impl.Reply{Value: 1}},
		{readOp("c", 2), impl.Shelf{Pool: poolOf([]int64{3, 2, 1}, []int64{9, 8, 5}), Books: []impl.Book{snap, first, attached}}, impl.Reply{Value: 5}},
		{writeOp("b", 0, 1), impl.Shelf{Pool: poolOf([]int64{3, 2, 1}, []int64{9, 8, 5}), Books: []impl.Book{snap, first, attached}}, impl.Reply{Code: impl.RpFull}},
		{resizeOp("b", 2), impl.Shelf{Pool: poolOf([]int64{3, 1, 1}, []int64{9, 8, 5}), Books: []impl.Book{snap, bookOf("b", 2, run(1, 1, 0)), attached}}, impl.Reply{}},
		{trimOp("b", 1), impl.Shelf{Pool: poolOf([]int64{2, 1, 1}, []int64{9, 8, 5}), Books: []impl.Book{snap, bookOf("b", 2), attached}}, impl.Reply{}},
		{deleteOp("a"), impl.Shelf{Pool: poolOf([]int64{1, 0, 1}, []int64{9, 0, 5}), Books: []impl.Book{bookOf("b", 2), attached}}, impl.Reply{}},
		{readOp("b", 1), impl.Shelf{Pool: poolOf([]int64{1, 0, 1}, []int64{9, 0, 5}), Books: []impl.Book{bookOf("b", 2), attached}}, impl.Reply{}},
	} {
		checkDid(t, s, c.o, c.want, c.reply)
		s, _ = impl.Did(s, c.o)
		checkCounts(t, s)
	}
}

// Rows without any order, but the same in each run.
func TestLongRowsOfOps(t *testing.T) {
	done, told := [10]int{}, [10]int{}
	for _, pages := range []int64{1, 3, 6, 12, 24} {
		for seed := range uint32(3) {
			next := picked(80 + 7*seed)
			s, _ := impl.NewShelf(pages)
			h, w := newHandShelf(pages), lastWritten{}
			for range 350 {
				o, r := likelyOp(next, h), impl.Reply{}
				s, h, r = step(t, s, h, o)
				told[r.Code]++
				if r.Code == impl.RpOk {
					done[o.Kind]++
					w.note(o)
				}
				checkCounts(t, s)
				checkLastWritten(t, s, w)
			}
		}
	}
	for kind, n := range done {
		if kind > 0 && n < 20 {
			t.Errorf("of Kind %d only %d were done", kind, n)
		}
	}
	for _, code := range []int64{impl.RpOk, impl.RpNone, impl.RpThere, impl.RpFenced, impl.RpFixed, impl.RpRange, impl.RpMany, impl.RpFull} {
		if told[code] < 20 {
			t.Errorf("Code %d was told only %d times", code, told[code])
		}
	}
}

func TestCopiesKeepTheirOwn(t *testing.T) {
	for _, kind := range []int64{impl.OpSnap, impl.OpClone} {
		for _, other := range []string{"a", "z"} {
			s, h := doneFrom(t, 12, makeOp("m", 6), writeOp("m", 0, 10), writeOp("m", 1, 11), writeOp("m", 2, 12), writeOp("m", 4, 14))
			spare := impl.Spare(s.Pool)
			s, h, _ = step(t, s, h, impl.Op{Kind: kind, Name: "m", Other: other})
			if impl.Spare(s.Pool) != spare || impl.PlacesUsed(s) != 8 {
				t.Fatalf("the copy has taken a page: %v", s)
			}
			writers := []string{"m", other}
			if kind == impl.OpSnap {
				writers = []string{"m"}
			}
			wanted := map[string][]int64{"m": {10, 11, 12, 0, 14, 0}, other: {10, 11, 12, 0, 14, 0}}
			for i, at := range []int64{1, 1, 3, 0, 4, 1, 3} {
				name, value := writers[i%len(writers)], int64(500+i)
				spare = impl.Spare(s.Pool)
				s, h, _ = step(t, s, h, writeOp(name, at, value))
				if took := spare - impl.Spare(s.Pool); took < 0 || took > 1 {
					t.Fatalf("a write has taken %d pages", took)
				}
				wanted[name][at] = value
				checkCounts(t, s)
				checkLastWritten(t, s, wanted)
			}
		}
	}
}

func TestPagesComeBack(t *testing.T) {
	ops := []impl.Op{makeOp("b", 6)}
	for at := range int64(6) {
		ops = append(ops, writeOp("b", at, 100+at))
	}
	s, h := doneFrom(t, 6, ops...)
	for _, c := range []struct {
		ops   []impl.Op
		spare int64
	}{
		{[]impl.Op{trimOp("b", 0)}, 1},
		{[]impl.Op{trimOp("b", 5), trimOp("b", 5)}, 1},
		{[]impl.Op{trimOp("b", 1), trimOp("b", 3), trimOp("b", 2)}, 3},
		{[]impl.Op{resizeOp("b", 5)}, 1},
		{[]impl.Op{resizeOp("b", 1)}, 5},
		{[]impl.Op{resizeOp("b", 6)}, 0},
		{[]impl.Op{resizeOp("b", 16)}, 0},
		{[]impl.Op{resizeOp("b", 2), resizeOp("b", 6)}, 4},
		{[]impl.Op{deleteOp("b")}, 6},
		{[]impl.Op{snapOp("b", "q"), deleteOp("b")}, 0},
		{[]impl.Op{snapOp("b", "q"), deleteOp("q")}, 0},
		{[]impl.Op{snapOp("b", "q"), resizeOp("b", 1)}, 0},
		{[]impl.Op{snapOp("b", "q"), trimOp("b", 3), deleteOp("q")}, 1},
		{[]impl.Op{cloneOp("b", "q"), resizeOp("b", 3), resizeOp("q", 2)}, 3},
		{[]impl.Op{cloneOp("b", "q"), deleteOp("b"), deleteOp("q")}, 6},
	} {
		after, hand := s, h
		for _, o := range c.ops {
			after, hand, _ = step(t, after, hand, o)
			checkCounts(t, after)
		}
		if got := impl.Spare(after.Pool); got != c.spare {
			t.Errorf("%v: %d pages to spare; wanted %d", c.ops, got, c.spare)
		}
	}
}

// What was cut off is not there again when there is room for it again.
func TestResizedToMoreIsEmptyBehind(t *testing.T) {
	for size := int64(1); size <= 16; size++ {
		for to := int64(1); to <= 16; to++ {
			ops, wanted := []impl.Op{makeOp("b", size)}, make([]int64, size)
			for at := range size {
				ops = append(ops, writeOp("b", at, 200+at))
				wanted[at] = 200 + at
			}
			w := lastWritten{"b": wanted}
			s, h := doneFrom(t, 16, ops...)
			for _, o := range []impl.Op{resizeOp("b", to), resizeOp("b", 16)} {
				s, h, _ = step(t, s, h, o)
				w.note(o)
				checkCounts(t, s)
				checkLastWritten(t, s, w)
			}
		}
	}
}

func TestEpochsGoUpAndFence(t *testing.T) {
	for _, epoch := range []int64{0, 1, 500, 998, 999, 1000} {
		for _, fixed := range []bool{false, true} {
			h := newHandShelf(4).with("b", leaf{size: 3, pages: nonePlaced().with(0, 0), fixed: fixed, epoch: epoch})
			h.values[0] = 77
			wanted := impl.Reply{Value: epoch + 1}
			if epoch == 1000 {
				wanted = impl.Reply{Code: impl.RpWorn}
			}
			_, _, r := step(t, h.shelf(), h, attachOp("b"))
			if r != wanted {
				t.Fatalf("OpAttach at %d: %v", epoch, r)
			}
			for _, o := range oneOfEach() {
				for _, asked := range []int64{0, epoch - 1, epoch, epoch + 1, 1000} {
					if tellsOf(o.Kind, "e") && asked >= 0 && asked <= 1000 {
						_, _, r := step(t, h.shelf(), h, atEpoch(o, asked))
						if (r.Code == impl.RpFenced) != (asked < epoch) {
							t.Fatalf("%v with Epoch %d at %d: %v", o, asked, epoch, r)
						}
					}
				}
			}
		}
	}
}

// A place of Count 1 keeps its page; of Count 2, in two Books or in one, it takes another one, or is refused.
func TestWritesWithAPageToSpareAndWithNone(t *testing.T) {
	alone := nonePlaced().with(1, 0)
	for _, c := range []struct {
		h     handShelf
		code  int64
		count int64
	}{
		{newHandShelf(2).with("b", leaf{size: 3, pages: alone}), impl.RpOk, 1},
		{newHandShelf(1).with("b", leaf{size: 3, pages: alone}), impl.RpOk, 1},
		{newHandShelf(2).with("b", leaf{size: 3, pages: alone}).with("q", leaf{size: 3, pages: alone}), impl.RpOk, 1},
		{newHandShelf(1).with("b", leaf{size: 3, pages: alone}).with("q", leaf{size: 3, pages: alone}), impl.RpFull, 2},
		{newHandShelf(2).with("b", leaf{size: 3, pages: alone.with(2, 0)}), impl.RpOk, 1},
		{newHandShelf(1).with("b", leaf{size: 3, pages: alone.with(2, 0)}), impl.RpFull, 2},
		{newHandShelf(2).with("b", leaf{size: 3, pages: nonePlaced().with(2, 0)}), impl.RpOk, 1},
		{newHandShelf(1).with("b", leaf{size: 3, pages: nonePlaced().with(2, 0)}), impl.RpFull, 1},
		{newHandShelf(1).with("b", leaf{size: 3, pages: nonePlaced()}), impl.RpOk, 1},
	} {
		c.h.values[0] = 321
		checkCounts(t, c.h.shelf())
		for _, value := range []int64{0, 1, 321, 999} {
			s, _, r := step(t, c.h.shelf(), c.h, writeOp("b", 1, value))
			if r.Code != c.code || s.Pool.Counts[0] != c.count {
				t.Fatalf("%v: written it is %v, %v", c.h.shelf(), s, r)
			}
			checkCounts(t, s)
		}
	}
}

func TestAPageThatComesBackIsTakenFirst(t *testing.T) {
	s, h := doneFrom(t, 4, makeOp("b", 8), writeOp("b", 0, 10), writeOp("b", 1, 11), writeOp("b", 2, 12), writeOp("b", 3, 13))
	for _, at := range []int64{0, 1, 2, 3} {
		after, hand, _ := step(t, s, h, trimOp("b", at))
		after, hand, _ = step(t, after, hand, writeOp("b", 7, 99))
		if after.Pool.Pages[at] != 99 {
			t.Fatalf("page %d was free: %v", at, after)
		}
		step(t, after, hand, writeOp("b", 6, 99))
	}
}

func TestPlacesAgainstSizes(t *testing.T) {
	for _, size := range []int64{1, 2, 8, 15, 16} {
		h := newHandShelf(3).with("b", leaf{size: size, pages: nonePlaced().with(size-1, 1)})
		h.values[1] = 55
		for _, at := range []int64{0, size - 1, size, size + 1, 14, 15, 16, 17, 254, 255} {
			for _, o := range []impl.Op{writeOp("b", at, 7), trimOp("b", at), readOp("b", at)} {
				if _, _, r := step(t, h.shelf(), h, o); (r.Code == impl.RpRange) != (at >= size) {
					t.Fatalf("%v of Size %d: %v", o, size, r)
				}
			}
		}
	}
	s, h := doneFrom(t, 2, makeOp("a", 1), makeOp("b", 16), writeOp("a", 0, 3), writeOp("b", 15, 4))
	for _, o := range []impl.Op{makeOp("c", 1), makeOp("c", 16), makeOp("c", 0), makeOp("c", 17), resizeOp("b", 1), resizeOp("b", 15), resizeOp("a", 16), resizeOp("a", 0), resizeOp("b", 17)} {
		_, _, r := step(t, s, h, o)
		if (r.Code == impl.RpBad) != (o.Value < 1 || o.Value > 16) {
			t.Fatalf("%v: %v", o, r)
		}
	}
}

func emptyLeaves(pages int64, names ...string) handShelf {
	h := newHandShelf(pages)
	for _, name := range names {
		h = h.with(name, leaf{size: 3, pages: nonePlaced()})
	}
	return h
}

func TestNoneFiveAndSixBooks(t *testing.T) {
	for count := range 7 {
		h := emptyLeaves(2, shelfNames[:count]...)
		checkShelfLooks(t, h.shelf(), true, 0)
		for _, o := range []impl.Op{makeOp("q", 3), snapOp("a", "q"), cloneOp("a", "q")} {
			_, _, r := step(t, h.shelf(), h, o)
			want := int64(impl.RpOk)
			if count == 0 && o.Kind != impl.OpMake {
				want = impl.RpNone
			} else if count == 6 {
				want = impl.RpMany
			}
			if r.Code != want {
				t.Fatalf("%v with %d Books: %v", o, count, r)
			}
		}
		for _, o := range append(oneOfEach(), deleteOp("a"), makeOp("a", 3), cloneOp("a", "a")) {
			step(t, h.shelf(), h, o)
		}
	}
}

// A Book comes and goes at the head of the row, in its midst and at its end.
func TestNamesInTheRow(t *testing.T) {
	names := []string{"a", "az", "b", "ba", "c", "cccc"}
	for i, name := range names {
		others := slices.Delete(slices.Clone(names), i, i+1)
		h := emptyLeaves(3, others...)
		h.leaves[others[0]] = leaf{size: 3, pages: nonePlaced().with(0, 2)}
		for _, o := range []impl.Op{makeOp(name, 5), snapOp(others[0], name), cloneOp(others[0], name), snapOp(others[4], name)} {
			s, hand, r := step(t, h.shelf(), h, o)
			if r.Code != impl.RpOk || s.Books[i].Name != name || len(s.Books) != 6 {
				t.Fatalf("%v: %v, %v", o, s, r)
			}
			for _, o := range []impl.Op{attachOp(name), resizeOp(name, 2), writeOp(name, 1, 8), trimOp(name, 0), readOp(name, 0), deleteOp(name)} {
				after, _, _ := step(t, s, hand, o)
				checkCounts(t, after)
			}
		}
	}
}

func TestFixedBooks(t *testing.T) {
	s, h := doneFrom(t, 6, makeOp("a", 4), writeOp("a", 1, 41), writeOp("a", 2, 42), snapOp("a", "b"))
	wanted := map[int64]int64{impl.OpMake: impl.RpThere, impl.OpWrite: impl.RpFixed, impl.OpTrim: impl.RpFixed, impl.OpResize: impl.RpFixed}
	for _, o := range append(oneOfEach(), writeOp("b", 1, 5), trimOp("b", 2), resizeOp("b", 4), resizeOp("b", 16), readOp("b", 1)) {
		if _, _, r := step(t, s, h, o); r.Code != wanted[o.Kind] {
			t.Fatalf("%v of a Fixed Book: %v", o, r)
		}
	}
	// A clone of a Fixed one is not Fixed, a snap of a clone is.
	s, h, _ = step(t, s, h, cloneOp("b", "c"))
	s, h, _ = step(t, s, h, snapOp("c", "d"))
	if s.Books[2].Fixed || !s.Books[3].Fixed {
		t.Fatal(s)
	}
	s, _, r := step(t, s, h, writeOp("c", 1, 5))
	if r.Code != impl.RpOk || impl.Reads(s, "a", 1) != 41 || impl.Reads(s, "b", 1) != 41 || impl.Reads(s, "c", 1) != 5 || impl.Reads(s, "d", 1) != 41 {
		t.Fatal(s, r)
	}
}

func TestCopiesBeginAtEpochZero(t *testing.T) {
	s, h := doneFrom(t, 3, makeOp("a", 4), attachOp("a"), attachOp("a"), snapOp("a", "b"), cloneOp("a", "c"), attachOp("b"), snapOp("b", "d"))
	epochs := []int64{}
	for _, b := range s.Books {
		epochs = append(epochs, b.Epoch)
	}
	if !slices.Equal(epochs, []int64{2, 1, 0, 0}) {
		t.Fatal(s)
	}
	step(t, s, h, writeOp("c", 0, 1))
	step(t, s, h, writeOp("a", 0, 1))
}

func TestEachCodeByItself(t *testing.T) {
	h := emptyLeaves(1, "a", "b")
	h.leaves["b"] = leaf{size: 3, pages: nonePlaced().with(0, 0), epoch: 5}
	fixed, worn, six := h.with("b", leaf{size: 3, pages: nonePlaced(), fixed: true}), h.with("b", leaf{size: 3, pages: nonePlaced(), epoch: 1000}), emptyLeaves(1, shelfNames[:6]...)
	for _, c := range []struct {
		h    handShelf
		o    impl.Op
		code int64
	}{
		{h, makeOp("q", 0), impl.RpBad}, {h, impl.Op{Kind: impl.OpAttach, Name: "b", Value: 1}, impl.RpBad}, {h, impl.Op{Kind: impl.OpRead, Name: "b", Epoch: 1}, impl.RpBad},
		{h, writeOp("q", 0, 7), impl.RpNone}, {h, trimOp("q", 0), impl.RpNone}, {h, snapOp("q", "r"), impl.RpNone}, {h, cloneOp("q", "r"), impl.RpNone}, {h, deleteOp("q"), impl.RpNone}, {h, resizeOp("q", 3), impl.RpNone}, {h, attachOp("q"), impl.RpNone}, {h, readOp("q", 0), impl.RpNone},
		{h, makeOp("b", 3), impl.RpThere}, {h, snapOp("b", "a"), impl.RpThere}, {h, cloneOp("b", "a"), impl.RpThere}, {h, snapOp("b", "b"), impl.RpThere}, {h, cloneOp("b", "b"), impl.RpThere},
		{h, atEpoch(writeOp("b", 0, 7), 4), impl.RpFenced}, {h, atEpoch(trimOp("b", 0), 4), impl.RpFenced}, {h, atEpoch(deleteOp("b"), 4), impl.RpFenced}, {h, atEpoch(resizeOp("b", 3), 4), impl.RpFenced},
		{fixed, writeOp("b", 0, 7), impl.RpFixed}, {fixed, trimOp("b", 0), impl.RpFixed}, {fixed, resizeOp("b", 3), impl.RpFixed},
		{h.with("b", leaf{size: 3, pages: nonePlaced()}), writeOp("b", 3, 7), impl.RpRange}, {h, atEpoch(trimOp("b", 3), 5), impl.RpRange}, {h, readOp("b", 3), impl.RpRange},
		{six, makeOp("q", 3), impl.RpMany}, {six, snapOp("b", "q"), impl.RpMany}, {six, cloneOp("b", "q"), impl.RpMany},
		{worn, attachOp("b"), impl.RpWorn},
		{h, atEpoch(writeOp("b", 1, 7), 5), impl.RpFull}, {h, writeOp("a", 0, 7), impl.RpFull},
	} {
		if codes := c.h.codes(c.o); !slices.Equal(codes, []int64{c.code}) {
			t.Fatalf("%v: of %v the codes %v apply", c.h.shelf(), c.o, codes)
		}
		s := c.h.shelf()
		checkDid(t, s, c.o, s, impl.Reply{Code: c.code})
	}
}

// manyShelves are right ones, in which each code can apply to "b", most of them several at once.
func manyShelves() []handShelf {
	list := []handShelf{newHandShelf(1), newHandShelf(24), emptyLeaves(2, "a", "q"), emptyLeaves(2, shelfNames[:6]...), emptyLeaves(2, "a", "c", "d", "e", "f", "g")}
	for _, fixed := range []bool{false, true} {
		for _, epoch := range []int64{0, 5, 1000} {
			for _, pages := range []placed{nonePlaced(), nonePlaced().with(0, 0), nonePlaced().with(0, 0).with(1, 0).with(2, 1)} {
				for _, others := range [][]string{nil, {"a", "q"}, {"a", "c", "d", "q"}, {"a", "c", "d", "e"}, {"a", "ba", "bb", "q", "z"}} {
					h := emptyLeaves(4, others...).with("b", leaf{size: 3, pages: pages, fixed: fixed, epoch: epoch})
					h.values[0], h.values[1] = 11, 12
					list = append(list, h)
					if len(others) < 5 {
						list = append(list, h.full())
					}
				}
			}
		}
	}
	return list
}

// manyOps are right and wrong ones of "b", and of a name that no Book has.
func manyOps() []impl.Op {
	list := []impl.Op{{}}
	for _, o := range oneOfEach() {
		for _, name := range []string{"b", "nono"} {
			o.Name = name
			for _, at := range toldValues(o.Kind, "a", 0, 1, 2, 3, 255, 256) {
				for _, epoch := range toldValues(o.Kind, "e", 0, 4, 5, 1000) {
					o.At, o.Epoch = at, epoch
					list = append(list, o)
					wrong := o
					wrong.Value = 1000
					list = append(list, wrong)
				}
			}
		}
	}
	return list
}

// Where several codes apply the one named first is told; all pairs that can be are among them.
func TestTheCodeNamedFirst(t *testing.T) {
	seen := map[[2]int64]bool{}
	for _, h := range manyShelves() {
		s := h.shelf()
		checkCounts(t, s)
		for _, o := range manyOps() {
			codes := h.codes(o)
			for i, a := range codes {
				for _, b := range codes[i+1:] {
					seen[[2]int64{a, b}] = true
				}
			}
			_, _, r := step(t, s, h, o)
			if len(codes) > 0 && (r.Code != codes[0] || r.Value != 0) {
				t.Fatalf("%v: of %v the codes %v apply, and %v is told", s, o, codes, r)
			}
		}
	}
	for _, pair := range [][2]int64{{1, 2}, {1, 3}, {1, 4}, {1, 5}, {1, 6}, {1, 7}, {1, 8}, {1, 9}, {2, 3}, {2, 7}, {3, 7}, {4, 5}, {4, 6}, {4, 9}, {5, 6}, {5, 9}, {6, 9}} {
		if !seen[pair] {
			t.Errorf("the codes %v have not applied at once", pair)
		}
	}
}

func TestWrongOpsOfAShelf(t *testing.T) {
	s, _ := doneFrom(t, 3, makeOp("ab", 5), writeOp("ab", 0, 7), snapOp("ab", "m"))
	for _, o := range typicalOps() {
		for _, wrong := range wrongByOneField(o) {
			checkDid(t, s, wrong, s, impl.Reply{Code: impl.RpBad})
		}
	}
	checkDid(t, s, impl.Op{}, s, impl.Reply{Code: impl.RpBad})
}

// wrongShelves are wrong in one way each: the name says in which.
func wrongShelves() map[string]impl.Shelf {
	h := newHandShelf(4).with("b", leaf{size: 3, pages: nonePlaced().with(0, 0).with(2, 1)}).with("d", leaf{size: 5, pages: nonePlaced().with(0, 0), epoch: 3})
	h.values[0], h.values[1] = 11, 12
	list := map[string]impl.Shelf{"zero": {}, "no Pool": {Books: []impl.Book{bookOf("b", 3)}}}
	put := func(name string, change func(*impl.Shelf)) {
		s := h.shelf()
		change(&s)
		list[name] = s
	}
	put("a Page above 999", func(s *impl.Shelf) { s.Pool.Pages[0] = 1000 })
	put("a Page below 0", func(s *impl.Shelf) { s.Pool.Pages[1] = -1 })
	put("a Page of Count 0", func(s *impl.Shelf) { s.Pool.Pages[3] = 1 })
	put("a Page too many", func(s *impl.Shelf) { s.Pool.Pages = append(s.Pool.Pages, 0) })
	put("a Page too few", func(s *impl.Shelf) { s.Pool.Pages = s.Pool.Pages[:3] })
	put("25 pages", func(s *impl.Shelf) {
		s.Pool = poolOf(append(s.Pool.Counts, make([]int64, 21)...), append(s.Pool.Pages, make([]int64, 21)...))
	})
	put("a Count too great", func(s *impl.Shelf) { s.Pool.Counts[0] = 3 })
	put("a Count too great by very much", func(s *impl.Shelf) { s.Pool.Counts[1] = 400 })
	put("a Count too small", func(s *impl.Shelf) { s.Pool.Counts[0] = 1 })
	put("a Count of 0", func(s *impl.Shelf) { s.Pool.Counts[1], s.Pool.Pages[1] = 0, 0 })
	put("two Counts changed over", func(s *impl.Shelf) { s.Pool.Counts[0], s.Pool.Counts[1] = 1, 2 })
	put("a Count of a page that no Book has", func(s *impl.Shelf) { s.Pool.Counts[2] = 1 })
	put("a Count of the last page, that no Book has", func(s *impl.Shelf) { s.Pool.Counts[3], s.Pool.Pages[3] = 1, 9 })
	put("a negative Count", func(s *impl.Shelf) { s.Pool.Counts[3] = -1 })
	put("a page right behind the Pool", func(s *impl.Shelf) { s.Books[0].Map = append(s.Books[0].Map[:1:1], run(1, 1, 4), run(2, 1, 1)) })
	put("page 23 of a Pool of four", func(s *impl.Shelf) { s.Books[1].Map = append(s.Books[1].Map[:1:1], run(4, 1, 23)) })
	put("a place more than is counted", func(s *impl.Shelf) { s.Books[1].Map = append(s.Books[1].Map[:1:1], run(4, 1, 0)) })
	put("a Book that is gone", func(s *impl.Shelf) { s.Books = s.Books[:1] })
	put("a Map that falls", func(s *impl.Shelf) { s.Books[0].Map = []impl.Run{run(2, 1, 1), run(0, 1, 0)} })
	put("a Map in another way", func(s *impl.Shelf) {
		s.Books[0].Map, s.Books[1].Map, s.Pool.Counts[0], s.Pool.Pages[1] = []impl.Run{run(0, 1, 0), run(1, 1, 1)}, nil, 1, 12
	})
	put("a Size below the Map's places", func(s *impl.Shelf) { s.Books[0].Size = 2 })
	put("a Size of 0", func(s *impl.Shelf) { s.Books[0].Size = 0 })
	put("a Size of 17", func(s *impl.Shelf) { s.Books[1].Size = 17 })
	put("an Epoch of 1001", func(s *impl.Shelf) { s.Books[1].Epoch = 1001 })
	put("an Epoch below 0", func(s *impl.Shelf) { s.Books[0].Epoch = -1 })
	put("no Name", func(s *impl.Shelf) { s.Books[0].Name = "" })
	put("a Name that is none", func(s *impl.Shelf) { s.Books[1].Name = "dddde" })
	put("Names that fall", func(s *impl.Shelf) { s.Books[0], s.Books[1] = s.Books[1], s.Books[0] })
	put("Names that are the same", func(s *impl.Shelf) { s.Books[1].Name = "b" })
	put("the last Name falls", func(s *impl.Shelf) { s.Books = append(s.Books, bookOf("c", 1)) })
	put("the last Name is that of the first", func(s *impl.Shelf) { s.Books = append(s.Books, bookOf("b", 1)) })
	put("the last Name is the beginning of the one ahead", func(s *impl.Shelf) { s.Books = append(s.Books, bookOf("zz", 1), bookOf("z", 1)) })
	put("seven Books", func(s *impl.Shelf) {
		for _, name := range []string{"e", "f", "g", "h", "i"} {
			s.Books = append(s.Books, bookOf(name, 1))
		}
	})
	put("the same Book seven hundred times", func(s *impl.Shelf) { s.Books = append(s.Books, slices.Repeat([]impl.Book{bookOf("e", 1)}, 700)...) })
	return list
}

func checkWrongShelf(t *testing.T, s impl.Shelf, ops []impl.Op) {
	t.Helper()
	checkShelfLooks(t, s, false, -1)
	for _, o := range ops {
		checkDid(t, s, o, impl.Shelf{}, impl.Reply{Code: impl.RpBad})
		checkReads(t, s, o.Name, o.At, -1)
	}
}

func TestWrongShelves(t *testing.T) {
	ops := slices.Concat(oneOfEach(), []impl.Op{{}, makeOp("q", 3), makeOp("q", 17), readOp("nono", 0), deleteOp("e"), atEpoch(deleteOp("d"), 3), trimOp("d", 4)})
	for name, s := range wrongShelves() {
		if handShelfRight(s) {
			t.Errorf("%s: %v is right", name, s)
			continue
		}
		checkWrongShelf(t, s, ops)
	}
	for _, p := range append(wrongCells(), wrongLengths()...) {
		checkWrongShelf(t, impl.Shelf{Pool: p}, ops[:3])
		checkWrongShelf(t, impl.Shelf{Pool: p, Books: []impl.Book{bookOf("b", 3)}}, ops[:3])
	}
	for _, b := range wrongBooks() {
		h := newHandShelf(5)
		s := h.shelf()
		s.Books = []impl.Book{bookOf("a", 3), b}
		for _, r := range b.Map {
			if r.Page >= 0 && r.Page < 5 && r.Count >= 1 && r.Count <= 5-r.Page {
				for step := range r.Count {
					s.Pool.Counts[r.Page+step]++
				}
			}
		}
		checkWrongShelf(t, s, []impl.Op{readOp("a", 0), makeOp("q", 3)})
	}
}

func TestReadsOutOfRange(t *testing.T) {
	s, _ := doneFrom(t, 4, makeOp("b", 3), writeOp("b", 0, 9), writeOp("b", 2, 8), makeOp("full", 16), writeOp("full", 15, 7), snapOp("b", "q"), attachOp("q"))
	wanted := lastWritten{"b": {9, 0, 8}, "q": {9, 0, 8}, "full": make([]int64, 16)}
	wanted["full"][15] = 7
	for _, at := range slices.Concat(nearPlaces(), farNumbers, extremes, []int64{254, 255, 256, 257, math.MinInt64 + 3}) {
		for name, values := range wanted {
			want := int64(-1)
			if at >= 0 && at < int64(len(values)) {
				want = values[at]
			}
			checkReads(t, s, name, at, want)
		}
		for _, name := range []string{"", "a", "bb", "B", "ful", "fulls", "r", "b ", strings.Repeat("b", 300)} {
			checkReads(t, s, name, at, -1)
		}
	}
	for _, name := range wrongNames() {
		checkReads(t, s, name, 0, -1)
	}
	empty, _ := impl.NewShelf(1)
	checkReads(t, empty, "b", 0, -1)
	checkReads(t, empty, "", 0, -1)
}

// The greatest shelf: six Books of 16 places that all have one page, so that its Count is 96.
func TestOnePageAtAllPlaces(t *testing.T) {
	all := nonePlaced()
	fill(all[:], 0)
	h := newHandShelf(1)
	h.values[0] = 999
	for _, name := range shelfNames[:6] {
		h = h.with(name, leaf{size: 16, pages: all})
	}
	s := h.shelf()
	checkShelfLooks(t, s, true, 96)
	for _, o := range oneOfEach() {
		after, _, _ := step(t, s, h, o)
		checkCounts(t, after)
	}
	s, h, _ = step(t, s, h, deleteOp("ab"))
	checkShelfLooks(t, s, true, 80)
	s, _, _ = step(t, s, h, cloneOp("m", "q"))
	checkShelfLooks(t, s, true, 96)
}

// Shelves and Ops without any order, but the same in each run, mostly near to right ones.
func TestShelfAnswersAtEveryArgument(t *testing.T) {
	next := picked(88)
	numbers := slices.Concat(extremes, farNumbers, []int64{10, 16, 17, 999, 1000, 1001})
	names := slices.Concat(shelfNames, wrongNames())
	wrongs := wrongMaps()
	rights := 0
	for range 60 {
		h := newHandShelf(1 + next(24))
		for range 60 {
			h, _ = h.did(likelyOp(next, h))
			s, o := h.shelf(), likelyOp(next, h)
			if len(s.Books) > 0 && next(2) == 0 {
				spoilShelf(next, &s, numbers, names, wrongs)
			}
			if next(4) == 0 {
				o = pickOf(next, []impl.Op{{Kind: pickOf(next, numbers), Name: o.Name}, {Kind: o.Kind, Name: pickOf(next, names), At: o.At, Value: o.Value}, {Kind: o.Kind, Name: o.Name, Other: o.Other, At: pickOf(next, numbers), Value: pickOf(next, numbers), Epoch: pickOf(next, numbers)}})
			}
			if !handShelfRight(s) {
				checkWrongShelf(t, s, []impl.Op{o})
				continue
			}
			rights++
			checkCounts(t, s)
			after, _ := impl.Did(s, o)
			checkCounts(t, after)
			if sameShelf(s, h.shelf()) {
				step(t, s, h, o)
			}
		}
	}
	if rights < 1000 || rights > 3000 {
		t.Fatalf("%d shelves of 3600 were right", rights)
	}
}

// spoilShelf changes one thing of a Shelf that has a Book.
func spoilShelf(next func(int64) int64, s *impl.Shelf, numbers []int64, names []string, maps [][]impl.Run) {
	page, book := next(int64(len(s.Pool.Counts))), next(int64(len(s.Books)))
	switch next(9) {
	case 0:
		s.Pool.Counts[page] += next(3) - 1
	case 1:
		s.Pool.Counts[page] = pickOf(next, numbers)
	case 2:
		s.Pool.Pages[page] = pickOf(next, numbers)
	case 3:
		s.Pool.Counts = s.Pool.Counts[:page]
	case 4:
		s.Books[book].Name = pickOf(next, names)
	case 5:
		s.Books[book].Size = pickOf(next, numbers)
	case 6:
		s.Books[book].Epoch = pickOf(next, numbers)
	case 7:
		s.Books[book].Map = pickOf(next, maps)
	case 8:
		s.Books = append(s.Books, s.Books[book])
	}
}
