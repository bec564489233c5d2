package tests

import (
	"maps"
	"math"
	"slices"
	"strings"
	"testing"

	"loop.example/g00372/impl"
)

// sheet has 16 values whatever its size is: those behind it are 0.
type sheet struct {
	size   int64
	values [16]int64
	fixed  bool
	epoch  int64
}

func sheetOf(size int64, values ...int64) sheet {
	s := sheet{size: size}
	copy(s.values[:], values)
	return s
}

// handPlains are plain ones by their names.
type handPlains map[string]sheet

func (h handPlains) with(name string, s sheet) handPlains {
	h = maps.Clone(h)
	h[name] = s
	return h
}

func (h handPlains) without(name string) handPlains {
	h = maps.Clone(h)
	delete(h, name)
	return h
}

func (h handPlains) plains() []impl.Plain {
	list := []impl.Plain{}
	for _, name := range slices.Sorted(maps.Keys(h)) {
		s := h[name]
		list = append(list, impl.Plain{Name: name, Size: s.size, Values: slices.Clone(s.values[:s.size]), Fixed: s.fixed, Epoch: s.epoch})
	}
	return list
}

// codes are all that apply, by themselves and in order.
func (h handPlains) codes(o impl.Op, told int64) []int64 {
	s, there := h[o.Name]
	_, other := h[o.Other]
	is := func(kinds ...int64) bool { return slices.Contains(kinds, o.Kind) }
	applies := []bool{
		1: !handOp(o),
		2: !is(1) && !there,
		3: is(1) && there || is(4, 5) && other,
		4: is(2, 3, 6, 7) && there && o.Epoch < s.epoch,
		5: is(2, 3, 7) && s.fixed,
		6: is(2, 3, 9) && there && o.At >= s.size,
		7: is(1, 4, 5) && len(h) == 6,
		8: is(8) && s.epoch == 1000,
		9: is(2) && told == 9,
	}
	codes := []int64{}
	for code, is := range applies {
		if is {
			codes = append(codes, int64(code))
		}
	}
	return codes
}

func (h handPlains) did(o impl.Op, told int64) (handPlains, impl.Reply) {
	if codes := h.codes(o, told); len(codes) > 0 {
		return h, impl.Reply{Code: codes[0]}
	}
	s, r := h[o.Name], impl.Reply{}
	switch o.Kind {
	case impl.OpMake:
		s = sheet{size: o.Value}
	case impl.OpWrite:
		s.values[o.At] = o.Value
	case impl.OpTrim:
		s.values[o.At] = 0
	case impl.OpSnap, impl.OpClone:
		return h.with(o.Other, sheet{size: s.size, values: s.values, fixed: o.Kind == impl.OpSnap}), r
	case impl.OpDelete:
		return h.without(o.Name), r
	case impl.OpResize:
		s.size = o.Value
		clear(s.values[s.size:])
	case impl.OpAttach:
		s.epoch++
		r.Value = s.epoch
	case impl.OpRead:
		r.Value = s.values[o.At]
	}
	return h.with(o.Name, s), r
}

// shown is what the leaves show, each place by its page.
func (h handShelf) shown() handPlains {
	list := handPlains{}
	for name, l := range h.leaves {
		s := sheet{size: l.size, fixed: l.fixed, epoch: l.epoch}
		for place, page := range l.pages {
			if page >= 0 {
				s.values[place] = h.values[page]
			}
		}
		list[name] = s
	}
	return list
}

func plainOf(name string, values ...int64) impl.Plain {
	return impl.Plain{Name: name, Size: int64(len(values)), Values: values}
}

func sameSheet(a impl.Plain, b impl.Plain) bool {
	return a.Name == b.Name && a.Size == b.Size && slices.Equal(a.Values, b.Values) && a.Fixed == b.Fixed && a.Epoch == b.Epoch
}

func sameSheets(a []impl.Plain, b []impl.Plain) bool {
	return slices.EqualFunc(a, b, sameSheet)
}

func clonePlains(list []impl.Plain) []impl.Plain {
	clone := slices.Clone(list)
	for i := range clone {
		clone[i].Values = slices.Clone(clone[i].Values)
	}
	return clone
}

func handPlainsRight(list []impl.Plain) bool {
	names := []string{}
	for _, p := range list {
		names = append(names, p.Name)
		if !handName(p.Name) || p.Size < 1 || p.Size > 16 || len(p.Values) != int(p.Size) || p.Epoch < 0 || p.Epoch > 1000 {
			return false
		}
		if slices.Min(p.Values) < 0 || slices.Max(p.Values) > 999 {
			return false
		}
	}
	return len(list) < 7 && slices.Equal(slices.Compact(slices.Sorted(slices.Values(names))), names)
}

// laidPlains is a list of Plains and all memory that it lies in.
type laidPlains struct {
	list    []impl.Plain
	memory  []impl.Plain
	numbers [][]int64
}

func (l laidPlains) kept() laidPlains {
	return laidPlains{memory: clonePlains(l.memory), numbers: cloneLists(l.numbers)}
}

func (l laidPlains) is(kept laidPlains) bool {
	return sameSheets(l.memory, kept.memory) && slices.EqualFunc(l.numbers, kept.numbers, slices.Equal)
}

// layPlains lays one list in memory in several ways: as it is, with room behind each list, and with all Values in the room behind one another.
func layPlains(list []impl.Plain) []laidPlains {
	asItIs := laidPlains{list: list, memory: list[:cap(list)]}
	withRoom := laidPlains{memory: append(clonePlains(list), plainOf("zzzz", 5), impl.Plain{})}
	inOne := laidPlains{memory: slices.Concat([]impl.Plain{plainOf("a", 6)}, clonePlains(list), []impl.Plain{plainOf("zzzz", 7)})}
	withRoom.list, inOne.list = withRoom.memory[:len(list)], inOne.memory[1:1+len(list)]
	all := []int64{}
	for _, p := range list {
		all = append(all, p.Values...)
	}
	all = append(all, 505, 0)
	inOne.numbers = [][]int64{all}
	from := 0
	for i, p := range list {
		room := roomy(p.Values)
		asItIs.numbers = append(asItIs.numbers, p.Values[:cap(p.Values)])
		withRoom.numbers = append(withRoom.numbers, room[:cap(room)])
		withRoom.list[i].Values = room
		inOne.list[i].Values = all[from : from+len(p.Values)]
		from += len(p.Values)
	}
	return []laidPlains{asItIs, withRoom, inOne}
}

func spansOfPlains(list []impl.Plain) []span {
	spans := []span{spanOf(list)}
	for _, p := range list {
		spans = append(spans, spanOf(p.Values), spanOfText(p.Name))
	}
	return spans
}

func checkPlainsApart(t *testing.T, what string, answer []impl.Plain, given []span) {
	t.Helper()
	spans := spansOfPlains(answer)
	for i, one := range spans {
		if slices.ContainsFunc(given, one.meets) {
			t.Fatalf("%s: what is answered shares memory with what was handed in", what)
		}
		if slices.ContainsFunc(spans[:i], one.meets) {
			t.Fatalf("%s: two lists of one answer share memory", what)
		}
	}
}

// checkDidPlain asks with one list laid out in several ways: the answer must be as wanted each time, new memory, and what was handed in must stay.
func checkDidPlain(t *testing.T, list []impl.Plain, o impl.Op, told int64, want []impl.Plain, reply impl.Reply) {
	t.Helper()
	want = clonePlains(want)
	for _, given := range layPlains(list) {
		kept := given.kept()
		got, r := impl.DidPlain(given.list, o, told)
		if !given.is(kept) {
			t.Fatalf("DidPlain(%v, %v, %d): the memory handed in became %v; it was %v", list, o, told, given, kept)
		}
		if !sameSheets(got, want) || r != reply {
			t.Fatalf("DidPlain(%v, %v, %d) is %v, %v; wanted %v, %v", list, o, told, got, r, want, reply)
		}
		checkPlainsApart(t, "DidPlain", got, append(spansOfPlains(given.list), spanOfText(o.Name), spanOfText(o.Other)))
	}
}

func checkPlainsOk(t *testing.T, list []impl.Plain, right bool) {
	t.Helper()
	for _, given := range layPlains(list) {
		kept := given.kept()
		if impl.PlainsOk(given.list) != right {
			t.Fatalf("PlainsOk(%v) is %v", list, !right)
		}
		if !given.is(kept) {
			t.Fatalf("PlainsOk(%v): the memory handed in became %v; it was %v", list, given, kept)
		}
	}
}

// checkSame asks both ways round, with each list laid out in several ways.
func checkSame(t *testing.T, a []impl.Plain, b []impl.Plain, want bool) {
	t.Helper()
	for _, one := range layPlains(a) {
		for _, other := range layPlains(b) {
			oneKept, otherKept := one.kept(), other.kept()
			if impl.SamePlains(one.list, other.list) != want {
				t.Fatalf("SamePlains(%v, %v) is %v", a, b, !want)
			}
			if impl.SamePlains(other.list, one.list) != want {
				t.Fatalf("SamePlains(%v, %v) is %v", b, a, !want)
			}
			if !one.is(oneKept) || !other.is(otherKept) {
				t.Fatalf("SamePlains(%v, %v) has changed the memory handed in", a, b)
			}
		}
	}
}

func checkShown(t *testing.T, s impl.Shelf, want []impl.Plain) {
	t.Helper()
	for _, given := range layShelf(s) {
		kept := given.kept()
		got := impl.ShownPlain(given.shelf)
		if !given.is(kept) {
			t.Fatalf("ShownPlain(%v): the memory handed in became %v; it was %v", s, given, kept)
		}
		if !sameSheets(got, want) {
			t.Fatalf("ShownPlain(%v) is %v; wanted %v", s, got, want)
		}
		checkPlainsApart(t, "ShownPlain", got, spansOf(given.shelf))
	}
}

// plainStep holds one Op against what was worked out by hand, and goes on from what DidPlain answered.
func plainStep(t *testing.T, list []impl.Plain, h handPlains, o impl.Op, told int64) ([]impl.Plain, handPlains, impl.Reply) {
	t.Helper()
	wanted, reply := h.did(o, told)
	checkDidPlain(t, list, o, told, wanted.plains(), reply)
	next, _ := impl.DidPlain(list, o, told)
	return next, wanted, reply
}

// goneOn is a Shelf and what it shows, gone on with side by side.
type goneOn struct {
	shelf impl.Shelf
	hand  handShelf
	list  []impl.Plain
	plain handPlains
}

func begun(t *testing.T, pages int64) goneOn {
	t.Helper()
	s, is := impl.NewShelf(pages)
	if !is {
		t.Fatalf("NewShelf(%d) is false", pages)
	}
	return goneOn{shelf: s, hand: newHandShelf(pages), list: impl.ShownPlain(s), plain: handPlains{}}
}

// both does one Op to the Shelf and to the plain ones: they must tell the same, and show the same.
func (g goneOn) both(t *testing.T, o impl.Op) (goneOn, impl.Reply) {
	t.Helper()
	after, reply := impl.Did(g.shelf, o)
	next := goneOn{shelf: after}
	next.hand, _ = g.hand.did(o)
	list, plain, r := plainStep(t, g.list, g.plain, o, reply.Code)
	next.list, next.plain = list, plain
	if r != reply {
		t.Fatalf("%v: Did tells %v, DidPlain %v", o, reply, r)
	}
	shown := impl.ShownPlain(after)
	if !impl.SamePlains(shown, list) || !sameSheets(shown, list) {
		t.Fatalf("%v: the shelf shows %v, and the plain ones are %v", o, shown, list)
	}
	checkShown(t, after, plain.plains())
	checkPlainsOk(t, list, true)
	return next, reply
}

func (g goneOn) all(t *testing.T, ops ...impl.Op) goneOn {
	t.Helper()
	for _, o := range ops {
		next, r := g.both(t, o)
		if r.Code != impl.RpOk {
			t.Fatalf("%v: %v", o, r)
		}
		g = next
	}
	return g
}

func TestPlainsWorkedByHand(t *testing.T) {
	list := []impl.Plain{}
	snap, attached := plainOf("a", 0, 7, 0), plainOf("b", 0, 9)
	snap.Fixed, attached.Epoch = true, 1
	for _, c := range []struct {
		o     impl.Op
		told  int64
		want  []impl.Plain
		reply impl.Reply
	}{
		{makeOp("b", 3), 0, []impl.Plain{plainOf("b", 0, 0, 0)}, impl.Reply{}},
		{writeOp("b", 1, 7), 0, []impl.Plain{plainOf("b", 0, 7, 0)}, impl.Reply{}},
		{snapOp("b", "a"), 0, []impl.Plain{snap, plainOf("b", 0, 7, 0)}, impl.Reply{}},
		{writeOp("b", 1, 8), 9, []impl.Plain{snap, plainOf("b", 0, 7, 0)}, impl.Reply{Code: 9}},
		{writeOp("b", 1, 9), 0, []impl.Plain{snap, plainOf("b", 0, 9, 0)}, impl.Reply{}},
		{writeOp("b", 2, 5), 0, []impl.Plain{snap, plainOf("b", 0, 9, 5)}, impl.Reply{}},
		{writeOp("a", 1, 8), 9, []impl.Plain{snap, plainOf("b", 0, 9, 5)}, impl.Reply{Code: 5}},
		{readOp("a", 1), 0, []impl.Plain{snap, plainOf("b", 0, 9, 5)}, impl.Reply{Value: 7}},
		{readOp("b", 2), 9, []impl.Plain{snap, plainOf("b", 0, 9, 5)}, impl.Reply{Value: 5}},
		{cloneOp("a", "c"), 0, []impl.Plain{snap, plainOf("b", 0, 9, 5), plainOf("c", 0, 7, 0)}, impl.Reply{}},
		{trimOp("c", 1), 0, []impl.Plain{snap, plainOf("b", 0, 9, 5), plainOf("c", 0, 0, 0)}, impl.Reply{}},
		{resizeOp("b", 2), 0, []impl.Plain{snap, plainOf("b", 0, 9), plainOf("c", 0, 0, 0)}, impl.Reply{}},
		{attachOp("b"), 0, []impl.Plain{snap, attached, plainOf("c", 0, 0, 0)}, impl.Reply{Value: 1}},
		{resizeOp("b", 3), 0, []impl.Plain{snap, attached, plainOf("c", 0, 0, 0)}, impl.Reply{Code: 4}},
		{resizeOp("c", 4), 0, []impl.Plain{snap, attached, plainOf("c", 0, 0, 0, 0)}, impl.Reply{}},
		{deleteOp("a"), 0, []impl.Plain{attached, plainOf("c", 0, 0, 0, 0)}, impl.Reply{}},
		{deleteOp("a"), 0, []impl.Plain{attached, plainOf("c", 0, 0, 0, 0)}, impl.Reply{Code: 2}},
	} {
		checkDidPlain(t, list, c.o, c.told, c.want, c.reply)
		list, _ = impl.DidPlain(list, c.o, c.told)
		checkPlainsOk(t, list, true)
	}
}

func TestShownWorkedByHand(t *testing.T) {
	fixed := impl.Book{Name: "a", Size: 2, Map: []impl.Run{run(0, 2, 1)}, Fixed: true, Epoch: 1000}
	s := impl.Shelf{Pool: poolOf([]int64{1, 2, 3, 0}, []int64{0, 8, 999, 0}), Books: []impl.Book{fixed, bookOf("b", 1), bookOf("c", 5, run(0, 1, 0), run(2, 2, 1), run(4, 1, 2))}}
	shown := plainOf("a", 8, 999)
	shown.Fixed, shown.Epoch = true, 1000
	checkShown(t, s, []impl.Plain{shown, plainOf("b", 0), plainOf("c", 0, 0, 8, 999, 999)})
	for pages := int64(1); pages <= 24; pages++ {
		empty, _ := impl.NewShelf(pages)
		checkShown(t, empty, nil)
	}
}

// Rows without any order, but the same in each run.
func TestLongRowsShownAndPlain(t *testing.T) {
	done, told := [10]int{}, [10]int{}
	for _, pages := range []int64{1, 3, 6, 12, 24} {
		for seed := range uint32(3) {
			next, g := picked(90+7*seed), begun(t, pages)
			for range 350 {
				o, r := likelyOp(next, g.hand), impl.Reply{}
				g, r = g.both(t, o)
				told[r.Code]++
				if r.Code == impl.RpOk {
					done[o.Kind]++
				}
			}
		}
	}
	for kind, n := range done {
		if kind > 0 && n < 20 {
			t.Errorf("of Kind %d only %d were done", kind, n)
		}
	}
	for _, code := range []int64{impl.RpOk, impl.RpNone, impl.RpThere, impl.RpFenced, impl.RpFixed, impl.RpRange, impl.RpMany, impl.RpFull} {
		if told[code] < 20 {
			t.Errorf("Code %d was told only %d times", code, told[code])
		}
	}
}

// What can't be reached from a new shelf, too, goes on as what it shows: places of one Book that share a page, Epochs near the last.
func TestManyShelvesShownAndPlain(t *testing.T) {
	for _, h := range manyShelves() {
		g := goneOn{shelf: h.shelf(), hand: h, list: impl.ShownPlain(h.shelf()), plain: h.shown()}
		checkShown(t, g.shelf, g.plain.plains())
		for _, o := range manyOps() {
			g.both(t, o)
		}
	}
}

func TestWornOutSideBySide(t *testing.T) {
	h := newHandShelf(2).with("b", leaf{size: 3, pages: nonePlaced().with(1, 1), epoch: 997})
	h.values[1] = 44
	g := goneOn{shelf: h.shelf(), hand: h, list: impl.ShownPlain(h.shelf()), plain: h.shown()}
	for _, want := range []impl.Reply{{Value: 998}, {Value: 999}, {Value: 1000}, {Code: impl.RpWorn}, {Code: impl.RpWorn}} {
		next, r := g.both(t, attachOp("b"))
		if r != want {
			t.Fatalf("%v; wanted %v", r, want)
		}
		g = next
	}
	g.all(t, atEpoch(writeOp("b", 1, 5), 1000), readOp("b", 1), cloneOp("b", "c"), attachOp("c"))
}

func TestPlainCopiesKeepTheirOwn(t *testing.T) {
	for _, kind := range []int64{impl.OpSnap, impl.OpClone} {
		for _, other := range []string{"a", "z"} {
			g := begun(t, 24).all(t, makeOp("m", 6), writeOp("m", 0, 10), writeOp("m", 1, 11), writeOp("m", 4, 14), attachOp("m"), impl.Op{Kind: kind, Name: "m", Other: other})
			wanted := map[string][]int64{"m": {10, 11, 0, 0, 14, 0}, other: {10, 11, 0, 0, 14, 0}}
			writers := []string{"m", other}
			if kind == impl.OpSnap {
				writers = []string{"m"}
			}
			for i, at := range []int64{1, 1, 3, 0, 4, 1, 3, 5} {
				name, value := writers[i%len(writers)], int64(500+i)
				g = g.all(t, atEpoch(writeOp(name, at, value), 1))
				wanted[name][at] = value
				for _, p := range g.list {
					if !slices.Equal(p.Values, wanted[p.Name]) || p.Fixed != (kind == impl.OpSnap && p.Name == other) || p.Epoch != asNumber(p.Name == "m") {
						t.Fatalf("%v; wanted %v", g.list, wanted)
					}
				}
			}
			g.all(t, atEpoch(deleteOp("m"), 1), readOp(other, 1), cloneOp(other, "m"), writeOp("m", 1, 3), readOp(other, 1))
		}
	}
}

// What was cut off is 0 when there is room for it again, in each layout of the list.
func TestPlainsResizedToMoreAreZeroBehind(t *testing.T) {
	for size := int64(1); size <= 16; size++ {
		for to := int64(1); to <= 16; to++ {
			h := handPlains{"b": {size: size}, "c": sheetOf(16, 1, 2, 3, 4, 5, 6, 7, 8, 9, 10, 11, 12, 13, 14, 15, 16)}
			for at := range size {
				h, _ = h.did(writeOp("b", at, 200+at), 0)
			}
			list := h.plains()
			for _, o := range []impl.Op{resizeOp("b", to), resizeOp("b", 16), resizeOp("c", to), resizeOp("c", size), resizeOp("c", 16)} {
				list, h, _ = plainStep(t, list, h, o, 0)
				checkPlainsOk(t, list, true)
			}
			for place, value := range list[0].Values {
				if kept := int64(place) < min(size, to); kept != (value == 200+int64(place)) || !kept && value != 0 {
					t.Fatalf("from %d to %d and to 16: %v", size, to, list[0])
				}
			}
			if least := min(size, to); list[1].Values[least-1] != least || least < 16 && list[1].Values[least] != 0 {
				t.Fatalf("to %d, to %d and to 16: %v", to, size, list[1])
			}
		}
	}
}

func TestTrimDeleteAndAttachSideBySide(t *testing.T) {
	g := begun(t, 6).all(t, makeOp("b", 4), writeOp("b", 0, 0), writeOp("b", 1, 999), writeOp("b", 3, 1), cloneOp("b", "c"))
	g.all(t, trimOp("b", 1), trimOp("b", 1), trimOp("b", 2), readOp("b", 1), readOp("c", 1), trimOp("c", 3), readOp("b", 3))
	g.all(t, deleteOp("b"), makeOp("b", 4), readOp("b", 1), readOp("c", 1), deleteOp("c"), deleteOp("b"), makeOp("a", 1))
	after := g.all(t, attachOp("b"), attachOp("b"), attachOp("c"), atEpoch(writeOp("b", 0, 3), 2), atEpoch(trimOp("b", 0), 3), atEpoch(resizeOp("b", 2), 1000), snapOp("b", "d"), attachOp("d"))
	for _, o := range []impl.Op{writeOp("b", 0, 3), atEpoch(trimOp("b", 0), 1), atEpoch(deleteOp("b"), 1), resizeOp("b", 4), deleteOp("c"), deleteOp("d")} {
		if _, r := after.both(t, o); r.Code != impl.RpFenced {
			t.Fatalf("%v: %v", o, r)
		}
	}
}

func emptySheets(names ...string) handPlains {
	h := handPlains{}
	for _, name := range names {
		h[name] = sheetOf(3)
	}
	return h
}

func TestNoneFiveSixAndSevenPlains(t *testing.T) {
	checkPlainsOk(t, nil, true)
	for count := range 9 {
		h := emptySheets(shelfNames[:count]...)
		list := h.plains()
		checkPlainsOk(t, list, count <= 6)
		for _, o := range append(oneOfEach(), makeOp("q", 3), snapOp("a", "q"), cloneOp("a", "q"), deleteOp("a"), makeOp("a", 3)) {
			if count > 6 {
				checkDidPlain(t, list, o, 0, nil, impl.Reply{Code: impl.RpBad})
				continue
			}
			_, _, r := plainStep(t, list, h, o, 0)
			if o.Name == "q" || o.Other == "q" && o.Name == "a" {
				want := int64(impl.RpOk)
				if count == 0 && o.Kind != impl.OpMake {
					want = impl.RpNone
				} else if count == 6 {
					want = impl.RpMany
				}
				if r.Code != want {
					t.Fatalf("%v with %d Plains: %v", o, count, r)
				}
			}
		}
	}
	checkPlainsOk(t, slices.Repeat([]impl.Plain{plainOf("a", 1)}, 70000), false)
}

// One comes and goes at the head of the row, in its midst and at its end.
func TestPlainNamesInTheRow(t *testing.T) {
	names := []string{"a", "az", "b", "ba", "c", "cccc"}
	for i, name := range names {
		others := slices.Delete(slices.Clone(names), i, i+1)
		h := emptySheets(others...)
		h[others[0]], h[others[4]] = sheetOf(3, 1, 2, 3), sheetOf(2, 8, 9)
		for _, o := range []impl.Op{makeOp(name, 5), snapOp(others[0], name), cloneOp(others[0], name), snapOp(others[4], name), cloneOp(others[4], name)} {
			list, hand, r := plainStep(t, h.plains(), h, o, 0)
			if r.Code != impl.RpOk || list[i].Name != name || len(list) != 6 {
				t.Fatalf("%v: %v, %v", o, list, r)
			}
			checkPlainsOk(t, list, true)
			for _, o := range []impl.Op{attachOp(name), resizeOp(name, 2), writeOp(name, 1, 8), trimOp(name, 0), readOp(name, 0), deleteOp(name)} {
				after, _, _ := plainStep(t, list, hand, o, 0)
				checkPlainsOk(t, after, true)
			}
		}
	}
}

func TestSizesAndValuesOfPlains(t *testing.T) {
	for size := int64(-1); size <= 18; size++ {
		for length := int64(0); length <= 18; length++ {
			p := impl.Plain{Name: "b", Size: size, Values: make([]int64, length)}
			right := size == length && size >= 1 && size <= 16
			for _, list := range [][]impl.Plain{{p}, {plainOf("a", 4), p}, {p, plainOf("c", 4)}} {
				checkPlainsOk(t, list, right)
				if !right {
					checkDidPlain(t, list, readOp("b", 0), 0, nil, impl.Reply{Code: impl.RpBad})
				}
			}
		}
	}
	for _, size := range farNumbers {
		checkPlainsOk(t, []impl.Plain{{Name: "b", Size: size, Values: []int64{1, 2, 3}}}, false)
		checkPlainsOk(t, []impl.Plain{{Name: "b", Size: size}}, false)
	}
	for _, value := range slices.Concat([]int64{-1, 0, 1, 500, 998, 999, 1000, 1001, 1 << 16}, farNumbers, extremes) {
		for at := range 16 {
			p := plainOf("b", with(make([]int64, 16), at, value)...)
			checkPlainsOk(t, []impl.Plain{plainOf("a", 4), p}, value >= 0 && value <= 999)
		}
		checkPlainsOk(t, []impl.Plain{plainOf("b", value)}, value >= 0 && value <= 999)
	}
	for _, epoch := range slices.Concat([]int64{-1, 0, 1, 999, 1000, 1001}, farNumbers, extremes) {
		for _, fixed := range []bool{false, true} {
			checkPlainsOk(t, []impl.Plain{{Name: "b", Size: 1, Values: []int64{0}, Fixed: fixed, Epoch: epoch}}, epoch >= 0 && epoch <= 1000)
		}
	}
}

func TestWrittenValuesAtTheirLimits(t *testing.T) {
	h := handPlains{"a": sheetOf(1, 3), "b": sheetOf(16, 7)}
	for _, value := range []int64{-1, 0, 1, 998, 999, 1000, 1001, math.MinInt64, math.MaxInt64} {
		for _, o := range []impl.Op{writeOp("a", 0, value), writeOp("b", 0, value), writeOp("b", 15, value)} {
			list, _, r := plainStep(t, h.plains(), h, o, 0)
			if right := value >= 0 && value <= 999; (r.Code == impl.RpOk) != right || !right && r.Code != impl.RpBad {
				t.Fatalf("%v: %v, %v", o, list, r)
			}
		}
	}
	for _, size := range []int64{-1, 0, 1, 15, 16, 17} {
		for _, o := range []impl.Op{makeOp("c", size), resizeOp("a", size), resizeOp("b", size)} {
			if _, _, r := plainStep(t, h.plains(), h, o, 0); (r.Code == impl.RpBad) != (size < 1 || size > 16) {
				t.Fatalf("%v: %v", o, r)
			}
		}
	}
}

func TestPlainPlacesAgainstSizes(t *testing.T) {
	for _, size := range []int64{1, 2, 8, 15, 16} {
		h := handPlains{"b": sheetOf(size)}
		h, _ = h.did(writeOp("b", size-1, 55), 0)
		for _, at := range []int64{-1, 0, size - 1, size, size + 1, 14, 15, 16, 17, 254, 255, 256, math.MinInt64, math.MaxInt64} {
			for _, o := range []impl.Op{writeOp("b", at, 7), trimOp("b", at), readOp("b", at)} {
				_, _, r := plainStep(t, h.plains(), h, o, 0)
				if (r.Code == impl.RpRange) != (at >= size && at <= 255) || (r.Code == impl.RpBad) != (at < 0 || at > 255) {
					t.Fatalf("%v of Size %d: %v", o, size, r)
				}
			}
		}
	}
}

func TestPlainEpochsGoUpAndFence(t *testing.T) {
	for _, epoch := range []int64{0, 1, 500, 999, 1000} {
		for _, fixed := range []bool{false, true} {
			h := handPlains{"b": {size: 3, fixed: fixed, epoch: epoch}}
			wanted := impl.Reply{Value: epoch + 1}
			if epoch == 1000 {
				wanted = impl.Reply{Code: impl.RpWorn}
			}
			if _, _, r := plainStep(t, h.plains(), h, attachOp("b"), 0); r != wanted {
				t.Fatalf("OpAttach at %d: %v", epoch, r)
			}
			for _, o := range oneOfEach() {
				for _, asked := range toldValues(o.Kind, "e", 0, epoch-1, epoch, epoch+1, 1000) {
					_, _, r := plainStep(t, h.plains(), h, atEpoch(o, asked), 0)
					if (r.Code == impl.RpFenced) != (tellsOf(o.Kind, "e") && asked >= 0 && asked < epoch) {
						t.Fatalf("%v with Epoch %d at %d: %v", o, asked, epoch, r)
					}
				}
			}
		}
	}
}

// toldOtherwise are all but RpFull: of none of them RpFull is told.
func toldOtherwise() []int64 {
	list := []int64{0, 1, 2, 3, 4, 5, 6, 7, 8, 10, 11, -9, 9 + 256, 9 + 1<<16, 9 + 1<<32, 9 - 1<<32, math.MinInt64 + 9, math.MaxInt64 - 9}
	return append(list, slices.Concat(extremes, farNumbers)...)
}

func TestToldFull(t *testing.T) {
	h := handPlains{"a": sheetOf(2, 5, 6), "b": sheetOf(3, 7, 0, 9), "f": {size: 3, fixed: true}, "g": {size: 3, epoch: 5}}
	list := h.plains()
	for _, o := range []impl.Op{writeOp("b", 0, 7), writeOp("b", 0, 8), writeOp("b", 1, 0), writeOp("b", 2, 999), atEpoch(writeOp("a", 1, 1), 1000), atEpoch(writeOp("g", 0, 3), 5)} {
		checkDidPlain(t, list, o, impl.RpFull, list, impl.Reply{Code: impl.RpFull})
		for _, told := range toldOtherwise() {
			if _, _, r := plainStep(t, list, h, o, told); r != (impl.Reply{}) {
				t.Fatalf("%v told %d: %v", o, told, r)
			}
		}
	}
	for _, c := range []struct {
		o    impl.Op
		code int64
	}{
		{writeOp("b", 0, 1000), impl.RpBad}, {writeOp("B", 0, 1), impl.RpBad}, {writeOp("b", -1, 1), impl.RpBad},
		{writeOp("q", 0, 1), impl.RpNone}, {writeOp("g", 0, 1), impl.RpFenced}, {atEpoch(writeOp("g", 0, 1), 4), impl.RpFenced},
		{writeOp("f", 0, 1), impl.RpFixed}, {writeOp("b", 3, 1), impl.RpRange}, {writeOp("b", 255, 1), impl.RpRange},
	} {
		for _, told := range append(toldOtherwise(), impl.RpFull) {
			checkDidPlain(t, list, c.o, told, list, impl.Reply{Code: c.code})
		}
	}
	// Of each other Kind it is as if RpFull had not been told.
	others := slices.Concat(oneOfEach(), []impl.Op{{}, makeOp("q", 2), makeOp("q", 17), trimOp("f", 0), resizeOp("g", 1), readOp("b", 2), readOp("b", 3), deleteOp("q"), attachOp("f")})
	for _, o := range others {
		if o.Kind != impl.OpWrite {
			wanted, reply := h.did(o, 0)
			for _, told := range append(toldOtherwise(), impl.RpFull) {
				checkDidPlain(t, list, o, told, wanted.plains(), reply)
			}
		}
	}
}

func TestEachCodeOfPlainsByItself(t *testing.T) {
	h := emptySheets("a", "b")
	h["b"] = sheet{size: 3, epoch: 5}
	fixed, worn, six := h.with("b", sheet{size: 3, fixed: true}), h.with("b", sheet{size: 3, epoch: 1000}), emptySheets(shelfNames[:6]...)
	for _, c := range []struct {
		h    handPlains
		o    impl.Op
		told int64
		code int64
	}{
		{h, makeOp("q", 0), 0, impl.RpBad}, {h, impl.Op{Kind: impl.OpAttach, Name: "b", Value: 1}, 0, impl.RpBad}, {h, impl.Op{Kind: impl.OpRead, Name: "b", Epoch: 1}, 9, impl.RpBad},
		{h, writeOp("q", 0, 7), 0, impl.RpNone}, {h, trimOp("q", 0), 9, impl.RpNone}, {h, snapOp("q", "r"), 0, impl.RpNone}, {h, cloneOp("q", "r"), 0, impl.RpNone}, {h, deleteOp("q"), 0, impl.RpNone}, {h, resizeOp("q", 3), 0, impl.RpNone}, {h, attachOp("q"), 0, impl.RpNone}, {h, readOp("q", 0), 9, impl.RpNone},
		{h, makeOp("b", 3), 9, impl.RpThere}, {h, snapOp("b", "a"), 0, impl.RpThere}, {h, cloneOp("b", "a"), 0, impl.RpThere}, {h, snapOp("b", "b"), 0, impl.RpThere}, {h, cloneOp("b", "b"), 0, impl.RpThere},
		{h, atEpoch(writeOp("b", 0, 7), 4), 0, impl.RpFenced}, {h, atEpoch(trimOp("b", 0), 4), 0, impl.RpFenced}, {h, atEpoch(deleteOp("b"), 4), 0, impl.RpFenced}, {h, atEpoch(resizeOp("b", 3), 4), 0, impl.RpFenced},
		{fixed, writeOp("b", 0, 7), 0, impl.RpFixed}, {fixed, trimOp("b", 0), 0, impl.RpFixed}, {fixed, resizeOp("b", 3), 0, impl.RpFixed},
		{h, atEpoch(writeOp("b", 3, 7), 5), 0, impl.RpRange}, {h, atEpoch(trimOp("b", 3), 5), 0, impl.RpRange}, {h, readOp("b", 3), 0, impl.RpRange},
		{six, makeOp("q", 3), 0, impl.RpMany}, {six, snapOp("b", "q"), 0, impl.RpMany}, {six, cloneOp("b", "q"), 9, impl.RpMany},
		{worn, attachOp("b"), 0, impl.RpWorn},
		{h, atEpoch(writeOp("b", 1, 7), 5), 9, impl.RpFull}, {h, writeOp("a", 0, 7), 9, impl.RpFull},
	} {
		if codes := c.h.codes(c.o, c.told); !slices.Equal(codes, []int64{c.code}) {
			t.Fatalf("%v: of %v told %d the codes %v apply", c.h, c.o, c.told, codes)
		}
		checkDidPlain(t, c.h.plains(), c.o, c.told, c.h.plains(), impl.Reply{Code: c.code})
	}
}

// Where several codes apply the one named first is told; all pairs that can be are among them.
func TestTheCodeOfPlainsNamedFirst(t *testing.T) {
	seen := map[[2]int64]bool{}
	for _, shelf := range manyShelves() {
		h := shelf.shown()
		list := h.plains()
		checkPlainsOk(t, list, true)
		for _, o := range manyOps() {
			for _, told := range []int64{0, impl.RpFull} {
				codes := h.codes(o, told)
				for i, a := range codes {
					for _, b := range codes[i+1:] {
						seen[[2]int64{a, b}] = true
					}
				}
				_, _, r := plainStep(t, list, h, o, told)
				if len(codes) > 0 && r != (impl.Reply{Code: codes[0]}) {
					t.Fatalf("%v: of %v the codes %v apply, and %v is told", list, o, codes, r)
				}
			}
		}
	}
	for _, pair := range [][2]int64{{1, 2}, {1, 3}, {1, 4}, {1, 5}, {1, 6}, {1, 7}, {1, 8}, {1, 9}, {2, 3}, {2, 7}, {2, 9}, {3, 7}, {4, 5}, {4, 6}, {4, 9}, {5, 6}, {5, 9}, {6, 9}} {
		if !seen[pair] {
			t.Errorf("the codes %v have not applied at once", pair)
		}
	}
}

func TestWrongOpsOfPlains(t *testing.T) {
	h := handPlains{"ab": sheetOf(5, 7), "m": {size: 5, fixed: true}}
	for _, o := range append(typicalOps(), impl.Op{}) {
		for _, told := range []int64{0, impl.RpFull} {
			for _, wrong := range wrongByOneFieldOrNone(o) {
				checkDidPlain(t, h.plains(), wrong, told, h.plains(), impl.Reply{Code: impl.RpBad})
			}
		}
	}
}

// wrongByOneFieldOrNone is of an op that may be the zero one, which is wrong already.
func wrongByOneFieldOrNone(o impl.Op) []impl.Op {
	if o == (impl.Op{}) {
		return []impl.Op{o}
	}
	return wrongByOneField(o)
}

// wrongPlains are wrong in one way each: the name says in which.
func wrongPlains() map[string][]impl.Plain {
	lists := map[string][]impl.Plain{"a zero one": {{}}}
	put := func(name string, change func([]impl.Plain) []impl.Plain) {
		lists[name] = change([]impl.Plain{plainOf("b", 11, 0, 12), {Name: "d", Size: 5, Values: []int64{11, 0, 0, 999, 0}, Fixed: true, Epoch: 3}, plainOf("zz", 5)})
	}
	at := func(i int, change func(*impl.Plain)) func([]impl.Plain) []impl.Plain {
		return func(list []impl.Plain) []impl.Plain {
			change(&list[i])
			return list
		}
	}
	for i, where := range []string{"first ", "middle ", "last "} {
		put(where+"no Name", at(i, func(p *impl.Plain) { p.Name = "" }))
		put(where+"a long Name", at(i, func(p *impl.Plain) { p.Name += "zzzz" }))
		put(where+"a Name with a blank", at(i, func(p *impl.Plain) { p.Name += " " }))
		put(where+"a Size of 0", at(i, func(p *impl.Plain) { p.Size, p.Values = 0, nil }))
		put(where+"a Size of 17", at(i, func(p *impl.Plain) { p.Size, p.Values = 17, make([]int64, 17) }))
		put(where+"a Size more", at(i, func(p *impl.Plain) { p.Size++ }))
		put(where+"a Size less", at(i, func(p *impl.Plain) { p.Size-- }))
		put(where+"a Value more", at(i, func(p *impl.Plain) { p.Values = append(p.Values, 0) }))
		put(where+"a Value less", at(i, func(p *impl.Plain) { p.Values = p.Values[:len(p.Values)-1] }))
		put(where+"no Values", at(i, func(p *impl.Plain) { p.Values = nil }))
		put(where+"the first Value below 0", at(i, func(p *impl.Plain) { p.Values[0] = -1 }))
		put(where+"the last Value below 0", at(i, func(p *impl.Plain) { p.Values[p.Size-1] = -1 }))
		put(where+"the first Value above 999", at(i, func(p *impl.Plain) { p.Values[0] = 1000 }))
		put(where+"the last Value above 999", at(i, func(p *impl.Plain) { p.Values[p.Size-1] = 1000 }))
		put(where+"a very great Value", at(i, func(p *impl.Plain) { p.Values[0] = math.MaxInt64 }))
		put(where+"an Epoch below 0", at(i, func(p *impl.Plain) { p.Epoch = -1 }))
		put(where+"an Epoch above 1000", at(i, func(p *impl.Plain) { p.Epoch = 1001 }))
		put(where+"twice", func(list []impl.Plain) []impl.Plain { return slices.Insert(list, i, list[i]) })
	}
	put("Names that fall", func(list []impl.Plain) []impl.Plain { slices.Reverse(list); return list })
	put("the first Name falls", func(list []impl.Plain) []impl.Plain { list[0].Name = "e"; return list })
	put("the last Name falls", func(list []impl.Plain) []impl.Plain { list[2].Name = "c"; return list })
	put("the last Name is the first", func(list []impl.Plain) []impl.Plain { list[2].Name = "b"; return list })
	put("a Name behind the one that it begins", func(list []impl.Plain) []impl.Plain { return append(list, plainOf("z", 1)) })
	put("seven", func(list []impl.Plain) []impl.Plain {
		return append(list, plainOf("zza", 1), plainOf("zzb", 1), plainOf("zzc", 1), plainOf("zzd", 1))
	})
	put("seven hundred", func(list []impl.Plain) []impl.Plain { return slices.Repeat(list, 700) })
	return lists
}

func TestWrongPlains(t *testing.T) {
	ops := slices.Concat(oneOfEach(), []impl.Op{{}, makeOp("q", 3), makeOp("q", 17), readOp("d", 3), readOp("d", 4), deleteOp("zz"), atEpoch(deleteOp("d"), 3), resizeOp("zz", 16), writeOp("zz", 0, 6)})
	for name, list := range wrongPlains() {
		if handPlainsRight(list) {
			t.Errorf("%s: %v is right", name, list)
			continue
		}
		checkPlainsOk(t, list, false)
		for _, o := range ops {
			for _, told := range []int64{0, impl.RpFull, math.MinInt64} {
				checkDidPlain(t, list, o, told, nil, impl.Reply{Code: impl.RpBad})
			}
		}
		checkSame(t, list, list, true)
	}
	for _, name := range wrongNames() {
		checkPlainsOk(t, []impl.Plain{plainOf(name, 1)}, false)
		checkDidPlain(t, []impl.Plain{plainOf(name, 1)}, readOp("b", 0), 0, nil, impl.Reply{Code: impl.RpBad})
	}
	for _, name := range bookNames {
		checkPlainsOk(t, []impl.Plain{plainOf(name, 1)}, true)
	}
}

func TestWrongShelvesShowNothing(t *testing.T) {
	for name, s := range wrongShelves() {
		if handShelfRight(s) {
			t.Errorf("%s: %v is right", name, s)
			continue
		}
		checkShown(t, s, nil)
	}
	for _, p := range append(wrongCells(), wrongLengths()...) {
		checkShown(t, impl.Shelf{Pool: p}, nil)
	}
	for _, b := range wrongBooks() {
		checkShown(t, impl.Shelf{Pool: poolOf(make([]int64, 24), make([]int64, 24)), Books: []impl.Book{b}}, nil)
	}
}

// otherPlains are this list with one field of one Plain changed, with one less, and with one more.
func otherPlains(list []impl.Plain) [][]impl.Plain {
	lists := [][]impl.Plain{append(clonePlains(list), plainOf("zzzz", 1)), append(clonePlains(list), impl.Plain{}), slices.Concat([]impl.Plain{{}}, list)}
	put := func(i int, change func(*impl.Plain)) {
		other := clonePlains(list)
		change(&other[i])
		lists = append(lists, other)
	}
	for i, p := range list {
		lists = append(lists, slices.Delete(clonePlains(list), i, i+1), slices.Insert(clonePlains(list), i, p))
		for _, name := range []string{p.Name + "a", "A" + p.Name, strings.Repeat("q", len(p.Name)+1), strings.Repeat("q", max(len(p.Name), 1))} {
			put(i, func(p *impl.Plain) { p.Name = name })
		}
		put(i, func(p *impl.Plain) { p.Fixed = !p.Fixed })
		put(i, func(p *impl.Plain) { p.Values = append(p.Values, 0) })
		put(i, func(p *impl.Plain) { p.Values = append(p.Values, 0); p.Size++ })
		put(i, func(p *impl.Plain) { p.Values = slices.Concat([]int64{0}, p.Values) })
		for _, by := range []int64{-1, 1, 256, 1 << 32, math.MinInt64} {
			put(i, func(p *impl.Plain) { p.Size += by })
			put(i, func(p *impl.Plain) { p.Epoch += by })
			for at := range p.Values {
				put(i, func(p *impl.Plain) { p.Values[at] += by })
			}
		}
		for at := range p.Values {
			put(i, func(p *impl.Plain) { p.Values = slices.Delete(p.Values, at, at+1) })
		}
	}
	return lists
}

func TestPlainsThatDifferInOneField(t *testing.T) {
	six := []impl.Plain{}
	for i, name := range shelfNames[:6] {
		p := plainOf(name, make([]int64, 1+3*i)...)
		fill(p.Values, int64(100*i+7))
		p.Fixed, p.Epoch = i%2 == 1, int64(i)*200
		six = append(six, p)
	}
	for _, list := range [][]impl.Plain{nil, six[:1], six[:2], six[1:4], six, {plainOf("a")}, {plainOf("a", 0)}, {{}, {}}} {
		checkSame(t, list, clonePlains(list), true)
		for _, other := range otherPlains(list) {
			checkSame(t, list, other, false)
			checkSame(t, other, clonePlains(other), true)
		}
	}
	checkSame(t, six[:2], []impl.Plain{six[1], six[0]}, false)
}

// Wrong ones may have any number of Values; each of them counts.
func TestPlainsOfManyValues(t *testing.T) {
	for _, length := range []int{15, 16, 17, 31, 32, 33, 48, 100} {
		p := plainOf("b", make([]int64, length)...)
		for i := range p.Values {
			p.Values[i] = int64(i * i)
		}
		list := []impl.Plain{p}
		checkSame(t, list, clonePlains(list), true)
		for at := range length {
			turned, short := clonePlains(list), clonePlains(list)
			turned[0].Values[at] = -5
			short[0].Values = short[0].Values[:at]
			checkSame(t, list, turned, false)
			checkSame(t, list, short, false)
		}
	}
	zeroes := func(length int) []impl.Plain { return []impl.Plain{{Name: "b", Values: make([]int64, length)}} }
	for a := range 50 {
		for b := range 50 {
			checkSame(t, zeroes(a), zeroes(b), a == b)
		}
	}
}

func TestEmptyAndNilPlainsAreTheSame(t *testing.T) {
	checkSame(t, nil, []impl.Plain{}, true)
	checkSame(t, []impl.Plain{{Values: nil}}, []impl.Plain{{Values: []int64{}}}, true)
	checkSame(t, nil, []impl.Plain{{}}, false)
	for _, list := range [][]impl.Plain{nil, {}} {
		checkPlainsOk(t, list, true)
		checkDidPlain(t, list, makeOp("a", 1), 0, []impl.Plain{plainOf("a", 0)}, impl.Reply{})
		checkDidPlain(t, list, readOp("a", 1), 0, nil, impl.Reply{Code: impl.RpNone})
		checkDidPlain(t, list, makeOp("a", 0), 0, nil, impl.Reply{Code: impl.RpBad})
	}
	checkDidPlain(t, []impl.Plain{plainOf("a", 5)}, deleteOp("a"), 0, nil, impl.Reply{})
}

// Several may have one list as their Values; in the answer each has its own.
func TestPlainsOverOneMemory(t *testing.T) {
	memory := []int64{1, 2, 3, 77}
	list := []impl.Plain{plainOf("a", memory[:3]...), plainOf("b", memory[:3]...), plainOf("c", memory[:2]...)}
	for _, o := range []impl.Op{writeOp("a", 1, 9), trimOp("b", 0), resizeOp("c", 4), cloneOp("c", "d"), snapOp("a", "d"), deleteOp("b"), readOp("c", 1), attachOp("b"), writeOp("q", 0, 1), {}} {
		h := handPlains{"a": sheetOf(3, 1, 2, 3), "b": sheetOf(3, 1, 2, 3), "c": sheetOf(2, 1, 2)}
		wanted, reply := h.did(o, 0)
		got, r := impl.DidPlain(list, o, 0)
		if !sameSheets(got, wanted.plains()) || r != reply || !slices.Equal(memory, []int64{1, 2, 3, 77}) {
			t.Fatalf("DidPlain(%v, %v, 0) is %v, %v; the memory is %v", list, o, got, r, memory)
		}
		checkPlainsApart(t, "DidPlain", got, append(spansOfPlains(list), spanOf(memory)))
	}
	if !impl.SamePlains(list, list) || !impl.SamePlains(list[:2], list[:2]) || impl.SamePlains(list[:2], list[1:]) {
		t.Fatal("a list is not the same as itself, or is as another one")
	}
}

// spoilPlains changes one thing of a list that is not empty.
func spoilPlains(next func(int64) int64, list []impl.Plain, numbers []int64, names []string) []impl.Plain {
	p := &list[next(int64(len(list)))]
	switch next(7) {
	case 0:
		p.Name = pickOf(next, names)
	case 1:
		p.Size = pickOf(next, numbers)
	case 2:
		p.Epoch = pickOf(next, numbers)
	case 3:
		p.Values[next(int64(len(p.Values)))] = pickOf(next, numbers)
	case 4:
		p.Values = p.Values[:next(int64(len(p.Values)))]
	case 5:
		p.Values = append(p.Values, make([]int64, next(40))...)
	case 6:
		list = append(list, *p)
	}
	return list
}

// Lists and Ops without any order, but the same in each run, mostly near to right ones.
func TestPlainsAnswerAtEveryArgument(t *testing.T) {
	next := picked(99)
	numbers := slices.Concat(extremes, farNumbers, []int64{9, 10, 16, 17, 999, 1000, 1001})
	names := slices.Concat(shelfNames, wrongNames())
	rights := 0
	for range 60 {
		h := newHandShelf(1 + next(24))
		for range 60 {
			h, _ = h.did(likelyOp(next, h))
			hand, o, told := h.shown(), likelyOp(next, h), pickOf(next, numbers)
			list := hand.plains()
			checkSame(t, list, hand.plains(), true)
			if len(list) > 0 && next(2) == 0 {
				list = spoilPlains(next, list, numbers, names)
			}
			if next(4) == 0 {
				o = pickOf(next, []impl.Op{{Kind: pickOf(next, numbers), Name: o.Name}, {Kind: o.Kind, Name: pickOf(next, names), At: o.At, Value: o.Value}, {Kind: o.Kind, Name: o.Name, Other: o.Other, At: pickOf(next, numbers), Value: pickOf(next, numbers), Epoch: pickOf(next, numbers)}})
			}
			checkSame(t, list, hand.plains(), sameSheets(list, hand.plains()))
			right := handPlainsRight(list)
			checkPlainsOk(t, list, right)
			if !right {
				checkDidPlain(t, list, o, told, nil, impl.Reply{Code: impl.RpBad})
				continue
			}
			rights++
			after, _ := impl.DidPlain(list, o, told)
			checkPlainsOk(t, after, true)
			if sameSheets(list, hand.plains()) {
				plainStep(t, list, hand, o, told)
			}
		}
	}
	if rights < 1000 || rights > 3000 {
		t.Fatalf("%d lists of 3600 were right", rights)
	}
}
