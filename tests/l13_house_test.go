package tests

import (
	"fmt"
	"slices"
	"strings"
	"testing"

	"loop.example/g00372/impl"
)

// handHouse is an Up one, whose shelf and memo were worked out by hand, entry by entry.
type handHouse struct {
	pages int64
	log   []impl.Entry
	shelf handShelf
	memo  handMemo
}

func newHandHouse(pages int64) handHouse {
	return handHouse{pages: pages, shelf: newHandShelf(pages), memo: handMemo{}}
}

// grown does not ask whether the log stays one.
func (h handHouse) grown(e impl.Entry) (handHouse, impl.Reply) {
	shelf, r := h.shelf.did(e.Op)
	memo, _ := h.memo.noted(e.Client, e.Tag, r)
	return handHouse{h.pages, append(slices.Clip(h.log), e), shelf, memo}, r
}

func (h handHouse) applied(e impl.Entry) (handHouse, impl.Reply, bool) {
	if !handLog(append(slices.Clip(h.log), e)) {
		return h, impl.Reply{}, false
	}
	next, r := h.grown(e)
	return next, r, true
}

func (h handHouse) house(acked int64) impl.House {
	return impl.House{Up: true, Pages: h.pages, Log: slices.Clone(h.log), Acked: acked, Shelf: h.shelf.shelf(), Memo: h.memo.memo()}
}

func handReplayed(pages int64, log []impl.Entry) (handHouse, bool) {
	if pages < 1 || pages > 24 || !handLog(log) {
		return handHouse{}, false
	}
	h := newHandHouse(pages)
	for _, e := range log {
		h, _ = h.grown(e)
	}
	return h, true
}

// handHouseOf tells as well whether the House is right; what it gives of one that is not Up is of no use.
func handHouseOf(h impl.House) (handHouse, bool) {
	if !h.Up {
		return handHouse{}, sameHouse(h, impl.House{})
	}
	hand, is := handReplayed(h.Pages, h.Log)
	if !is || h.Acked < 0 || h.Acked > int64(len(h.Log)) {
		return handHouse{}, false
	}
	return hand, sameHouse(h, hand.house(h.Acked))
}

func sameHouse(a impl.House, b impl.House) bool {
	return a.Up == b.Up && a.Pages == b.Pages && a.Acked == b.Acked && slices.Equal(a.Log, b.Log) && sameShelf(a.Shelf, b.Shelf) && sameMemo(a.Memo, b.Memo)
}

func cloneHouse(h impl.House) impl.House {
	h.Log, h.Shelf, h.Memo = slices.Clone(h.Log), cloneShelf(h.Shelf), cloneMemo(h.Memo)
	return h
}

// laidHouse is a House and all memory that it lies in.
type laidHouse struct {
	house impl.House
	log   []impl.Entry
	shelf laidShelf
	memo  impl.Memo
}

func (l laidHouse) kept() laidHouse {
	return laidHouse{cloneHouse(l.house), slices.Clone(l.log), l.shelf.kept(), cloneMemo(l.memo)}
}

func (l laidHouse) is(kept laidHouse) bool {
	return slices.Equal(l.log, kept.log) && l.shelf.is(kept.shelf) && sameMemo(l.memo, kept.memo)
}

// spans are of all memory that was handed in, with the room around the lists.
func (l laidHouse) spans() []span {
	spans := append(spansOfHouse(l.house), spanOf(l.log), spanOf(l.memo.Tags), spanOf(l.memo.Replies), spanOf(l.shelf.books))
	for _, numbers := range l.shelf.numbers {
		spans = append(spans, spanOf(numbers))
	}
	for _, runs := range l.shelf.runs {
		spans = append(spans, spanOf(runs))
	}
	return spans
}

// layHouse lays one House in memory in several ways.
func layHouse(h impl.House) []laidHouse {
	logs, shelves, memos := layEntries(h.Log), layShelf(h.Shelf), layMemo(h.Memo)
	laid := []laidHouse{}
	for i := range max(len(logs), len(shelves), len(memos)) {
		log, shelf, memo := logs[i%len(logs)], shelves[i%len(shelves)], memos[i%len(memos)]
		house := h
		house.Log, house.Shelf, house.Memo = log.list, shelf.shelf, memo.memo
		laid = append(laid, laidHouse{house, log.memory, shelf, memo.memory})
	}
	return laid
}

func spansOfEntry(e impl.Entry) []span {
	return []span{spanOfText(e.Op.Name), spanOfText(e.Op.Other)}
}

func spansOfLog(log []impl.Entry) []span {
	spans := []span{spanOf(log)}
	for _, e := range log {
		spans = append(spans, spansOfEntry(e)...)
	}
	return spans
}

func spansOfMemo(m impl.Memo) []span {
	return []span{spanOf(m.Tags), spanOf(m.Replies)}
}

func spansOfHouse(h impl.House) []span {
	return slices.Concat(spansOfLog(h.Log), spansOf(h.Shelf), spansOfMemo(h.Memo))
}

// checkSpansApart sorts what is answered: where no two neighbours meet no two do, and one look is enough for each piece that was handed in.
func checkSpansApart(t *testing.T, what string, answer []span, given []span) {
	t.Helper()
	answer = slices.DeleteFunc(answer, func(s span) bool { return s.from == s.to })
	slices.SortFunc(answer, func(a span, b span) int {
		if a.from < b.from {
			return -1
		}
		return 1
	})
	for i := 1; i < len(answer); i++ {
		if answer[i-1].meets(answer[i]) {
			t.Fatalf("%s: two lists of one answer share memory", what)
		}
	}
	for _, one := range given {
		at, _ := slices.BinarySearchFunc(answer, one.from, func(s span, from uintptr) int {
			if s.to <= from {
				return -1
			}
			return 1
		})
		if at < len(answer) && answer[at].meets(one) {
			t.Fatalf("%s: what is answered shares memory with what was handed in", what)
		}
	}
}

func checkHouseOk(t *testing.T, h impl.House, right bool) {
	t.Helper()
	for _, given := range layHouse(h) {
		kept := given.kept()
		if impl.HouseOk(given.house) != right {
			t.Fatalf("HouseOk(%v) is %v", h, !right)
		}
		if !given.is(kept) {
			t.Fatalf("HouseOk(%v): the memory handed in became %v; it was %v", h, given, kept)
		}
	}
}

func checkCopied(t *testing.T, h impl.House, want impl.House) {
	t.Helper()
	want = cloneHouse(want)
	for _, given := range layHouse(h) {
		kept := given.kept()
		got := impl.Copied(given.house)
		if !given.is(kept) {
			t.Fatalf("Copied(%v): the memory handed in became %v; it was %v", h, given, kept)
		}
		if !sameHouse(got, want) {
			t.Fatalf("Copied(%v) is %v; wanted %v", h, got, want)
		}
		checkSpansApart(t, "Copied", spansOfHouse(got), given.spans())
	}
}

func checkAppliedIs(t *testing.T, h impl.House, e impl.Entry, want impl.House, reply impl.Reply, is bool) {
	t.Helper()
	want = cloneHouse(want)
	for _, given := range layHouse(h) {
		kept := given.kept()
		got, told, done := impl.Applied(given.house, e)
		if !given.is(kept) {
			t.Fatalf("Applied(%v, %v): the memory handed in became %v; it was %v", h, e, given, kept)
		}
		if !sameHouse(got, want) || told != reply || done != is {
			t.Fatalf("Applied(%v, %v) is %v, %v, %v; wanted %v, %v, %v", h, e, got, told, done, want, reply, is)
		}
		checkSpansApart(t, "Applied", spansOfHouse(got), append(given.spans(), spansOfEntry(e)...))
	}
}

// checkLooksOfHouse holds what a House is by itself against what was worked out by hand.
func checkLooksOfHouse(t *testing.T, h impl.House, right bool) {
	t.Helper()
	if _, is := handHouseOf(h); is != right {
		t.Fatalf("the test itself takes %v for %v", h, is)
	}
	checkHouseOk(t, h, right)
	want := impl.House{}
	if right && h.Up {
		want = h
		want.Acked = int64(len(h.Log))
	}
	checkCopied(t, h, want)
}

// checkApplied holds any Entry Applied to any House, right or not, against what was worked out by hand.
func checkApplied(t *testing.T, h impl.House, e impl.Entry) bool {
	t.Helper()
	hand, right := handHouseOf(h)
	if !right {
		checkAppliedIs(t, h, e, impl.House{}, impl.Reply{}, false)
		return false
	}
	if !h.Up {
		checkAppliedIs(t, h, e, h, impl.Reply{}, false)
		return false
	}
	next, r, is := hand.applied(e)
	checkAppliedIs(t, h, e, next.house(h.Acked), r, is)
	return is
}

// checkReplayed holds any pages and any list against what was worked out by hand.
func checkReplayed(t *testing.T, pages int64, log []impl.Entry) {
	t.Helper()
	hand, right := handReplayed(pages, log)
	shelf, memo := impl.Shelf{}, impl.Memo{}
	if right {
		shelf, memo = hand.shelf.shelf(), hand.memo.memo()
	}
	for _, given := range layEntries(log) {
		kept := slices.Clone(given.memory)
		s, m, is := impl.Replayed(pages, given.list)
		if !slices.Equal(given.memory, kept) {
			t.Fatalf("Replayed(%d, %v): the memory handed in became %v; it was %v", pages, log, given.memory, kept)
		}
		if !sameShelf(s, shelf) || !sameMemo(m, memo) || is != right {
			t.Fatalf("Replayed(%d, %v) is %v, %v, %v; wanted %v, %v, %v", pages, log, s, m, is, shelf, memo, right)
		}
		checkSpansApart(t, "Replayed", append(spansOf(s), spansOfMemo(m)...), append(spansOfLog(given.list), spanOf(given.memory)))
	}
}

func replayedHouse(t *testing.T, pages int64, log []impl.Entry, acked int64) impl.House {
	t.Helper()
	hand, right := handReplayed(pages, log)
	if !right {
		t.Fatalf("the test itself takes %v for no log", log)
	}
	return hand.house(acked)
}

// entriesFrom are of all four Clients in turn, with these Ops.
func entriesFrom(ops ...impl.Op) []impl.Entry {
	list := []impl.Entry{}
	for i, o := range ops {
		list = append(list, impl.Entry{Seq: int64(i + 1), Client: int64(i*3) % 4, Tag: int64(i/4)*2 + 1, Op: o})
	}
	return list
}

// busyOps are of every Kind that Changes; some of them are refused by a shelf of four pages.
func busyOps() []impl.Op {
	return []impl.Op{
		makeOp("b", 5), writeOp("b", 0, 11), writeOp("b", 1, 12), writeOp("b", 4, 13),
		snapOp("b", "c"), makeOp("b", 2), cloneOp("b", "a"), attachOp("b"),
		writeOp("b", 0, 14), atEpoch(writeOp("b", 0, 15), 1), writeOp("c", 0, 1), writeOp("a", 0, 16),
		atEpoch(writeOp("a", 1, 17), 9), trimOp("a", 4), resizeOp("a", 2), writeOp("a", 2, 1),
		deleteOp("none"), makeOp("d", 16), deleteOp("d"), attachOp("b"),
	}
}

// rightHouses are Up, with logs of many lengths; their Shelves are empty, half full and full.
func rightHouses(t *testing.T) []impl.House {
	t.Helper()
	list := []impl.House{}
	for _, pages := range []int64{1, 2, 4, 24} {
		list = append(list, replayedHouse(t, pages, nil, 0))
		for _, count := range []int{1, 2, 7, len(busyOps())} {
			list = append(list, replayedHouse(t, pages, entriesFrom(busyOps()[:count]...), int64(count/2)))
		}
	}
	return append(list,
		replayedHouse(t, 3, entriesLong(37), 37),
		replayedHouse(t, 5, oneClientLong(20, 2, 1000), 19),
		replayedHouse(t, 24, entriesLong(119), 0),
		replayedHouse(t, 2, entriesLong(120), 120))
}

// nextOf goes on from the House: its Seq is the next one, and its Tag is above all others of that Client.
func nextOf(h impl.House, client int64, o impl.Op) impl.Entry {
	tag := int64(1)
	for _, e := range h.Log {
		if e.Client == client {
			tag = e.Tag + 1
		}
	}
	return impl.Entry{Seq: int64(len(h.Log) + 1), Client: client, Tag: tag, Op: o}
}

func TestHousesWorkedByHand(t *testing.T) {
	h, is := impl.NewHouse(2)
	fresh := impl.House{Up: true, Pages: 2, Shelf: impl.Shelf{Pool: poolOf([]int64{0, 0}, []int64{0, 0})}, Memo: memoOf(make([]int64, 4), make([]impl.Reply, 4)...)}
	if !is || !sameHouse(h, fresh) {
		t.Fatal(h, is)
	}
	first := impl.Entry{Seq: 1, Client: 3, Tag: 9, Op: makeOp("ab", 2)}
	second := impl.Entry{Seq: 2, Client: 0, Tag: 1, Op: writeOp("ab", 1, 7)}
	third := impl.Entry{Seq: 3, Client: 3, Tag: 10, Op: writeOp("ab", 2, 8)}
	fourth := impl.Entry{Seq: 4, Client: 0, Tag: 1000, Op: attachOp("ab")}
	for _, c := range []struct {
		e     impl.Entry
		reply impl.Reply
		want  impl.House
	}{
		{first, impl.Reply{}, impl.House{Up: true, Pages: 2, Log: []impl.Entry{first},
			Shelf: impl.Shelf{Pool: poolOf([]int64{0, 0}, []int64{0, 0}), Books: []impl.Book{bookOf("ab", 2)}},
			Memo:  memoOf([]int64{0, 0, 0, 9}, impl.Reply{}, impl.Reply{}, impl.Reply{}, impl.Reply{})}},
		{second, impl.Reply{}, impl.House{Up: true, Pages: 2, Log: []impl.Entry{first, second},
			Shelf: impl.Shelf{Pool: poolOf([]int64{1, 0}, []int64{7, 0}), Books: []impl.Book{bookOf("ab", 2, run(1, 1, 0))}},
			Memo:  memoOf([]int64{1, 0, 0, 9}, impl.Reply{}, impl.Reply{}, impl.Reply{}, impl.Reply{})}},
		{third, impl.Reply{Code: impl.RpRange}, impl.House{Up: true, Pages: 2, Log: []impl.Entry{first, second, third},
			Shelf: impl.Shelf{Pool: poolOf([]int64{1, 0}, []int64{7, 0}), Books: []impl.Book{bookOf("ab", 2, run(1, 1, 0))}},
			Memo:  memoOf([]int64{1, 0, 0, 10}, impl.Reply{}, impl.Reply{}, impl.Reply{}, impl.Reply{Code: impl.RpRange})}},
		{fourth, impl.Reply{Value: 1}, impl.House{Up: true, Pages: 2, Log: []impl.Entry{first, second, third, fourth},
			Shelf: impl.Shelf{Pool: poolOf([]int64{1, 0}, []int64{7, 0}), Books: []impl.Book{{Name: "ab", Size: 2, Map: []impl.Run{run(1, 1, 0)}, Epoch: 1}}},
			Memo:  memoOf([]int64{1000, 0, 0, 10}, impl.Reply{Value: 1}, impl.Reply{}, impl.Reply{}, impl.Reply{Code: impl.RpRange})}},
	} {
		checkAppliedIs(t, h, c.e, c.want, c.reply, true)
		h, _, _ = impl.Applied(h, c.e)
		checkLooksOfHouse(t, h, true)
	}
	// Client 0 has told its last Tag: it can do nothing any more, the others can.
	for tag := int64(0); tag <= 1001; tag++ {
		checkAppliedIs(t, h, impl.Entry{Seq: 5, Client: 0, Tag: tag, Op: attachOp("ab")}, h, impl.Reply{}, false)
	}
	checkApplied(t, h, impl.Entry{Seq: 5, Client: 1, Tag: 1, Op: attachOp("ab")})
	copied := h
	copied.Acked = 4
	checkCopied(t, h, copied)
}

func TestNewHouses(t *testing.T) {
	for pages := int64(1); pages <= 24; pages++ {
		h, is := impl.NewHouse(pages)
		if !is || !sameHouse(h, newHandHouse(pages).house(0)) || len(h.Log) != 0 || !h.Up || h.Acked != 0 {
			t.Fatalf("NewHouse(%d) is %v, %v", pages, h, is)
		}
		checkLooksOfHouse(t, h, true)
		checkReplayed(t, pages, nil)
		checkReplayed(t, pages, []impl.Entry{})
		// What is written into one is not in the next one, nor in one that is there already.
		other, _ := impl.NewHouse(pages)
		checkSpansApart(t, "NewHouse", spansOfHouse(h), spansOfHouse(other))
		overwriteHouse(h)
		if again, _ := impl.NewHouse(pages); !sameHouse(again, newHandHouse(pages).house(0)) || !sameHouse(other, again) {
			t.Fatal(other, again)
		}
	}
}

func TestPagesOutOfRange(t *testing.T) {
	list := slices.Concat(extremes, farNumbers, wrongNumbers)
	for pages := int64(-300); pages <= 300; pages++ {
		list = append(list, pages)
	}
	log := entriesFrom(busyOps()...)
	for _, pages := range list {
		right := pages >= 1 && pages <= 24
		h, is := impl.NewHouse(pages)
		if is != right || !right && !sameHouse(h, impl.House{}) {
			t.Fatalf("NewHouse(%d) is %v, %v", pages, h, is)
		}
		checkReplayed(t, pages, nil)
		checkReplayed(t, pages, log)
		if right {
			continue
		}
		for _, h := range []impl.House{newHandHouse(4).house(0), replayedHouse(t, 4, log, 3)} {
			h.Pages = pages
			checkLooksOfHouse(t, h, false)
			checkApplied(t, h, nextOf(h, 1, attachOp("b")))
		}
		checkLooksOfHouse(t, impl.House{Up: true, Pages: pages}, false)
	}
}

// toldBy counts what the Entries of a test were of, and what was told of them.
type toldBy struct {
	kinds [10]int
	codes [10]int
}

// checkStep Applies the next Entry to both, and asks one by one for all that must hold of what is answered.
func checkStep(t *testing.T, h impl.House, hand handHouse, e impl.Entry, told *toldBy) (impl.House, handHouse) {
	t.Helper()
	wanted, reply, _ := hand.applied(e)
	checkAppliedIs(t, h, e, wanted.house(h.Acked), reply, true)
	next, r, is := impl.Applied(h, e)
	if !is || !impl.HouseOk(next) {
		t.Fatalf("Applied(%v, %v) is %v, %v, %v, which is not right", h, e, next, r, is)
	}
	if !slices.Equal(next.Log, append(slices.Clip(h.Log), e)) || next.Acked != h.Acked || next.Pages != h.Pages || !next.Up {
		t.Fatalf("Applied(%v, %v) is %v", h, e, next)
	}
	s, m, fine := impl.Replayed(h.Pages, next.Log)
	if !fine || !sameShelf(s, next.Shelf) || !sameMemo(m, next.Memo) {
		t.Fatalf("Applied(%v, %v) is %v; its Log comes to %v, %v, %v", h, e, next, s, m, fine)
	}
	if _, did := impl.Did(h.Shelf, e.Op); r != did || r != next.Memo.Replies[e.Client] || e.Tag != next.Memo.Tags[e.Client] {
		t.Fatalf("Applied(%v, %v) tells %v; Did tells %v, and its Memo is %v", h, e, r, did, next.Memo)
	}
	told.kinds[e.Op.Kind]++
	told.codes[r.Code]++
	return next, wanted
}

// likelyEntry is the next one of this House, and mostly not refused by its Shelf.
func likelyEntry(next func(int64) int64, h handHouse, clients []int64) impl.Entry {
	client, o := pickOf(next, clients), likelyOp(next, h.shelf)
	for o.Kind == impl.OpRead {
		o = likelyOp(next, h.shelf)
	}
	return impl.Entry{Seq: int64(len(h.log) + 1), Client: client, Tag: h.memo[client].tag + 1 + next(3)*next(4), Op: o}
}

// From a new House to a full log, of one Client and of all four; Acked goes on between, and stays where something is Applied.
func TestEntriesAppliedOneBehindTheOther(t *testing.T) {
	told, seed := toldBy{}, uint32(130)
	for _, clients := range [][]int64{{0}, {3}, {0, 1, 2, 3}, {0, 1, 2, 3}} {
		for _, pages := range []int64{1, 3, 8, 24} {
			seed++
			next := picked(seed)
			h, _ := impl.NewHouse(pages)
			hand := newHandHouse(pages)
			for len(h.Log) < 120 {
				h, hand = checkStep(t, h, hand, likelyEntry(next, hand, clients), &told)
				h.Acked += next(int64(len(h.Log)) - h.Acked + 1)
			}
			checkLooksOfHouse(t, h, true)
			if len(hand.memo) != len(clients) {
				t.Fatalf("%d Clients were told anything", len(hand.memo))
			}
		}
	}
	for kind := 1; kind <= 8; kind++ {
		if told.kinds[kind] < 20 {
			t.Fatalf("only %d Entries were of Kind %d", told.kinds[kind], kind)
		}
	}
	for _, code := range []int64{impl.RpOk, impl.RpNone, impl.RpThere, impl.RpFenced, impl.RpFixed, impl.RpRange, impl.RpMany, impl.RpFull} {
		if told.codes[code] < 5 {
			t.Fatalf("Code %d was told only %d times", code, told.codes[code])
		}
	}
}

// What a shelf refuses is an Entry like any other: it goes to the Log, and its Reply to the Memo.
func TestRefusedEntriesAreApplied(t *testing.T) {
	for _, pages := range []int64{1, 4, 24} {
		h, hand, told := newHandHouse(pages).house(0), newHandHouse(pages), toldBy{}
		for _, e := range entriesFrom(busyOps()...) {
			h, hand = checkStep(t, h, hand, e, &told)
		}
		before := h.Shelf
		for i, o := range []impl.Op{attachOp("none"), makeOp("b", 1), writeOp("b", 0, 1), writeOp("c", 0, 1), atEpoch(writeOp("b", 255, 1), 1000)} {
			h, hand = checkStep(t, h, hand, nextOf(h, int64(i)%4, o), &told)
			if !sameShelf(h.Shelf, before) {
				t.Fatalf("%v made of %v the shelf %v", o, before, h.Shelf)
			}
		}
		if told.codes[impl.RpOk] == 25 || len(h.Log) != 25 {
			t.Fatal(told)
		}
	}
}

func TestEveryKindOfOpIsApplied(t *testing.T) {
	for _, h := range rightHouses(t) {
		if len(h.Log) > 100 {
			continue
		}
		for client := range int64(4) {
			for _, o := range append(changingOps(), atEpoch(writeOp("b", 1, 5), 7), trimOp("b", 0), snapOp("b", "x"), cloneOp("b", "a"), resizeOp("b", 1), attachOp("b")) {
				e := nextOf(h, client, o)
				e.Tag = min(e.Tag, 1000)
				checkApplied(t, h, e)
			}
		}
	}
}

// What a log comes to is what its beginning comes to, and then the rest, one after the other.
func TestReplayedGoesOnFromItsBeginning(t *testing.T) {
	for _, log := range append(manyLogs(), entriesFrom(busyOps()...)) {
		for _, pages := range []int64{1, 4, 24} {
			checkReplayed(t, pages, log)
			s, m, is := impl.Replayed(pages, log)
			if !is {
				t.Fatalf("Replayed(%d, %v) is false", pages, log)
			}
			for from := 0; from <= len(log); from += 1 + len(log)/12 {
				checkGoesOn(t, pages, log, from, s, m)
			}
		}
	}
}

func checkGoesOn(t *testing.T, pages int64, log []impl.Entry, from int, s impl.Shelf, m impl.Memo) {
	t.Helper()
	shelf, memo, is := impl.Replayed(pages, log[:from])
	h := impl.House{Up: true, Pages: pages, Log: log[:from], Shelf: shelf, Memo: memo}
	for _, e := range log[from:] {
		r, noted, done := impl.Reply{}, false, false
		shelf, r = impl.Did(shelf, e.Op)
		memo, noted = impl.Noted(memo, e.Client, e.Tag, r)
		h, r, done = impl.Applied(h, e)
		is = is && noted && done && r == memo.Replies[e.Client]
	}
	if !is || !sameShelf(shelf, s) || !sameMemo(memo, m) {
		t.Fatalf("%d pages, %v: from %d on one after the other it comes to %v, %v; Replayed to %v, %v", pages, log, from, shelf, memo, s, m)
	}
	if !sameHouse(h, impl.House{Up: true, Pages: pages, Log: log, Shelf: s, Memo: m}) {
		t.Fatalf("%d pages, %v: from %d on Applied it comes to %v", pages, log, from, h)
	}
}

func TestCopiedHouses(t *testing.T) {
	for _, h := range rightHouses(t) {
		for _, acked := range []int64{0, int64(len(h.Log) / 2), int64(len(h.Log))} {
			h.Acked = acked
			checkLooksOfHouse(t, h, true)
			c := impl.Copied(h)
			if !c.Up || c.Pages != h.Pages || !slices.Equal(c.Log, h.Log) || !sameShelf(c.Shelf, h.Shelf) || !sameMemo(c.Memo, h.Memo) || c.Acked != int64(len(h.Log)) {
				t.Fatalf("Copied(%v) is %v", h, c)
			}
			checkLooksOfHouse(t, c, true)
			if again := impl.Copied(c); !sameHouse(again, c) {
				t.Fatalf("Copied once more %v is %v", c, again)
			}
		}
	}
}

// What goes on from a copy does not go on in the one that it is of.
func TestCopiesGoTheirOwnWay(t *testing.T) {
	h := replayedHouse(t, 4, entriesFrom(busyOps()...), 5)
	kept, copied := cloneHouse(h), impl.Copied(h)
	one, _, _ := impl.Applied(h, nextOf(h, 0, makeOp("z", 3)))
	other, _, _ := impl.Applied(copied, nextOf(copied, 1, deleteOp("c")))
	if !sameHouse(h, kept) || !impl.HouseOk(one) || !impl.HouseOk(other) || one.Acked != 5 || other.Acked != 20 {
		t.Fatal(h, one, other)
	}
	if impl.FindBook(one.Shelf.Books, "z") < 0 || impl.FindBook(other.Shelf.Books, "z") >= 0 || impl.FindBook(one.Shelf.Books, "c") < 0 || impl.FindBook(other.Shelf.Books, "c") >= 0 {
		t.Fatal(one, other)
	}
}

// An empty log, the longest one, and one Entry more.
func TestLengthsOfLogs(t *testing.T) {
	for _, count := range []int{0, 1, 2, 118, 119, 120} {
		for _, log := range [][]impl.Entry{entriesLong(count), oneClientLong(count, 1, 900)} {
			h := replayedHouse(t, 6, log, 0)
			checkLooksOfHouse(t, h, true)
			for client := range int64(4) {
				if is := checkApplied(t, h, nextOf(h, client, makeOp("q", 3))); is != (count < 120) {
					t.Fatalf("Applied behind %d Entries is %v", count, is)
				}
			}
		}
	}
	for _, count := range []int{121, 122, 240, 1001, 30000} {
		log := entriesLong(count)
		checkReplayed(t, 6, log)
		h := replayedHouse(t, 6, log[:120], 0)
		h.Log = log
		if impl.HouseOk(h) || !sameHouse(impl.Copied(h), impl.House{}) {
			t.Fatalf("a Log of %d Entries", count)
		}
		if got, r, is := impl.Applied(h, nextOf(h, 1, makeOp("q", 3))); is || r != (impl.Reply{}) || !sameHouse(got, impl.House{}) {
			t.Fatalf("a Log of %d Entries: %v, %v, %v", count, got, r, is)
		}
	}
}

func TestSeqsThatAreNotTheNextOne(t *testing.T) {
	for _, h := range rightHouses(t) {
		count := int64(len(h.Log))
		for _, seq := range slices.Concat(extremes, wrongNumbers, []int64{count - 1, count, count + 1, count + 2, count + 257, -count, 120, 121, 1000, 1001}) {
			e := nextOf(h, 0, attachOp("b"))
			e.Tag, e.Seq = min(e.Tag, 1000), seq
			if is := checkApplied(t, h, e); is != (seq == count+1 && count < 120) {
				t.Fatalf("Seq %d Applied behind %d is %v", seq, count, is)
			}
		}
		// Those that stand there already are not done twice.
		for i := 0; i < len(h.Log); i += 1 + len(h.Log)/5 {
			checkAppliedIs(t, h, h.Log[i], h, impl.Reply{}, false)
		}
	}
}

func TestTagsThatDoNotRise(t *testing.T) {
	h := replayedHouse(t, 4, entriesOf(who{0, 1}, who{1, 500}, who{2, 999}, who{2, 1000}, who{1, 600}), 2)
	last := []int64{1, 600, 1000, 0}
	for client := int64(-1); client <= 4; client++ {
		for _, tag := range slices.Concat(wrongNumbers, []int64{-1, 0, 1, 2, 3, 499, 500, 501, 599, 600, 601, 998, 999, 1000, 1001, 1256}) {
			e := impl.Entry{Seq: 6, Client: client, Tag: tag, Op: makeOp("q", 2)}
			want := client >= 0 && client <= 3 && tag <= 1000 && tag > last[max(0, min(3, client))]
			if is := checkApplied(t, h, e); is != want {
				t.Fatalf("Applied of %v is %v", e, is)
			}
		}
	}
}

func TestAckedOfHouses(t *testing.T) {
	for _, h := range rightHouses(t) {
		count := int64(len(h.Log))
		for _, acked := range slices.Concat(extremes, wrongNumbers, []int64{-2, -1, 0, 1, count - 1, count, count + 1, count + 2, 24, 119, 120, 121, count + 256, count + 1<<32}) {
			h.Acked = acked
			checkLooksOfHouse(t, h, acked >= 0 && acked <= count)
			e := nextOf(h, 3, makeOp("q", 3))
			if is := checkApplied(t, h, e); is && acked > count {
				t.Fatalf("Applied where %d of %d are Acked", acked, count)
			}
		}
	}
}

// someNextEntries are right and wrong ones, of a House with so many Entries.
func someNextEntries(count int) []impl.Entry {
	seq := int64(count + 1)
	return []impl.Entry{
		{Seq: seq, Client: 0, Tag: 1000, Op: makeOp("q", 3)}, {Seq: seq, Client: 3, Tag: 1000, Op: attachOp("b")}, {Seq: 1, Client: 2, Tag: 1, Op: attachOp("b")},
		{}, {Seq: seq - 1, Client: 1, Tag: 999, Op: attachOp("b")}, {Seq: seq, Client: 4, Tag: 1, Op: attachOp("b")}, {Seq: seq, Client: 1, Tag: 999, Op: readOp("b", 0)},
	}
}

func checkWrongHouse(t *testing.T, what string, h impl.House) {
	t.Helper()
	if _, right := handHouseOf(h); right {
		t.Fatalf("%s: the test itself takes it for right", what)
	}
	checkLooksOfHouse(t, h, false)
	for _, e := range someNextEntries(len(h.Log)) {
		checkAppliedIs(t, h, e, impl.House{}, impl.Reply{}, false)
	}
}

// The one House that is not Up is the zero one, whether its lists are nil or empty.
func TestHousesThatAreNotUp(t *testing.T) {
	empty := impl.House{Log: []impl.Entry{}, Shelf: impl.Shelf{Pool: poolOf([]int64{}, []int64{}), Books: []impl.Book{}}, Memo: impl.Memo{Tags: []int64{}, Replies: []impl.Reply{}}}
	for _, h := range []impl.House{{}, empty} {
		checkLooksOfHouse(t, h, true)
		for _, e := range append(someNextEntries(0), entriesOf(who{0, 1})...) {
			checkAppliedIs(t, h, e, impl.House{}, impl.Reply{}, false)
		}
	}
	for what, h := range map[string]impl.House{
		"Pages":                {Pages: 1},
		"Pages that are wrong": {Pages: -1},
		"a Log":                {Log: entriesOf(who{0, 1})},
		"a Log that is none":   {Log: make([]impl.Entry, 1)},
		"Acked":                {Acked: 1},
		"Acked below 0":        {Acked: -1},
		"Counts":               {Shelf: impl.Shelf{Pool: impl.Pool{Counts: []int64{0}}}},
		"Pages of the Shelf":   {Shelf: impl.Shelf{Pool: impl.Pool{Pages: []int64{0}}}},
		"a Pool":               {Shelf: impl.Shelf{Pool: poolOf([]int64{0}, []int64{0})}},
		"a Book":               {Shelf: impl.Shelf{Books: []impl.Book{bookOf("a", 1)}}},
		"a zero Book":          {Shelf: impl.Shelf{Books: []impl.Book{{}}}},
		"a Memo":               {Memo: impl.NewMemo()},
		"Tags":                 {Memo: impl.Memo{Tags: []int64{0}}},
		"Replies":              {Memo: impl.Memo{Replies: []impl.Reply{{}}}},
		"all but Up, and new":  {Pages: 4, Shelf: newHandShelf(4).shelf(), Memo: impl.NewMemo()},
	} {
		checkWrongHouse(t, what, h)
	}
	for _, h := range rightHouses(t) {
		h.Up = false
		checkWrongHouse(t, "all but Up", h)
	}
	for _, n := range slices.Concat(extremes, farNumbers, wrongNumbers) {
		if n != 0 {
			checkWrongHouse(t, "Pages", impl.House{Pages: n})
			checkWrongHouse(t, "Acked", impl.House{Acked: n})
		}
	}
}

// otherShelves are not what the log comes to, though many of them are right by themselves.
func otherShelves(s impl.Shelf) map[string]impl.Shelf {
	list := wrongShelves()
	put := func(name string, change func(*impl.Shelf)) {
		other := cloneShelf(s)
		change(&other)
		list[name] = other
	}
	put("a new one", func(s *impl.Shelf) { *s = newHandShelf(int64(len(s.Pool.Counts))).shelf() })
	put("no Books", func(s *impl.Shelf) { s.Books = nil })
	put("no Pool", func(s *impl.Shelf) { s.Pool = impl.Pool{} })
	put("one page more", func(s *impl.Shelf) {
		s.Pool.Counts, s.Pool.Pages = append(s.Pool.Counts, 0), append(s.Pool.Pages, 0)
	})
	put("one Count more", func(s *impl.Shelf) { s.Pool.Counts = append(s.Pool.Counts, 0) })
	put("one Page more", func(s *impl.Shelf) { s.Pool.Pages = append(s.Pool.Pages, 0) })
	put("Counts for Pages", func(s *impl.Shelf) { s.Pool.Counts, s.Pool.Pages = s.Pool.Pages, s.Pool.Counts })
	put("a Book more", func(s *impl.Shelf) { s.Books = append(s.Books, bookOf("zzzz", 1)) })
	put("the Books the other way round", func(s *impl.Shelf) { slices.Reverse(s.Books) })
	for i := range s.Pool.Counts {
		at := fmt.Sprint(" at ", i)
		put("another Page"+at, func(s *impl.Shelf) { s.Pool.Pages[i]++ })
		put("another Count"+at, func(s *impl.Shelf) { s.Pool.Counts[i]++ })
		put("a Count less"+at, func(s *impl.Shelf) { s.Pool.Counts[i]-- })
	}
	for i := range s.Books {
		at := fmt.Sprint(" at ", i)
		put("another Name"+at, func(s *impl.Shelf) { s.Books[i].Name += "a" })
		put("no Name"+at, func(s *impl.Shelf) { s.Books[i].Name = "" })
		put("another Size"+at, func(s *impl.Shelf) { s.Books[i].Size++ })
		put("another Epoch"+at, func(s *impl.Shelf) { s.Books[i].Epoch++ })
		put("fixed or not"+at, func(s *impl.Shelf) { s.Books[i].Fixed = !s.Books[i].Fixed })
		put("no Map"+at, func(s *impl.Shelf) { s.Books[i].Map = nil })
		put("a run more"+at, func(s *impl.Shelf) { s.Books[i].Map = append(s.Books[i].Map, run(15, 1, 0)) })
		put("a Book less"+at, func(s *impl.Shelf) { s.Books = slices.Delete(s.Books, i, i+1) })
		put("a Book twice"+at, func(s *impl.Shelf) { s.Books = slices.Insert(s.Books, i, s.Books[i]) })
	}
	return list
}

func otherMemos(m impl.Memo) []impl.Memo {
	list := append(wrongMemos(), impl.Memo{}, impl.NewMemo(), impl.Memo{Tags: m.Tags}, impl.Memo{Replies: m.Replies},
		impl.Memo{Tags: m.Tags[:3], Replies: m.Replies}, impl.Memo{Tags: m.Tags, Replies: m.Replies[:3]}, impl.Memo{Tags: m.Tags[:3], Replies: m.Replies[:3]},
		impl.Memo{Tags: append(slices.Clone(m.Tags), 0), Replies: append(slices.Clone(m.Replies), impl.Reply{})})
	for client := range 4 {
		tag, r := m.Tags[client], m.Replies[client]
		list = append(list, withLine(m, client, tag+1, r), withLine(m, client, tag-1, r), withLine(m, client, 0, impl.Reply{}),
			withLine(m, client, tag, impl.Reply{Code: r.Code, Value: r.Value + 1}), withLine(m, client, tag, impl.Reply{Code: r.Code + 1, Value: r.Value}), withLine(m, client, tag, impl.Reply{Code: 9}))
	}
	return list
}

// All that is beside the log must be what the log comes to; that it is right by itself does not help.
func TestHousesOfAnotherShelfOrMemo(t *testing.T) {
	h := replayedHouse(t, 4, entriesFrom(busyOps()...), 5)
	for what, s := range otherShelves(h.Shelf) {
		wrong := h
		wrong.Shelf = s
		checkWrongHouse(t, what, wrong)
	}
	for _, m := range otherMemos(h.Memo) {
		wrong := h
		wrong.Memo = m
		if !sameMemo(m, h.Memo) {
			checkWrongHouse(t, "another Memo", wrong)
		}
	}
	for _, pages := range []int64{0, 1, 3, 5, 24, 25} {
		wrong := h
		wrong.Pages = pages
		checkWrongHouse(t, "other Pages", wrong)
	}
}

// The same places with the same pages are not enough: there is one way to write them.
func TestMapsWrittenInAnotherWay(t *testing.T) {
	h := replayedHouse(t, 4, entriesFrom(makeOp("a", 4), writeOp("a", 1, 5), writeOp("a", 2, 6)), 0)
	if !slices.Equal(h.Shelf.Books[0].Map, []impl.Run{run(1, 2, 0)}) {
		t.Fatal(h)
	}
	for _, m := range [][]impl.Run{{run(1, 1, 0), run(2, 1, 1)}, {run(1, 2, 0), run(3, 0, 0)}, {run(1, 1, 0)}, {run(1, 2, 1)}, {run(0, 2, 0)}, {}} {
		wrong := cloneHouse(h)
		wrong.Shelf.Books[0].Map = m
		checkWrongHouse(t, fmt.Sprint(m), wrong)
	}
}

// Whether the Log, the Shelf or the Memo of one may stand in another is told by what the Log comes to.
func TestHousesWithTheLogOfAnother(t *testing.T) {
	list := rightHouses(t)
	for i, h := range list {
		for j, other := range list {
			mixed, taken, told := h, h, h
			mixed.Log, taken.Shelf, told.Memo = other.Log, other.Shelf, other.Memo
			for _, m := range []impl.House{mixed, taken, told} {
				m.Acked = 0
				_, right := handHouseOf(m)
				if i == j && !right {
					t.Fatalf("the test itself takes %v for wrong", m)
				}
				checkLooksOfHouse(t, m, right)
			}
		}
	}
}

// otherLogs are no logs, or come to something else than this one of busyOps.
func otherLogs(log []impl.Entry) map[string][]impl.Entry {
	list := map[string][]impl.Entry{
		"empty":                           {},
		"the last one left out":           log[:len(log)-1],
		"the first one left out":          log[1:],
		"the first one left out, in turn": renumbered(log[1:]),
		"one more":                        append(slices.Clone(log), impl.Entry{Seq: 21, Client: 0, Tag: 1000, Op: attachOp("b")}),
		"one more that is refused":        append(slices.Clone(log), impl.Entry{Seq: 21, Client: 0, Tag: 1000, Op: attachOp("none")}),
		"one more that reads":             append(slices.Clone(log), impl.Entry{Seq: 21, Client: 0, Tag: 1000, Op: readOp("b", 0)}),
		"a zero one more":                 append(slices.Clone(log), impl.Entry{}),
		"another Op at first":             withEntry(log, 0, putOp(makeOp("b", 6))),
		"another Op at last":              withEntry(log, len(log)-1, putOp(attachOp("c"))),
		"an Op that is wrong":             withEntry(log, 5, putOp(makeOp("b", 17))),
		"an Op that reads":                withEntry(log, 5, putOp(readOp("b", 0))),
		"another Client at last":          withEntry(log, len(log)-1, putClient((log[len(log)-1].Client+1)%4)),
		"a Client that is none":           withEntry(log, 2, putClient(4)),
		"another Tag at last":             withEntry(log, len(log)-1, putTag(1000)),
		"a Tag that does not rise":        withEntry(log, len(log)-1, putTag(1)),
		"a Tag of 0":                      withEntry(log, 0, putTag(0)),
		"a Seq twice":                     withEntry(log, 3, putSeq(3)),
		"a Seq of 0":                      withEntry(log, 0, putSeq(0)),
	}
	for i, wrong := range spoiledOnce(log[:7]) {
		list[fmt.Sprint("spoiled ", i)] = append(wrong, log[7:]...)
	}
	return list
}

func TestHousesOfAnotherLog(t *testing.T) {
	h := replayedHouse(t, 4, entriesFrom(busyOps()...), 0)
	for what, log := range otherLogs(h.Log) {
		wrong := h
		wrong.Log = log
		checkWrongHouse(t, what, wrong)
		checkReplayed(t, 4, log)
	}
	// All is zero but Up.
	checkWrongHouse(t, "Up alone", impl.House{Up: true})
	checkWrongHouse(t, "Up with Pages alone", impl.House{Up: true, Pages: 4})
	checkWrongHouse(t, "Up without a Memo", impl.House{Up: true, Pages: 4, Shelf: newHandShelf(4).shelf()})
	checkWrongHouse(t, "Up without a Shelf", impl.House{Up: true, Pages: 4, Memo: impl.NewMemo()})
}

// What two logs come to may be the same: then the one may stand for the other.
func TestLogsThatComeToTheSame(t *testing.T) {
	h := replayedHouse(t, 4, entriesFrom(makeOp("a", 3), writeOp("a", 1, 5), writeOp("a", 1, 6)), 1)
	other := h
	other.Log = withEntry(h.Log, 1, putOp(writeOp("a", 1, 7)))
	checkLooksOfHouse(t, other, true)
	checkApplied(t, other, nextOf(other, 1, attachOp("a")))
}

func TestReplayedOfNoLog(t *testing.T) {
	for _, log := range [][]impl.Entry{entriesLong(2), entriesLong(9), oneClientLong(6, 3, 1000), entriesOf(who{2, 5}, who{0, 1}, who{2, 6})} {
		for _, wrong := range spoiledOnce(log) {
			for _, pages := range []int64{0, 1, 24, 25} {
				if s, m, is := impl.Replayed(pages, wrong); is || !sameShelf(s, impl.Shelf{}) || !sameMemo(m, impl.Memo{}) {
					t.Fatalf("Replayed(%d, %v) is %v, %v, %v", pages, wrong, s, m, is)
				}
				checkReplayed(t, pages, wrong)
			}
		}
		for at := range log {
			for _, o := range slices.Concat(wrongByOneField(makeOp("a", 3)), []impl.Op{{}, readOp("a", 0)}) {
				checkReplayed(t, 4, withEntry(log, at, putOp(o)))
			}
		}
	}
}

// A right House, and an Entry that is wrong in one field.
func TestWrongEntriesAreNotApplied(t *testing.T) {
	for _, h := range rightHouses(t) {
		e := nextOf(h, 1, attachOp("b"))
		wrong := []impl.Entry{{}, changedBy(e, putClient(-1)), changedBy(e, putClient(4)), changedBy(e, putTag(0)), changedBy(e, putTag(1001)), changedBy(e, putOp(impl.Op{})), changedBy(e, putOp(readOp("b", 0)))}
		if len(h.Log) < 25 {
			for _, o := range oneOfEach() {
				for _, spoiled := range wrongByOneField(o) {
					wrong = append(wrong, changedBy(e, putOp(spoiled)))
				}
			}
		}
		for _, n := range wrongNumbers {
			wrong = append(wrong, changedBy(e, putSeq(n)), changedBy(e, putClient(n)), changedBy(e, putTag(n)), impl.Entry{Seq: n, Client: n, Tag: n, Op: e.Op})
		}
		for _, e := range wrong {
			if handEntry(e) {
				continue
			}
			got, r, is := impl.Applied(h, e)
			if is || r != (impl.Reply{}) || !sameHouse(got, h) {
				t.Fatalf("Applied(%v, %v) is %v, %v, %v", h, e, got, r, is)
			}
		}
		for _, e := range wrong[:7] {
			checkAppliedIs(t, h, e, h, impl.Reply{}, false)
		}
	}
}

func numbersOfEntry(e *impl.Entry) []*int64 {
	return []*int64{&e.Seq, &e.Client, &e.Tag, &e.Op.Kind, &e.Op.At, &e.Op.Value, &e.Op.Epoch}
}

// numbersOfHouse are all there are in it.
func numbersOfHouse(h *impl.House) []*int64 {
	list := []*int64{&h.Pages, &h.Acked}
	for i := range h.Log {
		list = append(list, numbersOfEntry(&h.Log[i])...)
	}
	for i := range h.Shelf.Pool.Counts {
		list = append(list, &h.Shelf.Pool.Counts[i], &h.Shelf.Pool.Pages[i])
	}
	for i := range h.Shelf.Books {
		b := &h.Shelf.Books[i]
		list = append(list, &b.Size, &b.Epoch)
		for j := range b.Map {
			list = append(list, &b.Map[j].From, &b.Map[j].Count, &b.Map[j].Page)
		}
	}
	for i := range h.Memo.Tags {
		list = append(list, &h.Memo.Tags[i], &h.Memo.Replies[i].Code, &h.Memo.Replies[i].Value)
	}
	return list
}

// checkHousePlainly asks once, without laying anything out.
func checkHousePlainly(t *testing.T, h impl.House, e impl.Entry) {
	t.Helper()
	hand, right := handHouseOf(h)
	copied, applied, r, is := impl.House{}, impl.House{}, impl.Reply{}, false
	if right && h.Up {
		next := handHouse{}
		next, r, is = hand.applied(e)
		copied, applied = hand.house(int64(len(h.Log))), next.house(h.Acked)
	}
	if got := impl.HouseOk(h); got != right {
		t.Fatalf("HouseOk(%v) is %v", h, got)
	}
	if got := impl.Copied(h); !sameHouse(got, copied) {
		t.Fatalf("Copied(%v) is %v; wanted %v", h, got, copied)
	}
	if got, told, done := impl.Applied(h, e); !sameHouse(got, applied) || told != r || done != is {
		t.Fatalf("Applied(%v, %v) is %v, %v, %v; wanted %v, %v, %v", h, e, got, told, done, applied, r, is)
	}
}

func TestVeryGreatAndVerySmallOnesOfAHouse(t *testing.T) {
	h := replayedHouse(t, 4, entriesFrom(busyOps()[:11]...), 5)
	e := nextOf(h, 2, atEpoch(writeOp("b", 3, 9), 1))
	numbers := slices.Concat(extremes, farNumbers, wrongNumbers)
	for i := range numbersOfHouse(&h) {
		for _, n := range numbers {
			changed := cloneHouse(h)
			*numbersOfHouse(&changed)[i] = n
			checkHousePlainly(t, changed, e)
			changed.Up = false
			checkHousePlainly(t, changed, e)
		}
	}
	for i := range numbersOfEntry(&e) {
		for _, n := range numbers {
			changed := e
			*numbersOfEntry(&changed)[i] = n
			checkHousePlainly(t, h, changed)
			checkHousePlainly(t, impl.House{}, changed)
			checkReplayed(t, 4, append(slices.Clip(h.Log), changed))
			checkReplayed(t, n, append(slices.Clip(h.Log), changed))
		}
	}
}

func overwriteHouse(h impl.House) {
	log := h.Log[:cap(h.Log)]
	for i := range log {
		log[i] = impl.Entry{Seq: -801, Client: -802, Tag: -803, Op: impl.Op{Kind: -804, Name: "over", Other: "over", At: -805, Value: -806, Epoch: -807}}
	}
	fill(h.Shelf.Pool.Counts[:cap(h.Shelf.Pool.Counts)], -808)
	fill(h.Shelf.Pool.Pages[:cap(h.Shelf.Pool.Pages)], -809)
	for _, b := range h.Shelf.Books {
		runs := b.Map[:cap(b.Map)]
		for i := range runs {
			runs[i] = run(-810, -811, -812)
		}
	}
	books := h.Shelf.Books[:cap(h.Shelf.Books)]
	for i := range books {
		books[i] = impl.Book{Name: "over", Size: -813, Fixed: true, Epoch: -814}
	}
	overwrite(h.Memo)
}

// answersOf are what is answered of this House: copied, gone on, and as it is.
func answersOf(h impl.House) map[string]func() impl.House {
	next, wrong := nextOf(h, 2, snapOp("b", "q")), nextOf(h, 2, readOp("b", 0))
	return map[string]func() impl.House{
		"Copied":                     func() impl.House { return impl.Copied(h) },
		"Applied":                    func() impl.House { got, _, _ := impl.Applied(h, next); return got },
		"Applied, but as it is":      func() impl.House { got, _, _ := impl.Applied(h, wrong); return got },
		"Replayed":                   func() impl.House { s, m, _ := impl.Replayed(h.Pages, h.Log); return impl.House{Shelf: s, Memo: m} },
		"Applied behind, with a Tag": func() impl.House { got, _, _ := impl.Applied(h, changedBy(next, putTag(1))); return got },
	}
}

// Written into the one, looked at the other, and the other way round.
func TestHousesAreNewMemory(t *testing.T) {
	for _, h := range rightHouses(t) {
		for what, ask := range answersOf(h) {
			kept, got := cloneHouse(h), ask()
			told := cloneHouse(got)
			overwriteHouse(got)
			if !sameHouse(h, kept) {
				t.Fatalf("%s: written into the answer, what was handed in became %v; it was %v", what, h, kept)
			}
			given := cloneHouse(h)
			got = answersOf(given)[what]()
			overwriteHouse(given)
			if !sameHouse(got, told) {
				t.Fatalf("%s: written into what was handed in, the answer became %v; it was %v", what, got, told)
			}
		}
	}
}

// Texts are memory as well: these lie in the midst of others, and the answer has its own ones.
func TestTextsOfHousesAreNewMemory(t *testing.T) {
	long := strings.Repeat("abcd", 3)
	log := entriesFrom(makeOp(long[:4], 4), writeOp(long[4:8], 1, 5), snapOp(long[:4], long[1:3]), cloneOp(long[8:], long[2:4]))
	h := replayedHouse(t, 4, log, 2)
	for i := range h.Shelf.Books {
		h.Shelf.Books[i].Name = long[strings.Index(long, h.Shelf.Books[i].Name):][:len(h.Shelf.Books[i].Name)]
	}
	checkLooksOfHouse(t, h, true)
	for _, o := range []impl.Op{makeOp(long[1:2], 2), attachOp(long[:4]), snapOp(long[:4], long[3:6]), deleteOp(long[1:3]), readOp(long[:4], 0)} {
		checkApplied(t, h, nextOf(h, 3, o))
	}
	checkReplayed(t, 4, log)
}

// What is laid over one memory is taken for what it is all the same.
func TestHousesOverOneMemory(t *testing.T) {
	h := replayedHouse(t, 4, entriesOf(who{0, 1}, who{1, 1}), 0)
	h.Shelf.Pool.Counts = h.Memo.Tags
	checkHousePlainly(t, h, nextOf(h, 0, attachOp("a")))
	h = newHandHouse(4).house(0)
	h.Shelf.Pool.Counts, h.Shelf.Pool.Pages = h.Memo.Tags, h.Memo.Tags
	checkHousePlainly(t, h, nextOf(h, 0, makeOp("a", 3)))
	got, _, is := impl.Applied(h, nextOf(h, 0, makeOp("a", 3)))
	if !is {
		t.Fatal(got)
	}
	checkSpansApart(t, "Applied", spansOfHouse(got), spansOfHouse(h))
}

// spoilHouse changes one thing of it.
func spoilHouse(next func(int64) int64, h impl.House, numbers []int64, ops []impl.Op) impl.House {
	h = cloneHouse(h)
	switch next(9) {
	case 0:
		h.Pages = pickOf(next, numbers)
	case 1:
		h.Acked = pickOf(next, numbers)
	case 2:
		h.Up = !h.Up
	case 3:
		h.Acked = next(int64(len(h.Log)) + 3)
	case 4, 5:
		h.Log = spoilEntries(next, h.Log, numbers, ops)
	case 6:
		if len(h.Shelf.Books) > 0 {
			spoilShelf(next, &h.Shelf, numbers, append(wrongNames(), shelfNames...), wrongMaps())
		}
	case 7:
		h.Memo = spoilMemo(next, h.Memo, numbers)
	case 8:
		*pickOf(next, numbersOfHouse(&h)) = pickOf(next, numbers)
	}
	return h
}

// Houses without any order, but the same in each run, mostly near to right ones; with Entries that are mostly the next one.
func TestHousesAnswerAtEveryArgument(t *testing.T) {
	next, ops := picked(1300), slices.Concat(changingOps(), typicalOps(), wrongByOneField(makeOp("a", 3)))
	numbers := slices.Concat(extremes, farNumbers, wrongNumbers, []int64{0, 1, 4, 9, 10, 24, 25, 120, 121, 999, 1000, 1001})
	rights, taken := 0, 0
	for range 1200 {
		hand := newHandHouse(1 + next(24))
		for range next(1 + next(40)) {
			hand, _ = hand.grown(likelyEntry(next, hand, []int64{0, 1, 2, 3}))
		}
		h, e := hand.house(next(int64(len(hand.log)+1))), likelyEntry(next, hand, []int64{0, 1, 2, 3})
		for range next(2) {
			h = spoilHouse(next, h, numbers, ops)
		}
		switch next(6) {
		case 0:
			*pickOf(next, numbersOfEntry(&e)) = pickOf(next, numbers)
		case 1:
			e.Op = pickOf(next, ops)
		case 2:
			e.Tag -= next(5)
		}
		_, right := handHouseOf(h)
		checkLooksOfHouse(t, h, right)
		is := checkApplied(t, h, e)
		checkReplayed(t, h.Pages, h.Log)
		rights, taken = rights+int(asNumber(right)), taken+int(asNumber(is))
	}
	if rights < 500 || rights > 1100 || taken < 300 || taken > 900 {
		t.Fatalf("of 1200 houses %d were right, and to %d was Applied", rights, taken)
	}
}

// Whatever is Applied, right or wrong, the House stays what its Log comes to, and nothing but the next Entry changes it.
func TestHousesStayRightWhateverIsApplied(t *testing.T) {
	numbers := slices.Concat(extremes, farNumbers, []int64{0, 1, 2, 3, 119, 120, 121, 999, 1000})
	for _, seed := range []uint32{1, 2, 3, 4} {
		next, ops := picked(1310+seed), slices.Concat(typicalOps(), wrongByOneField(attachOp("a")))
		pages := []int64{1, 2, 6, 24}[seed-1]
		h, _ := impl.NewHouse(pages)
		hand, refused := newHandHouse(pages), 0
		for range 400 {
			e := likelyEntry(next, hand, []int64{0, 1, 2, 3})
			for range next(3) {
				switch next(3) {
				case 0:
					*pickOf(next, numbersOfEntry(&e)) = pickOf(next, numbers)
				case 1:
					e.Op = pickOf(next, ops)
				case 2:
					e.Tag -= next(5)
				}
			}
			wanted, reply, is := hand.applied(e)
			got, r, done := impl.Applied(h, e)
			if !sameHouse(got, wanted.house(0)) || r != reply || done != is || !impl.HouseOk(got) {
				t.Fatalf("Applied(%v, %v) is %v, %v, %v; wanted %v, %v, %v", h, e, got, r, done, wanted, reply, is)
			}
			h, hand, refused = got, wanted, refused+int(asNumber(!is))
		}
		if len(h.Log) != 120 || refused != 280 {
			t.Fatalf("%d were Applied, %d refused", len(h.Log), refused)
		}
	}
}
