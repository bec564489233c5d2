package tests

import (
	"fmt"
	"runtime"
	"slices"
	"strings"
	"sync"
	"testing"

	"loop.example/g00372/impl"
)

// handHistory is a right log, with what its first so many Entries come to and what was told of each.
type handHistory struct {
	log     []impl.Entry
	houses  []handHouse
	replies []impl.Reply
}

func handHistoryOf(pages int64, log []impl.Entry) handHistory {
	past := handHistory{log: log, houses: []handHouse{newHandHouse(pages)}}
	for i, e := range log {
		next, r := past.houses[i].grown(e)
		past.houses, past.replies = append(past.houses, next), append(past.replies, r)
	}
	return past
}

// readAt is what is told of an OpRead when the first so many Entries are done.
func (past handHistory) readAt(seq int64, o impl.Op) impl.Reply {
	_, r := past.houses[seq].shelf.did(o)
	return r
}

// tells is of a right Event: whether that is what came of it.
func (past handHistory) tells(e impl.Event) bool {
	if e.Op.Kind == impl.OpRead {
		return e.Seq <= int64(len(past.log)) && past.readAt(e.Seq, e.Op) == e.Reply
	}
	at := slices.Index(past.log, numberedEntry(e.Seq, e.Client, e.Tag, e.Op))
	return at >= 0 && past.replies[at] == e.Reply
}

// events are right ones of all that was done, and behind each of it of some that was read.
func (past handHistory) events() []impl.Event {
	list := []impl.Event{}
	for i := range past.houses {
		seq := int64(i)
		if i > 0 {
			e := past.log[i-1]
			list = append(list, impl.Event{Client: e.Client, Tag: e.Tag, Op: e.Op, Reply: past.replies[i-1], Seq: e.Seq})
		}
		for n, name := range []string{"a", "b", "c", "d", "none"} {
			o := readOp(name, (seq+int64(n))%5)
			list = append(list, impl.Event{Client: seq % 4, Tag: 1 + seq, Op: o, Reply: past.readAt(seq, o), Seq: seq})
		}
	}
	return list
}

// handSure is the House whose Log is sure, of a right World.
func handSure(w impl.World) impl.House {
	up := handUp(w)
	return w.Houses[up[len(up)-1]]
}

func handSurely(w impl.World) []impl.Entry {
	if !handWorld(w) {
		return nil
	}
	return handSure(w).Log
}

func handPrefixes(w impl.World) bool {
	if !handWorld(w) {
		return false
	}
	up := handUp(w)
	for i, id := range up[1:] {
		if !handBegins(w.Houses[id].Log, w.Houses[up[i]].Log) {
			return false
		}
	}
	return true
}

func handToldRight(w impl.World) bool {
	if !handWorld(w) {
		return false
	}
	sure := handSure(w)
	return wrongOnes(w.Told, handHistoryOf(sure.Pages, sure.Log).tells) == 0
}

func handPlainsAt(log []impl.Entry, pages int64, count int64) ([]impl.Plain, bool) {
	if !handLog(log) || count < 0 || count > int64(len(log)) {
		return nil, false
	}
	hand, right := handReplayed(pages, log[:count])
	if !right {
		return nil, false
	}
	return hand.shelf.shown().plains(), true
}

// checkHistoryIs asks with one World laid out in several ways: the answers must be as wanted each time, Surely new memory, and what was handed in must stay.
func checkHistoryIs(t *testing.T, what string, w impl.World, sure []impl.Entry, prefixes bool, told bool) {
	t.Helper()
	sure = slices.Clone(sure)
	for _, given := range layWorld(w) {
		kept := given.kept()
		got, begun, right := impl.Surely(given.world), impl.Prefixes(given.world), impl.ToldRight(given.world)
		if !given.is(kept) {
			t.Fatalf("%s: the memory handed in became %v; it was %v", what, given.memory, kept.memory)
		}
		if !slices.Equal(got, sure) || begun != prefixes || right != told {
			t.Fatalf("%s: Surely, Prefixes and ToldRight are %v, %v, %v; wanted %v, %v, %v, of %s", what, got, begun, right, sure, prefixes, told, showWorld(w))
		}
		checkSpansApart(t, "Surely", spansOfLog(got), given.spans())
	}
}

// checkHistory holds any World, right or not, against what was worked out by hand.
func checkHistory(t *testing.T, what string, w impl.World) {
	t.Helper()
	checkHistoryIs(t, what, w, handSurely(w), handPrefixes(w), handToldRight(w))
}

// checkHistoryPlainly asks once, without laying anything out.
func checkHistoryPlainly(t *testing.T, what string, w impl.World) {
	t.Helper()
	if got, want := impl.Surely(w), handSurely(w); !slices.Equal(got, want) {
		t.Fatalf("%s: Surely is %v, wanted %v, of %s", what, got, want, showWorld(w))
	}
	if want := handPrefixes(w); impl.Prefixes(w) != want {
		t.Fatalf("%s: Prefixes is %v of %s", what, !want, showWorld(w))
	}
	if want := handToldRight(w); impl.ToldRight(w) != want {
		t.Fatalf("%s: ToldRight is %v of %s", what, !want, showWorld(w))
	}
}

// checkToldRight asks with the Told changed alone.
func checkToldRight(t *testing.T, what string, w impl.World, want bool, told ...impl.Event) {
	t.Helper()
	w.Told = told
	if impl.ToldRight(w) != want {
		t.Fatalf("%s: ToldRight is %v of %s", what, !want, showWorld(w))
	}
}

func checkPlainsAt(t *testing.T, log []impl.Entry, pages int64, count int64) bool {
	t.Helper()
	want, right := handPlainsAt(log, pages, count)
	for _, given := range layEntries(log) {
		kept := slices.Clone(given.memory)
		got, is := impl.PlainsAt(given.list, pages, count)
		if !slices.Equal(given.memory, kept) {
			t.Fatalf("PlainsAt(%v, %d, %d): the memory handed in became %v; it was %v", log, pages, count, given.memory, kept)
		}
		if !sameSheets(got, want) || is != right {
			t.Fatalf("PlainsAt(%v, %d, %d) is %v, %v; wanted %v, %v", log, pages, count, got, is, want, right)
		}
		checkSpansApart(t, "PlainsAt", spansOfPlains(got), append(spansOfLog(given.list), spanOf(given.memory)))
	}
	return right
}

// logsWorld has this View; its Members have these Logs in turn, or are not Up where there is none.
func logsWorld(t *testing.T, pages int64, v impl.View, logs ...[]impl.Entry) impl.World {
	t.Helper()
	w := impl.World{Houses: make([]impl.House, 4), View: v, Clients: make([]impl.Client, 4)}
	for place, log := range logs {
		if log != nil {
			w.Houses[v.Members[place]] = replayedHouse(t, pages, log, int64(len(log)/3))
		}
	}
	return w
}

// toldWorld has all right Events of what is sure.
func toldWorld(w impl.World) impl.World {
	sure := handSure(w)
	w.Told = handHistoryOf(sure.Pages, sure.Log).events()
	return w
}

// trueWorld is the busy one, but that it was told right.
func trueWorld(t *testing.T) impl.World {
	t.Helper()
	return toldWorld(busyWorld(t))
}

// Three Members: nothing is sure till the tail has it, and what is read is read there.
func TestHistoryWorkedByHand(t *testing.T) {
	made, wrote, over, read := makeOp("a", 2), writeOp("a", 1, 7), writeOp("a", 1, 8), readOp("a", 1)
	first, second, third := numberedEntry(1, 3, 1, made), numberedEntry(2, 0, 1, wrote), numberedEntry(3, 3, 2, over)
	one, both, three := []impl.Entry{first}, []impl.Entry{first, second}, []impl.Entry{first, second, third}
	w := newWorld(t, 4, 3)
	does := func(sure []impl.Entry, acts ...impl.Act) {
		t.Helper()
		for _, a := range acts {
			next, is := impl.Happen(w, a)
			if !is {
				t.Fatalf("%v does nothing", a)
			}
			w = next
		}
		checkHistoryIs(t, "worked by hand", w, sure, true, true)
	}
	does(nil)
	does(nil, askAct(3, made))
	does(nil, takeAct(0))
	does(nil, takeAct(0))
	does(one, takeAct(0))
	// The tell is taken, and both acks.
	does(one, takeAct(0), takeAct(0), takeAct(0))
	// One reads while the write is on its way; the other behind it.
	does(one, askAct(0, wrote), takeAct(0), takeAct(0), askAct(1, read), takeAct(1), takeAct(1))
	does(both, takeAct(0), askAct(2, read), takeAct(2), takeAct(2), takeAct(0))
	// The head and the one in the middle have it; the head falls, and then the tail.
	does(both, askAct(3, over), takeAct(1), takeAct(1))
	does(both, fallAct(0))
	does(both, viewAct(), pushAct(1))
	does(three, fallAct(2))
	does(three, viewAct(), againAct(3), askAct(1, read))
	want := []impl.Event{
		{Client: 3, Tag: 1, Op: made, Seq: 1},
		{Client: 1, Tag: 1, Op: read, Seq: 1},
		{Client: 2, Tag: 1, Op: read, Reply: impl.Reply{Value: 7}, Seq: 2},
		{Client: 0, Tag: 1, Op: wrote, Seq: 2},
	}
	if !slices.Equal(w.Told, want) {
		t.Fatalf("Told is %v", w.Told)
	}
	// Before the tail had it, nobody could have been told so.
	for _, e := range []impl.Event{{Client: 3, Tag: 2, Op: over, Seq: 3}, {Client: 1, Tag: 2, Op: read, Reply: impl.Reply{Value: 8}, Seq: 3}} {
		checkToldRight(t, "all that is Up", w, true, append(slices.Clone(want), e)...)
		checkToldRight(t, "with a tail", worldBy(w, all(houseIs(2, replayedHouse(t, 4, both, 0)), viewIs(4, 1, 2))), false, append(slices.Clone(want), e)...)
	}
	for count, values := range [][]int64{nil, {0, 0}, {0, 7}, {0, 8}} {
		plains := []impl.Plain{}
		if count > 0 {
			plains = append(plains, plainOf("a", values...))
		}
		if got, is := impl.PlainsAt(three, 4, int64(count)); !is || !sameSheets(got, plains) {
			t.Fatalf("PlainsAt %d is %v, %v", count, got, is)
		}
	}
}

// Each of four is Up or not, but one at least; the Logs get shorter from Member to Member.
func TestSurelyIsTheLogOfTheLastMemberUp(t *testing.T) {
	lengths := []int{20, 13, 7, 0}
	for _, v := range []impl.View{viewOf(12, 2, 0, 3, 1), viewOf(1, 0, 1, 2, 3), viewOf(1000, 3, 2, 1, 0)} {
		for ups := 1; ups < 16; ups++ {
			stand, last := slices.Repeat([]int{-1}, 4), 0
			for place, length := range lengths {
				if ups>>place&1 == 1 {
					stand[place], last = length, length
				}
			}
			w := rowWorld(t, v, stand...)
			what := fmt.Sprint("Logs that are long ", stand)
			checkHistoryIs(t, what, w, busyLog()[:last], true, true)
			checkHistoryIs(t, what, toldWorld(w), busyLog()[:last], true, true)
		}
	}
}

func TestSurelyOfRowsOfOneToFour(t *testing.T) {
	for _, row := range allRows() {
		for _, count := range []int{0, 1, 20} {
			lengths := slices.Repeat([]int{20}, len(row))
			lengths[len(row)-1] = count
			w := rowWorld(t, viewOf(3, row...), lengths...)
			if got := impl.Surely(w); !slices.Equal(got, busyLog()[:count]) || !impl.Prefixes(w) {
				t.Fatalf("of the row %v Surely is %v", row, got)
			}
			// It is neither the shortest nor the longest Log.
			lengths[len(row)-1], lengths[0] = 13, 7
			want := busyLog()[:lengths[len(row)-1]]
			checkHistoryIs(t, fmt.Sprint("the row ", row), rowWorld(t, viewOf(3, row...), lengths...), want, len(row) == 1, true)
		}
	}
	for pages := int64(1); pages <= 24; pages++ {
		for members := int64(1); members <= 4; members++ {
			checkHistoryIs(t, "a new World", newWorld(t, pages, members), nil, true, true)
		}
	}
	full := entriesLong(120)
	checkHistoryIs(t, "the longest Log", logsWorld(t, 24, viewOf(9, 1, 2), full, full), full, true, true)
	checkHistoryIs(t, "the longest Log ahead", logsWorld(t, 24, viewOf(9, 1, 2), full, full[:119]), full[:119], true, true)
}

// behindOf are Logs of one that stands behind one with the first 13 Entries, and whether they Begin those.
func behindOf() map[string]struct {
	log []impl.Entry
	is  bool
} {
	log := busyLog()
	last := log[12]
	type behind = struct {
		log []impl.Entry
		is  bool
	}
	ending := func(change func(*impl.Entry)) behind {
		return behind{append(slices.Clone(log[:12]), changedBy(last, change)), false}
	}
	return map[string]behind{
		"as long":                   {log[:13], true},
		"shorter by one":            {log[:12], true},
		"shorter":                   {log[:5], true},
		"of one Entry":              {log[:1], true},
		"empty":                     {log[:0], true},
		"longer by one":             {log[:14], false},
		"longer":                    {log[:20], false},
		"of another last Client":    ending(putClient((last.Client + 1) % 4)),
		"of another last Tag":       ending(putTag(last.Tag + 1)),
		"of another last Op":        ending(putOp(attachOp("b"))),
		"of another last Value":     ending(putOp(atEpoch(writeOp("a", 1, 18), 9))),
		"shorter, and another last": {append(slices.Clone(log[:6]), changedBy(log[6], putOp(attachOp("b")))), false},
		"of another first Op":       {append([]impl.Entry{changedBy(log[0], putOp(makeOp("b", 6)))}, log[1:13]...), false},
		"of one other Entry":        {[]impl.Entry{changedBy(log[0], putOp(makeOp("b", 6)))}, false},
		"of other Entries":          {entriesLong(13), false},
		"of other Entries, shorter": {entriesLong(4), false},
	}
}

func TestLogsBehindOneAnother(t *testing.T) {
	ahead := busyLog()[:13]
	for what, behind := range behindOf() {
		if !handLog(behind.log) || handBegins(behind.log, ahead) != behind.is {
			t.Fatalf("%s: the test itself takes %v for %v", what, behind.log, !behind.is)
		}
		for _, w := range []impl.World{
			logsWorld(t, 4, viewOf(3, 0, 1), ahead, behind.log),
			logsWorld(t, 4, viewOf(3, 3, 1), ahead, behind.log),
			logsWorld(t, 4, viewOf(3, 1, 3, 0), ahead, nil, behind.log),
			logsWorld(t, 4, viewOf(3, 1, 3, 0), nil, ahead, behind.log),
			logsWorld(t, 4, viewOf(3, 1, 3, 0), ahead, behind.log, nil),
			logsWorld(t, 4, viewOf(3, 2, 0, 3, 1), ahead, nil, nil, behind.log),
			logsWorld(t, 4, viewOf(3, 2, 0, 3, 1), nil, ahead, nil, behind.log),
			logsWorld(t, 4, viewOf(3, 2, 0, 3, 1), nil, ahead, behind.log, nil),
			logsWorld(t, 4, viewOf(3, 2, 0, 3, 1), ahead, ahead, nil, behind.log),
			logsWorld(t, 4, viewOf(3, 2, 0, 3, 1), busyLog(), ahead, ahead, behind.log),
		} {
			checkHistoryIs(t, what, w, behind.log, behind.is, true)
		}
		// More stand behind it, with the empty Log and with a beginning of its own.
		for _, last := range [][]impl.Entry{{}, behind.log[:len(behind.log)/2], behind.log} {
			checkHistoryIs(t, what, logsWorld(t, 4, viewOf(3, 0, 2, 1), ahead, behind.log, last), last, behind.is, true)
			checkHistoryIs(t, what, logsWorld(t, 4, viewOf(3, 3, 0, 2, 1), ahead, behind.log, nil, last), last, behind.is, true)
			checkHistoryIs(t, what, logsWorld(t, 4, viewOf(3, 3, 0, 2, 1), busyLog(), ahead, behind.log, last), last, behind.is, true)
		}
	}
}

// It is the one ahead that counts, not the head, and not one that is not Up.
func TestWhoseLogItBegins(t *testing.T) {
	log := busyLog()
	for what, c := range map[string]struct {
		logs [][]impl.Entry
		is   bool
	}{
		"longer than the one ahead, but not than the head": {[][]impl.Entry{log[:13], log[:7], log[:9]}, false},
		"the one ahead fell":                            {[][]impl.Entry{log[:13], nil, log[:9]}, true},
		"the head fell":                                 {[][]impl.Entry{nil, log[:7], log[:9]}, false},
		"the head fell, and it was shorter":             {[][]impl.Entry{nil, log[:13], log[:9]}, true},
		"the tail fell":                                 {[][]impl.Entry{log[:13], log[:9], nil}, true},
		"two fell":                                      {[][]impl.Entry{nil, nil, log[:9]}, true},
		"all are empty":                                 {[][]impl.Entry{{}, {}, {}}, true},
		"the one in the middle is empty":                {[][]impl.Entry{log[:9], {}, log[:1]}, false},
		"the tail is the only one that is not empty":    {[][]impl.Entry{{}, {}, log[:1]}, false},
		"all are as long":                               {[][]impl.Entry{log, log, log}, true},
		"the last of four is longer than the third one": {[][]impl.Entry{log, log[:13], log[:7], log[:8]}, false},
		"the last of four is longer than the third one that fell": {[][]impl.Entry{log, log[:13], nil, log[:8]}, true},
		"the second of four is longer than the head":              {[][]impl.Entry{log[:19], log, log[:7], log[:7]}, false},
	} {
		for _, row := range allRows() {
			if len(row) != len(c.logs) {
				continue
			}
			w := logsWorld(t, 4, viewOf(3, row...), c.logs...)
			if impl.Prefixes(w) != c.is || handPrefixes(w) != c.is {
				t.Fatalf("%s: in the row %v Prefixes is %v", what, row, !c.is)
			}
		}
		checkHistory(t, what, logsWorld(t, 4, viewOf(3, []int64{2, 0, 3, 1}[:len(c.logs)]...), c.logs...))
	}
}

// PlainsAt is what Did makes of the Entries, one after the other.
func TestPlainsAtEachCount(t *testing.T) {
	for _, pages := range []int64{1, 2, 4, 23, 24} {
		for _, log := range [][]impl.Entry{{}, busyLog(), entriesLong(37), oneClientLong(20, 2, 1000), entriesOf(who{2, 900}, who{0, 1}, who{2, 901})} {
			shelf, _ := impl.NewShelf(pages)
			for count := 0; ; count++ {
				if !checkPlainsAt(t, log, pages, int64(count)) {
					t.Fatalf("the test itself takes %d, %d and %v for wrong", pages, count, log)
				}
				if got, _ := impl.PlainsAt(log, pages, int64(count)); !sameSheets(got, impl.ShownPlain(shelf)) {
					t.Fatalf("PlainsAt(%v, %d, %d) is %v; the shelf shows %v", log, pages, count, got, impl.ShownPlain(shelf))
				}
				if count == len(log) {
					break
				}
				shelf, _ = impl.Did(shelf, log[count].Op)
			}
		}
	}
	for _, count := range []int64{0, 1, 59, 60, 119, 120} {
		for _, pages := range []int64{1, 24} {
			checkPlainsAt(t, entriesLong(120), pages, count)
			checkPlainsAt(t, oneClientLong(120, 3, 1000), pages, count)
		}
	}
}

// One page less, and a write is refused.
func TestPagesOfPlainsAt(t *testing.T) {
	log := entriesFrom(makeOp("a", 3), writeOp("a", 0, 1), writeOp("a", 1, 2), writeOp("a", 2, 3))
	for pages, values := range map[int64][]int64{1: {1, 0, 0}, 2: {1, 2, 0}, 3: {1, 2, 3}, 4: {1, 2, 3}, 24: {1, 2, 3}} {
		if got, is := impl.PlainsAt(log, pages, 4); !is || !sameSheets(got, []impl.Plain{plainOf("a", values...)}) {
			t.Fatalf("PlainsAt of %d pages is %v, %v", pages, got, is)
		}
	}
}

func TestPlainsAtOutOfRange(t *testing.T) {
	logs := [][]impl.Entry{{}, entriesLong(1), busyLog()}
	for _, log := range logs {
		length := int64(len(log))
		for count, right := range map[int64]bool{-1: false, 0: true, length: true, length + 1: false} {
			for pages, fits := range map[int64]bool{-1: false, 0: false, 1: true, 24: true, 25: false} {
				if is := checkPlainsAt(t, log, pages, count); is != (right && fits) {
					t.Fatalf("the test itself takes %d pages, count %d for %v", pages, count, is)
				}
			}
		}
	}
	numbers := slices.Concat(extremes, farNumbers, wrongNumbers, []int64{1, 20, 21, 24, 25, 120, 121})
	for _, log := range append(logs, entriesLong(2)[1:], entriesLong(121)) {
		for _, pages := range numbers {
			for _, count := range numbers {
				want, right := handPlainsAt(log, pages, count)
				if got, is := impl.PlainsAt(log, pages, count); is != right || !sameSheets(got, want) {
					t.Fatalf("PlainsAt(%v, %d, %d) is %v, %v", log, pages, count, got, is)
				}
			}
		}
	}
}

// A list is no log as a whole, also where only those behind the first count Entries are wrong.
func TestPlainsAtOfNoLog(t *testing.T) {
	for what, log := range otherLogs(busyLog()) {
		for _, count := range []int64{-1, 0, 1, 2, 3, 5, 10, int64(len(log)) - 1, int64(len(log)), int64(len(log)) + 1} {
			is := checkPlainsAt(t, log, 4, count)
			if is && !handLog(log) {
				t.Fatalf("%s: the test itself takes for right %v", what, log)
			}
		}
	}
	for _, log := range [][]impl.Entry{
		entriesLong(121),
		oneClientLong(121, 2, 1000),
		entriesLong(2)[1:],
		append(busyLog(), busyLog()[19]),
		append(busyLog(), numberedEntry(22, 0, 1000, attachOp("b"))),
		append(busyLog(), numberedEntry(21, 1, 1, attachOp("b"))),
		append(busyLog(), numberedEntry(21, 0, 1000, readOp("b", 0))),
		append(busyLog(), impl.Entry{}),
	} {
		for count := range int64(len(log)) + 1 {
			if got, is := impl.PlainsAt(log, 4, count); is || len(got) > 0 {
				t.Fatalf("PlainsAt(%v, 4, %d) is %v, %v", log, count, got, is)
			}
		}
		checkPlainsAt(t, log, 4, 1)
	}
	very := slices.Repeat(entriesLong(100), 100)
	checkPlainsAt(t, very, 4, 0)
	checkPlainsAt(t, very, 4, 50)
}

// sureWorlds have other Pages, Logs and rows; nobody was told yet.
func sureWorlds(t *testing.T) []impl.World {
	t.Helper()
	log := busyLog()
	return []impl.World{
		logsWorld(t, 4, viewOf(3, 2), log),
		logsWorld(t, 1, viewOf(3, 0, 1), log, log[:13]),
		logsWorld(t, 24, viewOf(3, 1, 0, 3), log, log[:19], log[:17]),
		logsWorld(t, 2, viewOf(3, 3, 1, 0, 2), log, nil, log[:19], nil),
		logsWorld(t, 3, viewOf(3, 3, 1), entriesLong(24), entriesLong(24)),
		logsWorld(t, 4, viewOf(3, 0, 2), log, log[:0]),
		logsWorld(t, 5, viewOf(3, 1), oneClientLong(12, 2, 1000)),
	}
}

func TestWhatWasToldRight(t *testing.T) {
	for i, w := range sureWorlds(t) {
		what := fmt.Sprint("World ", i)
		checkHistoryIs(t, what, w, handSurely(w), true, true)
		told := toldWorld(w)
		checkHistoryIs(t, what, told, handSurely(w), true, true)
		checkToldRight(t, what, w, true)
		for _, e := range told.Told {
			checkToldRight(t, what, w, true, e)
			checkToldRight(t, what+", told twice", w, true, e, e)
		}
		slices.Reverse(told.Told)
		checkToldRight(t, what+", the last ones first", w, true, told.Told...)
	}
}

func eventBy(e impl.Event, change func(*impl.Event)) impl.Event {
	change(&e)
	return e
}

// nearOps differ from this one in one field.
func nearOps(o impl.Op) []impl.Op {
	list := []impl.Op{}
	for kind := range int64(11) {
		list = append(list, impl.Op{Kind: kind, Name: o.Name, Other: o.Other, At: o.At, Value: o.Value, Epoch: o.Epoch})
	}
	for _, change := range []func(*impl.Op){
		func(o *impl.Op) { o.Name = "q" }, func(o *impl.Op) { o.Name += "q" }, func(o *impl.Op) { o.Other = "q" },
		func(o *impl.Op) { o.At++ }, func(o *impl.Op) { o.At-- }, func(o *impl.Op) { o.Value++ }, func(o *impl.Op) { o.Value-- },
		func(o *impl.Op) { o.Epoch++ }, func(o *impl.Op) { o.Epoch-- },
	} {
		other := o
		change(&other)
		list = append(list, other)
	}
	return list
}

// nearEvents are right ones that differ from this one in one field; the name says in which.
func nearEvents(e impl.Event) map[string][]impl.Event {
	near := map[string][]impl.Event{}
	put := func(name string, change func(*impl.Event)) {
		if other := eventBy(e, change); handEvent(other) && other != e {
			near[name] = append(near[name], other)
		}
	}
	for client := range int64(4) {
		put("Client", func(e *impl.Event) { e.Client = client })
	}
	for _, tag := range []int64{e.Tag - 1, e.Tag + 1, e.Tag + 2, 1, 1000} {
		put("Tag", func(e *impl.Event) { e.Tag = tag })
	}
	for _, seq := range []int64{0, 1, e.Seq - 1, e.Seq + 1, e.Seq + 2, 12, 13, 20, 21, 119, 120} {
		put("Seq", func(e *impl.Event) { e.Seq = seq })
	}
	for _, r := range append(someReplies(), impl.Reply{Value: e.Reply.Value + 1}, impl.Reply{Value: e.Reply.Value - 1}) {
		put("Reply", func(e *impl.Event) { e.Reply = r })
	}
	for _, o := range append(nearOps(e.Op), typicalOps()...) {
		put("Op", func(e *impl.Event) { e.Op = o })
	}
	return near
}

// An Event that is another one than what was done by one field: of a change all of them count, of an OpRead neither the Client nor the Tag.
func TestEventsThatDifferInOneField(t *testing.T) {
	wrong := map[string]int{}
	for i, w := range sureWorlds(t)[:4] {
		sure := handSure(w)
		past := handHistoryOf(sure.Pages, sure.Log)
		for at, e := range past.events() {
			for field, near := range nearEvents(e) {
				for n, other := range near {
					is := past.tells(other)
					what := fmt.Sprintf("World %d, Event %d of another %s", i, at, field)
					// The whole of it takes long, and each World has much the same.
					if i == 0 || (at+n)%7 == 0 {
						checkToldRight(t, what, w, is, other)
						wrong[field] += int(asNumber(!is))
					}
					reads := e.Op.Kind == impl.OpRead
					if !reads && other.Op.Kind != impl.OpRead && is || reads && (field == "Client" || field == "Tag") && !is || field == "Reply" && is {
						t.Fatalf("%s: the test itself takes %v for %v", what, other, is)
					}
				}
			}
		}
	}
	if len(wrong) != 5 || wrong["Client"] < 60 || wrong["Tag"] < 60 || wrong["Seq"] < 200 || wrong["Reply"] < 1000 || wrong["Op"] < 500 {
		t.Fatalf("wrong were %v", wrong)
	}
}

// What is sure counts: not what the head has alone, nor what nobody has.
func TestEventsOfWhatIsNotSure(t *testing.T) {
	log := busyLog()
	past := handHistoryOf(4, log)
	for _, logs := range [][][]impl.Entry{{log, log[:13]}, {log[:13]}, {log, log[:15], log[:13]}, {log, nil, log[:13]}, {log, log[:13], nil}, {nil, log[:13], nil}} {
		w := logsWorld(t, 4, viewOf(3, []int64{1, 3, 0}[:len(logs)]...), logs...)
		for _, e := range past.events() {
			checkToldRight(t, fmt.Sprint("what was done as ", e), w, e.Seq <= 13, e)
		}
	}
	w := logsWorld(t, 4, viewOf(3, 1, 3), log, log[:13])
	for _, o := range changingOps() {
		for seq := range int64(22) {
			checkToldRight(t, "what stands in no Entry", w, false, impl.Event{Client: 0, Tag: 500, Op: o, Seq: seq})
			checkToldRight(t, "what stands in no Entry", w, false, impl.Event{Client: 0, Tag: 500, Op: o, Reply: impl.Reply{Code: impl.RpNone}, Seq: seq})
		}
	}
	// An Entry that is there, told with each Seq from none to one that nobody can have.
	for _, e := range past.events()[:80] {
		for seq := range int64(121) {
			other := eventBy(e, func(e *impl.Event) { e.Seq = seq })
			checkToldRight(t, "with another Seq", w, handHistoryOf(4, log[:13]).tells(other), other)
		}
	}
}

// Nothing was done yet, all of it was done, and one more than there is.
func TestReadsAtTheEdges(t *testing.T) {
	log := busyLog()
	for _, count := range []int{0, 1, 13, 20} {
		w := logsWorld(t, 4, viewOf(3, 1, 3), log, log[:count])
		past := handHistoryOf(4, log)
		for _, o := range []impl.Op{readOp("b", 0), readOp("b", 4), readOp("a", 0), readOp("c", 1), readOp("b", 255), readOp("none", 0), readOp("d", 15)} {
			for _, seq := range []int64{0, 1, int64(count) - 1, int64(count), int64(count) + 1, 119, 120} {
				reply := past.readAt(min(20, max(0, seq)), o)
				e := impl.Event{Client: 2, Tag: 77, Op: o, Reply: reply, Seq: seq}
				if seq < 0 {
					checkHistoryIs(t, "below 0", worldBy(w, hasTold(e)), nil, false, false)
					continue
				}
				checkToldRight(t, fmt.Sprint("of ", count, " Entries ", e), w, seq <= int64(count), e)
				for _, r := range someReplies() {
					other := eventBy(e, func(e *impl.Event) { e.Reply = r })
					checkToldRight(t, fmt.Sprint("of ", count, " Entries ", other), w, seq <= int64(count) && r == reply, other)
				}
			}
		}
	}
}

// The tail tells of one place ahead of a change and behind it: each has its own Seq.
func TestReadsBeforeAndBehindAChange(t *testing.T) {
	log := entriesFrom(makeOp("a", 2), writeOp("a", 1, 5), writeOp("a", 1, 6), snapOp("a", "b"), trimOp("a", 1), deleteOp("a"))
	w := logsWorld(t, 2, viewOf(3, 1), log)
	told := []impl.Reply{{Code: impl.RpNone}, {Value: 0}, {Value: 5}, {Value: 6}, {Value: 6}, {Value: 0}, {Code: impl.RpNone}}
	for seq := range told {
		for other, r := range told {
			e := impl.Event{Client: 1, Tag: 9, Op: readOp("a", 1), Reply: r, Seq: int64(seq)}
			checkToldRight(t, fmt.Sprint(e), w, told[seq] == r, e)
			e.Op = readOp("b", 1)
			want := seq > 3 && r == impl.Reply{Value: 6} || seq < 4 && r.Code == impl.RpNone
			checkToldRight(t, fmt.Sprint(other, e), w, want, e)
		}
	}
}

// Of the same Entries other Pages come to other Replies.
func TestPagesOfWhatWasTold(t *testing.T) {
	log := entriesFrom(makeOp("a", 3), writeOp("a", 0, 1), writeOp("a", 1, 2), writeOp("a", 2, 3))
	for pages := int64(1); pages <= 24; pages++ {
		w := logsWorld(t, pages, viewOf(3, 1, 2), log, log)
		for seq := int64(2); seq <= 4; seq++ {
			done := log[seq-1]
			for _, r := range []impl.Reply{{}, {Code: impl.RpFull}} {
				full := seq-1 > pages
				checkToldRight(t, fmt.Sprint(pages, " Pages"), w, (r.Code == impl.RpFull) == full, impl.Event{Client: done.Client, Tag: done.Tag, Op: done.Op, Reply: r, Seq: seq})
			}
		}
		read := impl.Event{Client: 1, Tag: 1, Op: readOp("a", 2), Reply: impl.Reply{Value: 3}, Seq: 4}
		checkToldRight(t, fmt.Sprint(pages, " Pages"), w, pages > 2, read)
	}
}

// threeHundred are right ones of this World, as many as may be.
func threeHundred(w impl.World) []impl.Event {
	return slices.Repeat(toldWorld(w).Told, 60)[:300]
}

// One wrong Event among others is enough, wherever it stands.
func TestManyEvents(t *testing.T) {
	for _, w := range sureWorlds(t) {
		checkToldRight(t, "no Event", w, true)
		many := threeHundred(w)
		for _, count := range []int{1, 2, 150, 299, 300} {
			checkToldRight(t, fmt.Sprint(count, " Events"), w, true, many[:count]...)
			for _, at := range []int{0, count / 2, count - 1} {
				for _, wrong := range []impl.Event{
					{Client: 1, Tag: 900, Op: attachOp("q"), Reply: impl.Reply{Code: impl.RpNone}, Seq: 1},
					{Client: 1, Tag: 900, Op: readOp("q", 0), Seq: 1},
					eventBy(many[at], func(e *impl.Event) { e.Seq = 120 }),
				} {
					told := slices.Clone(many[:count])
					told[at] = wrong
					checkToldRight(t, fmt.Sprint(count, " Events, and a wrong one at ", at), w, false, told...)
				}
			}
		}
		all := slices.Repeat([]impl.Event{{Client: 1, Tag: 900, Op: attachOp("q"), Seq: 1}}, 300)
		checkToldRight(t, "300 wrong Events", w, false, all...)
		w.Told = many
		checkHistoryIs(t, "300 Events", w, handSurely(w), true, true)
		w.Told = append(many, many[0])
		checkHistoryIs(t, "301 Events", w, nil, false, false)
	}
	// As many Events of as many Entries as may be.
	w := toldWorld(logsWorld(t, 24, viewOf(3, 1, 0), entriesLong(120), entriesLong(120)))
	w.Told = w.Told[len(w.Told)-300:]
	checkHistoryIs(t, "120 Entries and 300 Events", w, entriesLong(120), true, true)
	w.Told[150].Seq--
	checkHistoryIs(t, "120 Entries and 300 Events, one of them wrong", w, entriesLong(120), true, false)
}

// Who waits, what is in the post and what was Acked do not matter.
func TestHistoryIsOfLogsAndEventsAlone(t *testing.T) {
	w := trueWorld(t)
	for _, change := range []func(*impl.World){
		postIs(), postIs(lettersLong(60)...), clientIs(1, impl.Client{}), clientIs(2, waiting(1, attachOp("b"))),
		func(w *impl.World) { w.Houses[1].Acked = 20 }, func(w *impl.World) { w.Houses[0].Acked = 0 }, func(w *impl.World) { w.View.Number = 1000 },
	} {
		checkHistoryIs(t, "a right World", worldBy(w, change), busyLog()[:7], true, true)
	}
	// What one asks does not hang on what another one tells.
	parted := worldBy(w, houseIs(1, replayedHouse(t, 4, entriesLong(9), 0)))
	checkHistoryIs(t, "a head with another Log", parted, busyLog()[:7], false, true)
	checkHistoryIs(t, "one wrong Event", worldBy(w, hasTold(impl.Event{Tag: 1, Op: attachOp("b"), Seq: 2})), busyLog()[:7], true, false)
	checkHistoryIs(t, "both", worldBy(parted, hasTold(impl.Event{Tag: 1, Op: attachOp("b"), Seq: 2})), busyLog()[:7], false, false)
}

func TestHistoryOfWrongWorlds(t *testing.T) {
	w := trueWorld(t)
	checkHistoryIs(t, "a right World", w, busyLog()[:7], true, true)
	wrong := wrongWorlds(t, w)
	for i, v := range someWrongViews() {
		wrong[fmt.Sprint("View ", i, v)] = worldBy(w, func(w *impl.World) { w.View = v })
	}
	for i, m := range wrongMsgs() {
		if i%6 == 0 {
			wrong[fmt.Sprint("letter ", i, m)] = worldBy(w, postIs(append(oneOfEachKind(), m)...))
		}
	}
	for client := range int64(4) {
		for i, c := range []impl.Client{{Tag: -1}, {Tag: 1001}, waiting(0, attachOp("b")), {Waits: true, Tag: 1}, {Op: attachOp("b")}} {
			wrong[fmt.Sprint("Client ", client, i)] = worldBy(w, clientIs(client, c))
		}
	}
	for at, e := range w.Told[:8] {
		for i, change := range []func(*impl.Event){
			func(e *impl.Event) { e.Client = -1 }, func(e *impl.Event) { e.Client = 4 }, func(e *impl.Event) { e.Tag = 0 }, func(e *impl.Event) { e.Tag = 1001 },
			func(e *impl.Event) { e.Op = impl.Op{} }, func(e *impl.Event) { e.Reply = impl.Reply{Code: 10} }, func(e *impl.Event) { e.Seq = -1 }, func(e *impl.Event) { e.Seq = 121 },
		} {
			wrong[fmt.Sprint("Event ", at, i)] = worldBy(w, func(w *impl.World) { w.Told[at] = eventBy(e, change) })
		}
	}
	for _, id := range []int64{1, 3, 0} {
		for i, change := range []func(*impl.House){
			func(h *impl.House) { h.Up = false }, func(h *impl.House) { h.Pages = 5 }, func(h *impl.House) { h.Acked = -1 }, func(h *impl.House) { h.Log = h.Log[:1] },
			func(h *impl.House) { h.Log = nil }, func(h *impl.House) { h.Memo = impl.NewMemo() }, func(h *impl.House) { h.Shelf = impl.Shelf{} },
		} {
			other := cloneHouse(w.Houses[id])
			change(&other)
			wrong[fmt.Sprint("House ", id, i)] = worldBy(w, houseIs(id, other))
		}
	}
	for what, one := range wrong {
		if handWorld(one) {
			t.Fatalf("%s: the test itself takes for right %s", what, showWorld(one))
		}
		checkHistoryIs(t, what, one, nil, false, false)
	}
}

func TestVeryGreatAndVerySmallOnesOfAHistory(t *testing.T) {
	w := rowWorld(t, viewOf(7, 1, 3), 7, 5)
	w.Post, w.Clients = oneOfEachKind()[:2], someClients()
	w.Told = toldWorld(w).Told[20:30]
	numbers := []int64{-1 << 63, -1<<63 + 1, -256, -1, 0, 1, 4, 121, 1001, 1 << 32, 1<<32 + 1, 1<<63 - 1}
	rights := 0
	for at := range numbersOfWorld(&w) {
		for _, n := range numbers {
			changed := worldBy(w, func(w *impl.World) { *numbersOfWorld(w)[at] = n })
			checkHistoryPlainly(t, fmt.Sprint("number ", at, " is ", n), changed)
			rights += int(asNumber(impl.ToldRight(changed)))
		}
	}
	if rights < 20 {
		t.Fatalf("right were %d", rights)
	}
}

// Written into the one, looked at the other, and the other way round.
func TestWhatIsSureIsNewMemory(t *testing.T) {
	w, want := trueWorld(t), busyLog()[:7]
	got, other := impl.Surely(w), impl.Surely(w)
	checkSpansApart(t, "Surely", spansOfLog(got), append(spansOfWorld(w), spansOfLog(other)...))
	got = got[:cap(got)]
	for i := range got {
		got[i] = numberedEntry(-1, -2, -3, snapOp("over", "over"))
	}
	if !sameWorld(w, trueWorld(t)) || !slices.Equal(other, want) || !slices.Equal(impl.Surely(w), want) {
		t.Fatalf("written into the answer, the World became %s", showWorld(w))
	}
	overwriteWorld(w)
	if !slices.Equal(other, want) {
		t.Fatalf("written into the World, the answer became %v", other)
	}
}

func TestPlainsAtAreNewMemory(t *testing.T) {
	for count := range int64(21) {
		log := busyLog()
		want, _ := handPlainsAt(log, 4, count)
		got, _ := impl.PlainsAt(log, 4, count)
		other, _ := impl.PlainsAt(log, 4, count)
		checkSpansApart(t, "PlainsAt", spansOfPlains(got), append(spansOfLog(log), spansOfPlains(other)...))
		for _, p := range got {
			fill(p.Values[:cap(p.Values)], -1)
		}
		got = got[:cap(got)]
		for i := range got {
			got[i] = impl.Plain{Name: "over", Size: -1}
		}
		if again, _ := impl.PlainsAt(log, 4, count); !slices.Equal(log, busyLog()) || !sameSheets(other, want) || !sameSheets(again, want) {
			t.Fatalf("written into an answer, the next ones are %v and %v, and the log %v", other, again, log)
		}
		for i := range log {
			log[i] = numberedEntry(-1, -2, -3, snapOp("over", "over"))
		}
		if !sameSheets(other, want) {
			t.Fatalf("written into the log, the answer became %v", other)
		}
	}
}

// Texts are memory as well: these lie in the midst of others, and the answer has its own ones.
func TestTextsOfAHistoryAreNewMemory(t *testing.T) {
	long := strings.Repeat("abcd", 3)
	log := entriesFrom(makeOp(long[:4], 4), writeOp(long[4:8], 1, 5), snapOp(long[:4], long[1:3]), cloneOp(long[8:], long[2:4]), makeOp(long[3:4], 2))
	w := toldWorld(logsWorld(t, 4, viewOf(3, 1, 0), log, log[:4]))
	w.Told = append(w.Told, impl.Event{Client: 1, Tag: 1, Op: readOp(long[4:8], 1), Reply: impl.Reply{Value: 5}, Seq: 2})
	checkHistoryIs(t, "texts that lie in others", w, log[:4], true, true)
	for count := range int64(6) {
		checkPlainsAt(t, log, 4, count)
	}
}

// One list may stand in the World more than once.
func TestHistoryOverOneMemory(t *testing.T) {
	h := busyHouse(t, 9)
	w := toldWorld(impl.World{Houses: []impl.House{h, h, h, h}, View: viewOf(7, 1, 3, 0, 2), Post: oneOfEachKind(), Clients: someClients()})
	checkHistoryIs(t, "one House four times", w, h.Log, true, true)
}

func TestHistoryOfEmptyLists(t *testing.T) {
	w := worldBy(newWorld(t, 2, 2), all(postIs([]impl.Msg{}...), func(w *impl.World) { w.Told, w.Houses[0].Log, w.Houses[1].Log = []impl.Event{}, []impl.Entry{}, nil }))
	checkHistoryIs(t, "empty lists", w, nil, true, true)
	for _, log := range [][]impl.Entry{nil, {}} {
		if got, is := impl.PlainsAt(log, 1, 0); !is || len(got) > 0 {
			t.Fatal(got, is)
		}
		if got, is := impl.PlainsAt(log, 1, 1); is || len(got) > 0 {
			t.Fatal(got, is)
		}
	}
}

// goroutinesAfter waits for those that have answered already but are not yet gone.
func goroutinesAfter(before int) int {
	for range 1_000_000 {
		if runtime.NumGoroutine() <= before {
			break
		}
		runtime.Gosched()
	}
	return runtime.NumGoroutine()
}

func TestToldRightLeavesNobodyBehind(t *testing.T) {
	right := logsWorld(t, 4, viewOf(3, 1, 3), busyLog(), busyLog())
	right.Told = threeHundred(right)
	wrong := worldBy(right, func(w *impl.World) { w.Told[0].Seq, w.Told[299].Seq = 120, 120 })
	none := worldBy(right, func(w *impl.World) { w.Told = nil })
	before := runtime.NumGoroutine()
	for range 40 {
		if !impl.ToldRight(right) || impl.ToldRight(wrong) || !impl.ToldRight(none) || impl.ToldRight(impl.World{}) {
			t.Fatal("ToldRight is another one than before")
		}
	}
	if after := goroutinesAfter(before); after > before {
		t.Fatalf("there were %d goroutines, and now there are %d", before, after)
	}
}

// Many may ask of one World at once: nobody writes into it.
func TestManyAskAtOnce(t *testing.T) {
	right := logsWorld(t, 4, viewOf(3, 1, 3), busyLog(), busyLog())
	right.Told = threeHundred(right)
	wrong := worldBy(right, func(w *impl.World) { w.Told[299].Seq = 120 })
	kept := cloneWorld(right)
	var asking sync.WaitGroup
	for range 8 {
		asking.Go(func() {
			for range 10 {
				if !impl.ToldRight(right) || impl.ToldRight(wrong) || !impl.Prefixes(right) || len(impl.Surely(right)) != 20 {
					t.Error("it is another one than before")
				}
			}
		})
	}
	asking.Wait()
	if !sameWorld(right, kept) {
		t.Fatalf("the World became %s", showWorld(right))
	}
}

// checkOneRow asks for what must hold behind every Act.
func checkOneRow(t *testing.T, before []impl.Entry, acts []impl.Act, w impl.World) []impl.Entry {
	t.Helper()
	if !impl.Prefixes(w) || !impl.ToldRight(w) {
		t.Fatalf("after %v Prefixes is %v and ToldRight %v, of %s", acts, impl.Prefixes(w), impl.ToldRight(w), showWorld(w))
	}
	sure := impl.Surely(w)
	if len(sure) < len(before) || !slices.Equal(sure[:len(before)], before) {
		t.Fatalf("after %v Surely is %v; it was %v", acts, sure, before)
	}
	done, told := map[who]bool{}, map[who]bool{}
	for _, e := range sure {
		if done[who{e.Client, e.Tag}] {
			t.Fatalf("after %v a Tag stands twice in %v", acts, sure)
		}
		done[who{e.Client, e.Tag}] = true
	}
	for _, e := range w.Told {
		if told[who{e.Client, e.Tag}] || e.Op.Kind != impl.OpRead && !done[who{e.Client, e.Tag}] {
			t.Fatalf("after %v, of %v was told %v", acts, sure, w.Told)
		}
		told[who{e.Client, e.Tag}] = true
	}
	return sure
}

// rowRun goes on from Act to Act, and counts what was done.
type rowRun struct {
	now  impl.World
	sure []impl.Entry
	acts []impl.Act
	done [10]int
}

func (r *rowRun) does(t *testing.T, a impl.Act) {
	t.Helper()
	next, is := impl.Happen(r.now, a)
	r.now, r.acts = next, append(r.acts, a)
	r.sure = checkOneRow(t, r.sure, r.acts, next)
	if is && a.Kind > 0 && a.Kind < 10 {
		r.done[a.Kind]++
	}
}

func (r *rowRun) changesAndReads() (changes int, reads int) {
	for _, e := range r.now.Told {
		if e.Op.Kind == impl.OpRead {
			reads++
			continue
		}
		changes++
	}
	return changes, reads
}

// likelyOrReads asks more often what stands where another one would write.
func likelyOrReads(next func(int64) int64, w impl.World) impl.Act {
	a := likelyAct(next, w)
	if a.Kind == impl.AcAsk && next(3) == 0 {
		a.Op = readOp(a.Op.Name, a.Op.At)
	}
	return a
}

// Long rows of Acts without any order, but the same in each run.
func TestOneRowWhateverHappens(t *testing.T) {
	done, changes, reads, sure := [10]int{}, 0, 0, 0
	for seed := range uint32(200) {
		next := picked(1800 + seed)
		w, is := impl.NewWorld(1+next(24), int64(1+seed%4))
		if !is {
			t.Fatal("NewWorld is false")
		}
		run := rowRun{now: w}
		checkOneRow(t, nil, nil, w)
		for range 100 {
			run.does(t, likelyOrReads(next, run.now))
		}
		checkHistoryPlainly(t, "behind 100 Acts", run.now)
		if got := impl.Play(w, run.acts); !sameWorld(got, run.now) {
			t.Fatalf("Play comes to %s; one by one it was %s", showWorld(got), showWorld(run.now))
		}
		c, r := run.changesAndReads()
		changes, reads, sure = changes+c, reads+r, sure+len(run.sure)
		for kind := range done {
			done[kind] += run.done[kind]
		}
	}
	if slices.Min(done[1:]) < 30 || changes < 150 || reads < 30 || sure < 250 {
		t.Fatalf("done were %v, told %d changes and %d reads, and sure %d", done, changes, reads, sure)
	}
}

// Acts that are picked from all there are, each as likely as the others.
func TestOneRowOfAnyActs(t *testing.T) {
	numbers := slices.Concat(extremes, []int64{0, 1, 2, 3, 0, 1, 2, 3, 4, 5, 59, 60})
	for seed := range uint32(12) {
		next := picked(1860 + seed)
		w, _ := impl.NewWorld(2, int64(1+seed%4))
		run := rowRun{now: w}
		for range 100 {
			run.does(t, impl.Act{Kind: next(11), A: pickOf(next, numbers), Op: pickOf(next, typicalOps())})
		}
	}
}

// fallRun is a scripted row: something is on its way when this house falls, behind so many letters that were taken.
func fallRun(t *testing.T, members int64, fallen int64, letters int, order func(int64) int64) *rowRun {
	t.Helper()
	w, _ := impl.NewWorld(3, members)
	run := &rowRun{now: w}
	does := func(acts ...impl.Act) {
		for _, a := range acts {
			run.does(t, a)
		}
	}
	take := func(count int) {
		for range count {
			if len(run.now.Post) > 0 {
				run.does(t, takeAct(order(int64(len(run.now.Post)))))
			}
		}
	}
	does(askAct(0, makeOp("a", 3)))
	take(9)
	does(askAct(0, writeOp("a", 0, 7)), askAct(1, attachOp("a")), askAct(2, readOp("a", 0)), twiceAct(1))
	take(letters)
	does(fallAct(fallen), askAct(3, snapOp("a", "b")))
	take(2)
	does(viewAct(), againAct(0), againAct(1), againAct(2), againAct(3))
	take(3)
	for _, id := range run.now.View.Members {
		does(pushAct(id))
	}
	take(5)
	does(loseAct(0), joinAct(fallen), againAct(2), againAct(3), twiceAct(0))
	take(7)
	does(fallAct(run.now.View.Members[0]), viewAct(), againAct(0), againAct(1), againAct(2), againAct(3))
	for _, id := range run.now.View.Members {
		does(pushAct(id))
	}
	take(9)
	does(askAct(0, readOp("a", 0)), askAct(1, deleteOp("b")), askAct(2, writeOp("a", 0, 8)))
	take(12)
	return run
}

// The head falls, one in the middle, the tail, while letters come in one order or the other.
func TestOneRowWhoeverFalls(t *testing.T) {
	changes, reads := 0, 0
	for members := int64(1); members <= 4; members++ {
		for fallen := range members {
			for letters := range 8 {
				next := picked(uint32(1880 + letters))
				for _, order := range []func(int64) int64{func(int64) int64 { return 0 }, func(count int64) int64 { return count - 1 }, next} {
					run := fallRun(t, members, fallen, letters, order)
					if len(run.acts) > 100 {
						t.Fatalf("%d Acts", len(run.acts))
					}
					c, r := run.changesAndReads()
					changes, reads = changes+c, reads+r
				}
			}
		}
	}
	if changes < 900 || reads < 300 {
		t.Fatalf("told were %d changes and %d reads", changes, reads)
	}
}

// A World goes on for as long as there is room in it.
func TestOneRowOfManyEvents(t *testing.T) {
	w, _ := impl.NewWorld(24, 2)
	acts := []impl.Act{}
	for i := range int64(20) {
		acts = append(acts, askAct(i%4, pickOf(func(int64) int64 { return i }, busyOps())), takeAct(0), takeAct(0), takeAct(0), takeAct(0))
	}
	sure := []impl.Entry{}
	for i := range acts {
		sure = checkOneRow(t, sure, acts[:i+1], impl.Play(w, acts[:i+1]))
	}
	full := impl.Play(w, acts)
	for range 10 {
		more := []impl.Act{}
		for i := range int64(28) {
			more = append(more, askAct(i%4, readOp("b", i%5)), takeAct(0), takeAct(0))
		}
		full = impl.Play(full, more)
	}
	if len(full.Told) != 300 || len(sure) != 20 {
		t.Fatalf("told were %d, and sure %d", len(full.Told), len(sure))
	}
	checkHistoryIs(t, "300 Events", full, sure, true, true)
	checkHistory(t, "300 Events", full)
}

// Worlds without any order, but the same in each run, mostly near to right ones.
func TestHistoryAnswersAtEveryArgument(t *testing.T) {
	next, worlds := picked(1890), append(sureWorlds(t), someWorlds(t)...)
	numbers := slices.Concat(extremes, farNumbers, wrongNumbers, []int64{0, 1, 2, 3, 4, 24, 25, 120, 121, 300, 1000, 1001})
	told, begun, sure := 0, 0, 0
	for range 500 {
		w := toldWorld(pickOf(next, worlds))
		w.Told = w.Told[:next(int64(len(w.Told))+1)]
		if next(3) == 0 && len(w.Told) > 0 {
			w = worldBy(w, func(w *impl.World) {
				e := &w.Told[next(int64(len(w.Told)))]
				*pickOf(next, numbersOfEvent(e)) = next(9)
			})
		}
		if next(3) == 0 {
			w = spoilWorld(next, w, numbers)
		}
		if next(4) == 0 {
			w = worldBy(w, func(w *impl.World) { slices.Reverse(w.View.Members) })
		}
		checkHistory(t, "near to a right one", w)
		told, begun, sure = told+int(asNumber(handToldRight(w))), begun+int(asNumber(handPrefixes(w))), sure+len(handSurely(w))
		log := w.Houses[:min(1, len(w.Houses))]
		for _, h := range log {
			list := h.Log
			if next(2) == 0 {
				list = spoilEntries(next, h.Log, numbers, typicalOps())
			}
			checkPlainsAt(t, list, pickOf(next, []int64{1, 2, 4, 24, pickOf(next, numbers)}), pickOf(next, []int64{0, 1, int64(len(list)), pickOf(next, numbers)}))
		}
	}
	if told < 100 || told > 400 || begun < 100 || begun > 450 || sure < 1000 {
		t.Fatalf("of 500 Worlds %d were told right, in %d each Begins the one ahead, and %d was sure", told, begun, sure)
	}
}
