package tests

import (
	"fmt"
	"slices"
	"strings"
	"testing"

	"loop.example/g00372/impl"
)

// heardAnswer is all that Heard answers.
type heardAnswer struct {
	house impl.House
	sent  []impl.Msg
	is    bool
}

func (a heardAnswer) same(b heardAnswer) bool {
	return sameHouse(a.house, b.house) && slices.Equal(a.sent, b.sent) && a.is == b.is
}

func (a heardAnswer) clone() heardAnswer {
	return heardAnswer{cloneHouse(a.house), slices.Clone(a.sent), a.is}
}

func (a heardAnswer) spans() []span {
	return append(spansOfHouse(a.house), spansOfPost(a.sent)...)
}

// handStand is an Up House at its place in a right row.
type handStand struct {
	handHouse
	acked int64
	row   handRow
	place int
}

func (s handStand) now() impl.House {
	return s.house(s.acked)
}

func (s handStand) isTail() bool {
	return s.place == len(s.row.text)-1
}

func (s handStand) acks(seq int64) []impl.Msg {
	if s.place == 0 {
		return nil
	}
	return []impl.Msg{ackMsg(s.row.houseAt(s.place-1), s.row.number, seq)}
}

func (s handStand) givesOn(e impl.Entry) heardAnswer {
	if !s.isTail() {
		return heardAnswer{s.now(), []impl.Msg{passMsg(s.row.houseAt(s.place+1), s.row.number, e)}, true}
	}
	sent := []impl.Msg{}
	if told := s.memo[e.Client]; told.tag == e.Tag {
		sent = append(sent, tellMsg(s.row.number, changedBy(e, putSeq(0)), e.Seq, told.reply))
	}
	if e.Seq > s.acked {
		s.acked = e.Seq
	}
	return heardAnswer{s.now(), append(sent, s.acks(e.Seq)...), true}
}

// takes is nothing where the log would be none with the Entry.
func (s handStand) takes(e impl.Entry) heardAnswer {
	next, _, is := s.applied(e)
	if !is {
		return heardAnswer{house: s.now()}
	}
	s.handHouse = next
	return s.givesOn(e)
}

func (s handStand) hearsAsk(e impl.Entry) heardAnswer {
	_, r := s.shelf.did(e.Op)
	seq, there := handSeqs(s.log)[who{e.Client, e.Tag}]
	switch {
	case e.Op.Kind == 9 && s.isTail():
		return heardAnswer{s.now(), []impl.Msg{tellMsg(s.row.number, e, int64(len(s.log)), r)}, true}
	case e.Op.Kind == 9 || s.place > 0:
		return heardAnswer{house: s.now()}
	case there && s.memo[e.Client].tag == e.Tag:
		return s.givesOn(s.log[seq-1])
	}
	e.Seq = int64(len(s.log)) + 1
	return s.takes(e)
}

func (s handStand) hearsPass(e impl.Entry) heardAnswer {
	switch {
	case s.place == 0:
		return heardAnswer{house: s.now()}
	case slices.Contains(s.log, e):
		return s.givesOn(e)
	}
	return s.takes(e)
}

func (s handStand) hearsAck(seq int64) heardAnswer {
	if s.isTail() || seq <= s.acked || seq > int64(len(s.log)) {
		return heardAnswer{house: s.now()}
	}
	s.acked = seq
	return heardAnswer{s.now(), s.acks(seq), true}
}

func handHeard(h impl.House, id int64, v impl.View, m impl.Msg) heardAnswer {
	hand, right := handHouseOf(h)
	row, rowRight := handRowOf(v)
	if !right || !rowRight {
		return heardAnswer{}
	}
	place := row.placeOf(id)
	if !h.Up || place < 0 || !handMsg(m) || m.To != id || m.View != v.Number {
		return heardAnswer{house: h}
	}
	s := handStand{hand, h.Acked, row, place}
	switch m.Kind {
	case 1:
		return s.hearsAsk(m.Entry)
	case 2:
		return s.hearsPass(m.Entry)
	case 3:
		return s.hearsAck(m.Seq)
	}
	return heardAnswer{house: h}
}

func handPushed(h impl.House, id int64, v impl.View) ([]impl.Msg, bool) {
	_, right := handHouseOf(h)
	row, rowRight := handRowOf(v)
	if !right || !h.Up || !rowRight || row.next(id) < 0 {
		return nil, false
	}
	sent := []impl.Msg{}
	for _, e := range h.Log {
		if e.Seq > h.Acked {
			sent = append(sent, passMsg(row.next(id), v.Number, e))
		}
	}
	return sent, true
}

func handServes(v impl.View, o impl.Op) int64 {
	row, right := handRowOf(v)
	if !right || !handOp(o) {
		return -1
	}
	if o.Kind == 9 {
		return row.houseAt(len(row.text) - 1)
	}
	return row.houseAt(0)
}

// checkRowCall asks with one House and one View laid out in several ways; what else is handed in is texts alone.
func checkRowCall(t *testing.T, what string, h impl.House, v impl.View, texts []span, want heardAnswer, call func(impl.House, impl.View) heardAnswer) {
	t.Helper()
	want = want.clone()
	members := layMembers(v.Members)
	for i, given := range layHouse(h) {
		laid := members[i%len(members)]
		kept, keptMembers := given.kept(), slices.Clone(laid.memory)
		got := call(given.house, impl.View{Number: v.Number, Members: laid.list})
		if !given.is(kept) || !slices.Equal(laid.memory, keptMembers) {
			t.Fatalf("%s of %v in %v: the memory handed in became %v and %v; it was %v and %v", what, h, v, given, laid.memory, kept, keptMembers)
		}
		if !got.same(want) {
			t.Fatalf("%s of %v in %v is %v; wanted %v", what, h, v, got, want)
		}
		checkSpansApart(t, what, got.spans(), slices.Concat(given.spans(), texts, []span{spanOf(laid.memory)}))
	}
}

func checkHeardIs(t *testing.T, h impl.House, id int64, v impl.View, m impl.Msg, want heardAnswer) {
	t.Helper()
	what := fmt.Sprintf("Heard by %d of %v", id, m)
	checkRowCall(t, what, h, v, spansOfMsg(m), want, func(h impl.House, v impl.View) heardAnswer {
		got, sent, is := impl.Heard(h, id, v, m)
		return heardAnswer{got, sent, is}
	})
}

func checkPushedIs(t *testing.T, h impl.House, id int64, v impl.View, want []impl.Msg, is bool) {
	t.Helper()
	what := fmt.Sprintf("Pushed by %d", id)
	checkRowCall(t, what, h, v, nil, heardAnswer{sent: want, is: is}, func(h impl.House, v impl.View) heardAnswer {
		sent, told := impl.Pushed(h, id, v)
		return heardAnswer{sent: sent, is: told}
	})
}

func checkServesIs(t *testing.T, v impl.View, o impl.Op, want int64) {
	t.Helper()
	askedOfView(t, fmt.Sprintf("Serves with %v", o), v, want, func(given impl.View) int64 { return impl.Serves(given, o) })
}

// checkSentAround asks that all letters are right, of this View's Number, and go to a neighbour, or from the tail to the Client.
func checkSentAround(t *testing.T, row handRow, id int64, sent []impl.Msg) {
	t.Helper()
	for _, m := range sent {
		there := false
		switch m.Kind {
		case impl.MsPass:
			there = m.To == row.next(id)
		case impl.MsAck:
			there = m.To == row.prev(id)
		case impl.MsTell:
			there = m.To == m.Entry.Client && row.next(id) == -1
		}
		if !there || !impl.MsgOk(m) || m.View != row.number {
			t.Fatalf("%d in %v sends %v", id, row, m)
		}
	}
}

// checkHeard holds any letter to any House, right or not, against what was worked out by hand, and asks for what must hold whatever is Heard.
func checkHeard(t *testing.T, h impl.House, id int64, v impl.View, m impl.Msg) heardAnswer {
	t.Helper()
	want := handHeard(h, id, v, m)
	checkHeardIs(t, h, id, v, m, want)
	got, sent, is := impl.Heard(h, id, v, m)
	row, rowRight := handRowOf(v)
	_, right := handHouseOf(h)
	if !impl.HouseOk(got) || right && rowRight && (!impl.Begins(h.Log, got.Log) || len(got.Log) > len(h.Log)+1 || got.Acked < h.Acked || got.Up != h.Up || got.Pages != h.Pages) {
		t.Fatalf("Heard by %d of %v in %v: %v became %v", id, m, v, h, got)
	}
	if changed := len(sent) > 0 || len(got.Log) != len(h.Log) || got.Acked != h.Acked; right && rowRight && is != changed {
		t.Fatalf("Heard by %d of %v in %v: %v became %v, %v was sent, and %v told", id, m, v, h, got, sent, is)
	}
	checkSentAround(t, row, id, sent)
	return want
}

func checkPushed(t *testing.T, h impl.House, id int64, v impl.View) {
	t.Helper()
	want, is := handPushed(h, id, v)
	checkPushedIs(t, h, id, v, want, is)
	sent, _ := impl.Pushed(h, id, v)
	row, _ := handRowOf(v)
	checkSentAround(t, row, id, sent)
}

func checkServes(t *testing.T, v impl.View, o impl.Op) {
	t.Helper()
	checkServesIs(t, v, o, handServes(v, o))
}

// checkNothingHeard asks that the House is as it is, and that nothing is sent.
func checkNothingHeard(t *testing.T, h impl.House, id int64, v impl.View, m impl.Msg) {
	t.Helper()
	if got := checkHeard(t, h, id, v, m); !got.same(heardAnswer{house: h}) {
		t.Fatalf("%d in %v heeds %v", id, v, m)
	}
}

func someRows() []impl.View {
	return []impl.View{viewOf(1, 2), viewOf(7, 1, 3), viewOf(1000, 3, 0, 2), viewOf(12, 2, 0, 3, 1)}
}

// rowHouses are Up, with logs of several lengths of which nothing, some and all is Acked.
func rowHouses(t *testing.T) []impl.House {
	t.Helper()
	list := []impl.House{}
	for _, count := range []int{0, 1, 7, len(busyOps())} {
		for _, acked := range slices.Compact([]int{0, count / 2, count}) {
			list = append(list, replayedHouse(t, 4, entriesFrom(busyOps()[:count]...), int64(acked)))
		}
	}
	return append(list, replayedHouse(t, 1, entriesFrom(busyOps()[:7]...), 3), replayedHouse(t, 24, oneClientLong(9, 2, 1000), 4))
}

func busyHouse(t *testing.T, acked int64) impl.House {
	t.Helper()
	return replayedHouse(t, 4, entriesFrom(busyOps()...), acked)
}

// atEachPlace goes through all Members of some rows.
func atEachPlace(views []impl.View, look func(id int64, v impl.View)) {
	for _, v := range views {
		for _, id := range v.Members {
			look(id, v)
		}
	}
}

func readsOf(to int64, view int64) []impl.Msg {
	asked := []impl.Msg{}
	for i, o := range []impl.Op{readOp("b", 0), readOp("b", 1), readOp("b", 3), readOp("b", 5), readOp("a", 0), readOp("c", 0), readOp("none", 0), readOp("b", 255)} {
		asked = append(asked, askMsg(to, view, askedEntry(int64(i)%4, 1, o)), askMsg(to, view, askedEntry(int64(i+1)%4, 1000, o)))
	}
	return asked
}

// changesOf are of Tags that are new, the last ones and old ones, with the Op that the Log has and with others.
func changesOf(h impl.House, to int64, view int64) []impl.Msg {
	asked := []impl.Msg{}
	for client := range int64(4) {
		for _, o := range []impl.Op{makeOp("q", 3), atEpoch(writeOp("b", 2, 9), 2), attachOp("b"), deleteOp("none")} {
			e := askedEntry(client, min(1000, nextOf(h, client, o).Tag), o)
			asked = append(asked, askMsg(to, view, e), askMsg(to, view, changedBy(e, putTag(1000))))
		}
	}
	for i, e := range h.Log {
		e.Seq = 0
		asked = append(asked, askMsg(to, view, e))
		if i%3 == 0 {
			asked = append(asked, askMsg(to, view, changedBy(e, putOp(makeOp("q", 2)))), askMsg(to, view, changedBy(e, putTag(e.Tag+1))))
		}
	}
	return slices.DeleteFunc(asked, func(m impl.Msg) bool { return m.Entry.Tag > 1000 })
}

// notAlike are like this Entry but for one thing.
func notAlike(e impl.Entry) []impl.Entry {
	o, renamed := e.Op, e.Op
	o.Name += "z"
	renamed.Name = "zzz"
	return []impl.Entry{changedBy(e, putClient((e.Client+1)%4)), changedBy(e, putTag(min(1000, e.Tag+1))), changedBy(e, putTag(max(1, e.Tag-1))), changedBy(e, putOp(o)), changedBy(e, putOp(renamed)), changedBy(e, putOp(attachOp("q")))}
}

// passesOf have a Seq that is there, the next one, and one that is left out.
func passesOf(h impl.House, to int64, view int64) []impl.Msg {
	entries := slices.Clone(h.Log)
	for i := 0; i < len(h.Log); i += 1 + len(h.Log)/3 {
		entries = append(entries, notAlike(h.Log[i])...)
	}
	for client := range int64(4) {
		next := nextOf(h, client, atEpoch(writeOp("b", 1, 77), 2))
		next.Tag = min(1000, next.Tag)
		for _, tag := range []int64{next.Tag, 1000, next.Tag - 1, 1} {
			entries = append(entries, changedBy(next, putTag(max(1, tag))))
		}
		for _, seq := range []int64{next.Seq - 1, next.Seq + 1, next.Seq + 2, 120, 121, 1000} {
			entries = append(entries, changedBy(next, putSeq(max(1, seq))))
		}
	}
	passed := []impl.Msg{}
	for _, e := range entries {
		passed = append(passed, passMsg(to, view, e))
	}
	return passed
}

func acksOf(h impl.House, to int64, view int64) []impl.Msg {
	acked := []impl.Msg{}
	for _, seq := range []int64{1, 2, h.Acked - 1, h.Acked, h.Acked + 1, h.Acked + 2, int64(len(h.Log)) - 1, int64(len(h.Log)), int64(len(h.Log)) + 1, 119, 120} {
		if seq > 0 && seq < 121 {
			acked = append(acked, ackMsg(to, view, seq))
		}
	}
	return acked
}

func lettersFor(h impl.House, to int64, view int64) []impl.Msg {
	told := tellMsg(view, askedEntry(to, 1, readOp("b", 0)), 1, impl.Reply{Value: 3})
	return slices.Concat(readsOf(to, view), changesOf(h, to, view), passesOf(h, to, view), acksOf(h, to, view), []impl.Msg{told})
}

// liveRow is a row of Houses that go on from what they hear.
type liveRow struct {
	view   impl.View
	houses [4]impl.House
}

func newLiveRow(pages int64, v impl.View) *liveRow {
	row := liveRow{view: v}
	for _, id := range v.Members {
		row.houses[id], _ = impl.NewHouse(pages)
	}
	return &row
}

// hears holds what m.To hears against the Log and Acked that it must have then, and against what it must send.
func (row *liveRow) hears(t *testing.T, m impl.Msg, log []impl.Entry, acked int64, sent ...impl.Msg) {
	t.Helper()
	h := row.houses[m.To]
	want := heardAnswer{replayedHouse(t, h.Pages, log, acked), sent, true}
	checkHeardIs(t, h, m.To, row.view, m, want)
	checkHeard(t, h, m.To, row.view, m)
	row.houses[m.To], _, _ = impl.Heard(h, m.To, row.view, m)
}

func (row *liveRow) hearsNothing(t *testing.T, letters ...impl.Msg) {
	t.Helper()
	for _, m := range letters {
		checkNothingHeard(t, row.houses[m.To], m.To, row.view, m)
	}
}

func (row *liveRow) pushes(t *testing.T, id int64, sent ...impl.Msg) {
	t.Helper()
	checkPushedIs(t, row.houses[id], id, row.view, sent, true)
}

func TestRowOfThreeWorkedByHand(t *testing.T) {
	row := newLiveRow(4, viewOf(5, 2, 0, 3))
	made, written := askedEntry(1, 3, makeOp("a", 2)), askedEntry(1, 4, writeOp("a", 1, 7))
	first, second := changedBy(made, putSeq(1)), changedBy(written, putSeq(2))
	one, both := []impl.Entry{first}, []impl.Entry{first, second}
	row.hears(t, askMsg(2, 5, made), one, 0, passMsg(0, 5, first))
	row.hears(t, passMsg(0, 5, first), one, 0, passMsg(3, 5, first))
	row.hears(t, askMsg(2, 5, made), one, 0, passMsg(0, 5, first))
	row.pushes(t, 2, passMsg(0, 5, first))
	row.hears(t, passMsg(3, 5, first), one, 1, tellMsg(5, made, 1, impl.Reply{}), ackMsg(0, 5, 1))
	row.hears(t, askMsg(2, 5, written), both, 0, passMsg(0, 5, second))
	row.hearsNothing(t, askMsg(2, 5, made), ackMsg(2, 5, 3), passMsg(3, 5, changedBy(second, putSeq(3))))
	row.pushes(t, 2, passMsg(0, 5, first), passMsg(0, 5, second))
	row.hears(t, ackMsg(0, 5, 1), one, 1, ackMsg(2, 5, 1))
	row.hears(t, ackMsg(2, 5, 1), both, 1)
	row.pushes(t, 2, passMsg(0, 5, second))
	row.pushes(t, 0)
	row.hears(t, passMsg(0, 5, second), both, 1, passMsg(3, 5, second))
	row.hears(t, passMsg(3, 5, second), both, 2, tellMsg(5, written, 2, impl.Reply{}), ackMsg(0, 5, 2))
	// The Client asked for more since: who passes the first one once more is acked alone.
	row.hears(t, passMsg(3, 5, first), both, 2, ackMsg(0, 5, 1))
	row.hears(t, passMsg(3, 5, second), both, 2, tellMsg(5, written, 2, impl.Reply{}), ackMsg(0, 5, 2))
	read := askedEntry(0, 9, readOp("a", 1))
	row.hears(t, askMsg(3, 5, read), both, 2, tellMsg(5, read, 2, impl.Reply{Value: 7}))
	row.hearsNothing(t, askMsg(2, 5, read), askMsg(0, 5, read), askMsg(3, 5, written), ackMsg(3, 5, 1), passMsg(2, 5, first))
}

func TestRowOfTwoWorkedByHand(t *testing.T) {
	row := newLiveRow(1, viewOf(1000, 1, 0))
	attach, snap := askedEntry(3, 1000, attachOp("none")), askedEntry(0, 1, snapOp("a", "b"))
	first, second := changedBy(attach, putSeq(1)), changedBy(snap, putSeq(2))
	one, both := []impl.Entry{first}, []impl.Entry{first, second}
	row.hearsNothing(t, ackMsg(1, 1000, 1))
	row.hears(t, askMsg(1, 1000, attach), one, 0, passMsg(0, 1000, first))
	row.hears(t, askMsg(1, 1000, snap), both, 0, passMsg(0, 1000, second))
	// The second one comes first, and is not taken.
	row.hearsNothing(t, passMsg(0, 1000, second))
	row.hears(t, passMsg(0, 1000, first), one, 1, tellMsg(1000, attach, 1, impl.Reply{Code: impl.RpNone}), ackMsg(1, 1000, 1))
	row.hears(t, passMsg(0, 1000, second), both, 2, tellMsg(1000, snap, 2, impl.Reply{Code: impl.RpNone}), ackMsg(1, 1000, 2))
	row.hears(t, ackMsg(1, 1000, 2), both, 2)
	row.hearsNothing(t, ackMsg(1, 1000, 1), ackMsg(1, 1000, 2), ackMsg(1, 1000, 3))
	row.pushes(t, 1)
}

// Who is head and tail tells all by itself, and acks nobody.
func TestRowOfOneWorkedByHand(t *testing.T) {
	row := newLiveRow(2, viewOf(1, 3))
	asked := []impl.Entry{askedEntry(2, 1, makeOp("a", 2)), askedEntry(2, 5, attachOp("a")), askedEntry(1, 1, writeOp("a", 1, 9))}
	log := []impl.Entry{}
	for i, e := range asked {
		log = append(log, changedBy(e, putSeq(int64(i+1))))
	}
	row.hears(t, askMsg(3, 1, asked[0]), log[:1], 1, tellMsg(1, asked[0], 1, impl.Reply{}))
	row.hears(t, askMsg(3, 1, asked[1]), log[:2], 2, tellMsg(1, asked[1], 2, impl.Reply{Value: 1}))
	row.hears(t, askMsg(3, 1, asked[2]), log, 3, tellMsg(1, asked[2], 3, impl.Reply{Code: impl.RpFenced}))
	row.hears(t, askMsg(3, 1, asked[1]), log, 3, tellMsg(1, asked[1], 2, impl.Reply{Value: 1}))
	// Asked again with another Op, the Entry of the Log is told.
	row.hears(t, askMsg(3, 1, changedBy(asked[1], putOp(deleteOp("a")))), log, 3, tellMsg(1, asked[1], 2, impl.Reply{Value: 1}))
	row.hearsNothing(t, askMsg(3, 1, asked[0]), passMsg(3, 1, log[2]), passMsg(3, 1, nextOf(row.houses[3], 0, attachOp("a"))), ackMsg(3, 1, 3))
	read := askedEntry(2, 5, readOp("a", 1))
	row.hears(t, askMsg(3, 1, read), log, 3, tellMsg(1, read, 3, impl.Reply{}))
	if sent, is := impl.Pushed(row.houses[3], 3, row.view); is || len(sent) > 0 {
		t.Fatal(sent)
	}
}

// All letters to all Houses at all places; each Kind must have been heeded and passed over often enough.
func TestEveryLetterAtEveryPlace(t *testing.T) {
	heeded, passedOver := [5]int{}, [5]int{}
	for _, h := range rowHouses(t) {
		atEachPlace(someRows(), func(id int64, v impl.View) {
			for _, m := range lettersFor(h, id, v.Number) {
				if checkHeard(t, h, id, v, m).is {
					heeded[m.Kind]++
				} else {
					passedOver[m.Kind]++
				}
			}
			checkPushed(t, h, id, v)
		})
	}
	for kind := 1; kind <= 4; kind++ {
		if passedOver[kind] < 50 || (heeded[kind] < 50) != (kind == 4) {
			t.Fatalf("heeded were %v, passed over %v", heeded, passedOver)
		}
	}
}

func TestReadsAreToldAtTheTailAlone(t *testing.T) {
	codes := map[int64]int{}
	for _, h := range rowHouses(t) {
		atEachPlace(someRows(), func(id int64, v impl.View) {
			for _, m := range readsOf(id, v.Number) {
				if id != v.Members[len(v.Members)-1] {
					checkNothingHeard(t, h, id, v, m)
					continue
				}
				_, r := impl.Did(h.Shelf, m.Entry.Op)
				codes[r.Code]++
				checkHeardIs(t, h, id, v, m, heardAnswer{h, []impl.Msg{tellMsg(v.Number, m.Entry, int64(len(h.Log)), r)}, true})
			}
		})
	}
	if codes[impl.RpOk] < 20 || codes[impl.RpNone] < 20 || codes[impl.RpRange] < 20 {
		t.Fatal(codes)
	}
}

// A Client that reads asks nobody to keep it: the same Tag may be one that the Log has.
func TestReadsOfTagsThatTheLogHas(t *testing.T) {
	h, v := busyHouse(t, 3), viewOf(2, 0, 1)
	for _, e := range h.Log {
		read := askedEntry(e.Client, e.Tag, readOp("b", 0))
		checkHeardIs(t, h, 1, v, askMsg(1, 2, read), heardAnswer{h, []impl.Msg{tellMsg(2, read, 20, impl.Reply{Value: 15})}, true})
	}
}

func TestChangesAreTakenAtTheHeadAlone(t *testing.T) {
	for _, h := range rowHouses(t) {
		atEachPlace(someRows()[1:], func(id int64, v impl.View) {
			for client := range int64(4) {
				e := nextOf(h, client, makeOp("q", 3))
				m := askMsg(id, v.Number, changedBy(e, putSeq(0)))
				if e.Tag > 1000 {
					checkNothingHeard(t, h, id, v, m)
					continue
				}
				if id != v.Members[0] {
					checkNothingHeard(t, h, id, v, m)
					continue
				}
				want := replayedHouse(t, h.Pages, append(slices.Clip(h.Log), e), h.Acked)
				checkHeardIs(t, h, id, v, m, heardAnswer{want, []impl.Msg{passMsg(v.Members[1], v.Number, e)}, true})
			}
		})
	}
}

// Of each Client the last Tag is given on as the Log has it, whatever is asked; all Tags below it come to nothing, whether the Log has them or not.
func TestTagsAskedAgain(t *testing.T) {
	log := entriesOf(who{0, 3}, who{1, 7}, who{0, 5}, who{2, 1}, who{1, 900}, who{0, 9})
	last := map[int64]int64{0: 6, 1: 5, 2: 4}
	for _, acked := range []int64{0, 2, 6} {
		h := replayedHouse(t, 8, log, acked)
		for client, seq := range last {
			kept := log[seq-1]
			for _, o := range append(changingOps()[:6], kept.Op) {
				again := askMsg(3, 4, askedEntry(client, kept.Tag, o))
				checkHeardIs(t, h, 3, viewOf(4, 3, 1), again, heardAnswer{h, []impl.Msg{passMsg(1, 4, kept)}, true})
				alone := h
				alone.Acked = max(acked, seq)
				told := tellMsg(4, changedBy(kept, putSeq(0)), seq, h.Memo.Replies[client])
				checkHeardIs(t, h, 3, viewOf(4, 3), again, heardAnswer{alone, []impl.Msg{told}, true})
			}
			for tag := int64(1); tag < kept.Tag; tag += 1 + kept.Tag/50 {
				checkNothingHeard(t, h, 3, viewOf(4, 3, 1), askMsg(3, 4, askedEntry(client, tag, kept.Op)))
				checkNothingHeard(t, h, 3, viewOf(4, 3), askMsg(3, 4, askedEntry(client, tag, makeOp("q", 1))))
			}
		}
	}
}

func TestPassesOfTheNextSeq(t *testing.T) {
	for _, h := range rowHouses(t) {
		for client := range int64(4) {
			e := nextOf(h, client, atEpoch(writeOp("b", 1, 5), 2))
			if e.Tag > 1000 {
				continue
			}
			want := replayedHouse(t, h.Pages, append(slices.Clip(h.Log), e), h.Acked)
			checkHeardIs(t, h, 0, viewOf(3, 2, 0, 1), passMsg(0, 3, e), heardAnswer{want, []impl.Msg{passMsg(1, 3, e)}, true})
			want.Acked = e.Seq
			told := tellMsg(3, changedBy(e, putSeq(0)), e.Seq, want.Memo.Replies[client])
			checkHeardIs(t, h, 0, viewOf(3, 2, 0), passMsg(0, 3, e), heardAnswer{want, []impl.Msg{told, ackMsg(2, 3, e.Seq)}, true})
			checkNothingHeard(t, h, 0, viewOf(3, 0, 2), passMsg(0, 3, e))
			checkNothingHeard(t, h, 0, viewOf(3, 0), passMsg(0, 3, e))
			// Its Tag does not rise, or it is not the next one.
			for _, wrong := range []impl.Entry{changedBy(e, putTag(max(1, e.Tag-1))), changedBy(e, putSeq(e.Seq+1)), changedBy(e, putSeq(e.Seq+2)), changedBy(e, putSeq(1000))} {
				if wrong.Tag < e.Tag || wrong.Seq > e.Seq {
					checkNothingHeard(t, h, 0, viewOf(3, 2, 0, 1), passMsg(0, 3, wrong))
					checkNothingHeard(t, h, 0, viewOf(3, 2, 0), passMsg(0, 3, wrong))
				}
			}
		}
	}
}

// From the tail a Client hears of its last Tag alone, and who is ahead hears of each Seq.
func TestPassesOfWhatIsThere(t *testing.T) {
	for _, acked := range []int64{0, 1, 9, 19, 20} {
		h, told := busyHouse(t, acked), 0
		for _, e := range h.Log {
			checkHeardIs(t, h, 0, viewOf(3, 2, 0, 1), passMsg(0, 3, e), heardAnswer{h, []impl.Msg{passMsg(1, 3, e)}, true})
			want, sent := h, []impl.Msg{}
			want.Acked = max(acked, e.Seq)
			if h.Memo.Tags[e.Client] == e.Tag {
				told++
				sent = append(sent, tellMsg(3, changedBy(e, putSeq(0)), e.Seq, h.Memo.Replies[e.Client]))
			}
			checkHeardIs(t, h, 0, viewOf(3, 2, 0), passMsg(0, 3, e), heardAnswer{want, append(sent, ackMsg(2, 3, e.Seq)), true})
			checkNothingHeard(t, h, 0, viewOf(3, 0, 2), passMsg(0, 3, e))
			for _, other := range notAlike(e) {
				if other == e {
					continue
				}
				checkNothingHeard(t, h, 0, viewOf(3, 2, 0, 1), passMsg(0, 3, other))
				checkNothingHeard(t, h, 0, viewOf(3, 2, 0), passMsg(0, 3, other))
			}
		}
		if told != 4 {
			t.Fatalf("%d were told", told)
		}
	}
}

// What differs in one number or text alone is another Entry.
func TestPassesThatAreNearlyAlike(t *testing.T) {
	log := entriesFrom(makeOp("a", 3), atEpoch(writeOp("a", 1, 5), 4), snapOp("a", "b"), atEpoch(resizeOp("a", 2), 3), atEpoch(trimOp("a", 1), 2))
	h := replayedHouse(t, 4, log, 2)
	for _, e := range log {
		for at := range numbersOfEntry(&e) {
			for _, by := range []int64{-1, 1} {
				other := changedBy(e, func(e *impl.Entry) { *numbersOfEntry(e)[at] += by })
				checkNothingHeard(t, h, 1, viewOf(9, 0, 1), passMsg(1, 9, other))
				checkNothingHeard(t, h, 1, viewOf(9, 0, 1, 2), passMsg(1, 9, other))
			}
		}
		for _, o := range []impl.Op{{Kind: e.Op.Kind, Name: "ab"}, {Kind: e.Op.Kind, Name: "a", Other: "c"}} {
			other := changedBy(e, func(e *impl.Entry) { e.Op.Name, e.Op.Other = o.Name, o.Other })
			checkNothingHeard(t, h, 1, viewOf(9, 0, 1), passMsg(1, 9, other))
		}
	}
}

func TestAcksOfEverySeq(t *testing.T) {
	for _, acked := range []int64{0, 1, 7, 19, 20} {
		h := busyHouse(t, acked)
		for seq := int64(1); seq <= 120; seq++ {
			want := h
			want.Acked = seq
			if seq <= acked || seq > 20 {
				checkNothingHeard(t, h, 0, viewOf(3, 0, 1), ackMsg(0, 3, seq))
				checkNothingHeard(t, h, 0, viewOf(3, 2, 0, 1), ackMsg(0, 3, seq))
			} else {
				checkHeardIs(t, h, 0, viewOf(3, 0, 1), ackMsg(0, 3, seq), heardAnswer{want, nil, true})
				checkHeardIs(t, h, 0, viewOf(3, 2, 0, 1), ackMsg(0, 3, seq), heardAnswer{want, []impl.Msg{ackMsg(2, 3, seq)}, true})
			}
			if seq%6 == 0 || seq == acked || seq == acked+1 {
				checkNothingHeard(t, h, 0, viewOf(3, 1, 0), ackMsg(0, 3, seq))
				checkNothingHeard(t, h, 0, viewOf(3, 0), ackMsg(0, 3, seq))
			}
		}
	}
}

// A Log of 119 has room for one more, one of 120 has none; what is there is given on all the same.
func TestLongestLogsInTheRow(t *testing.T) {
	for _, count := range []int{118, 119, 120} {
		h := replayedHouse(t, 6, entriesLong(count), 117)
		e, there := nextOf(h, 2, makeOp("q", 3)), h.Log[count-1]
		asked := changedBy(e, putSeq(0))
		for _, c := range []struct {
			v    impl.View
			m    impl.Msg
			some bool
		}{
			{viewOf(3, 1, 0), askMsg(1, 3, asked), count < 120},
			{viewOf(3, 1), askMsg(1, 3, asked), count < 120},
			{viewOf(3, 0, 1, 2), passMsg(1, 3, e), count < 120},
			{viewOf(3, 0, 1), passMsg(1, 3, e), count < 120},
			{viewOf(3, 1, 0), askMsg(1, 3, changedBy(there, putSeq(0))), true},
			{viewOf(3, 0, 1), passMsg(1, 3, there), true},
			{viewOf(3, 0, 1, 2), passMsg(1, 3, there), true},
			{viewOf(3, 1, 0), ackMsg(1, 3, int64(count)), true},
			{viewOf(3, 0, 1), askMsg(1, 3, askedEntry(0, 1, readOp("b", 0))), true},
		} {
			if got := checkHeard(t, h, 1, c.v, c.m); got.is != c.some {
				t.Fatalf("%v to a Log of %d in %v is %v", c.m, count, c.v, got.is)
			}
		}
		checkPushed(t, h, 1, viewOf(3, 1, 0))
	}
}

func TestLettersOfAnotherViewOrToAnother(t *testing.T) {
	for _, h := range []impl.House{busyHouse(t, 5), replayedHouse(t, 4, nil, 0)} {
		atEachPlace([]impl.View{viewOf(500, 2), viewOf(500, 1, 0), viewOf(500, 3, 1, 2)}, func(id int64, v impl.View) {
			for i, m := range lettersFor(h, id, 500) {
				for _, number := range []int64{499, 501} {
					checkNothingHeard(t, h, id, v, msgBy(m, func(m *impl.Msg) { m.View = number }))
				}
				if i%4 > 0 {
					continue
				}
				for to := range int64(4) {
					if to != id {
						checkNothingHeard(t, h, id, v, msgBy(m, func(m *impl.Msg) { m.To = to }))
						checkHeard(t, h, to, v, m)
					}
				}
			}
		})
	}
}

// What a Client is told goes to no House, though the Client has the number of one.
func TestWhatIsToldIsHeardByNoHouse(t *testing.T) {
	h := busyHouse(t, 5)
	atEachPlace(someRows(), func(id int64, v impl.View) {
		for _, e := range h.Log {
			checkNothingHeard(t, h, id, v, tellMsg(v.Number, askedEntry(id, e.Tag, e.Op), e.Seq, impl.Reply{}))
		}
	})
}

func TestPushedWorkedByHand(t *testing.T) {
	for _, h := range append(rowHouses(t), replayedHouse(t, 24, entriesLong(119), 117), replayedHouse(t, 3, entriesLong(120), 0), replayedHouse(t, 3, entriesLong(120), 120)) {
		atEachPlace(someRows(), func(id int64, v impl.View) {
			place := slices.Index(v.Members, id)
			if place == len(v.Members)-1 {
				checkPushedIs(t, h, id, v, nil, false)
				return
			}
			want := []impl.Msg{}
			for _, e := range h.Log[h.Acked:] {
				want = append(want, passMsg(v.Members[place+1], v.Number, e))
			}
			checkPushedIs(t, h, id, v, want, true)
			checkPushed(t, h, id, v)
		})
	}
}

// Whoever Pushes in a row of which nobody was heard brings all to the end, whatever it had been Acked.
func TestWhatIsPushedIsTaken(t *testing.T) {
	for _, acked := range []int64{0, 1, 11, 19} {
		ahead, v := busyHouse(t, acked), viewOf(8, 3, 1)
		next := replayedHouse(t, 4, ahead.Log[:acked], acked)
		sent, _ := impl.Pushed(ahead, 3, v)
		for _, m := range sent {
			answers, is := []impl.Msg{}, false
			next, answers, is = impl.Heard(next, 1, v, m)
			if !is || answers[len(answers)-1] != ackMsg(3, 8, m.Entry.Seq) {
				t.Fatalf("%v is answered by %v, %v", m, answers, is)
			}
			ahead, _, _ = impl.Heard(ahead, 3, v, answers[len(answers)-1])
		}
		if !sameHouse(ahead, next) || ahead.Acked != 20 {
			t.Fatalf("it comes to %v and %v", ahead, next)
		}
	}
}

func TestServesWorkedByHand(t *testing.T) {
	for _, members := range allRows() {
		for _, number := range []int64{1, 2, 999, 1000} {
			v := viewOf(number, members...)
			for _, o := range oneOfEach() {
				want := members[0]
				if o.Kind == impl.OpRead {
					want = members[len(members)-1]
				}
				checkServesIs(t, v, o, want)
			}
		}
	}
	for kind := int64(1); kind <= lastKind; kind++ {
		for _, o := range opsOfKind(kind) {
			checkServes(t, viewOf(4, 1, 0), o)
		}
	}
}

func someWrongViews() []impl.View {
	return []impl.View{{}, viewOf(1), viewOf(0, 1, 0), viewOf(1001, 1, 0), viewOf(-1, 1, 0), viewOf(3, 1, 1), viewOf(3, 1, 0, 1), viewOf(3, 1, 4), viewOf(3, -1, 1), viewOf(3, 0, 1, 2, 3, 0), viewOf(3, 3, 2, 1, 0, 4), viewOf(3, slices.Repeat([]int64{1}, 300)...)}
}

func TestServesWithWhatIsNotRight(t *testing.T) {
	for _, v := range someWrongViews() {
		for _, o := range oneOfEach() {
			checkServesIs(t, v, o, -1)
		}
	}
	for _, o := range oneOfEach() {
		for _, wrong := range append(wrongByOneField(o), impl.Op{}, impl.Op{Kind: 10, Name: "a"}, impl.Op{Name: "a"}, impl.Op{Kind: -1, Name: "a"}) {
			checkServesIs(t, viewOf(3, 1, 0), wrong, -1)
			checkServesIs(t, viewOf(3, 2), wrong, -1)
		}
	}
	for _, n := range slices.Concat(extremes, farNumbers, wrongNumbers) {
		for _, o := range oneOfEach() {
			checkServes(t, viewOf(n, 1, 0), o)
			checkServes(t, viewOf(3, n, 0), o)
			checkServes(t, viewOf(3, 0, n), o)
		}
		checkServes(t, viewOf(3, 1, 0), impl.Op{Kind: n, Name: "a"})
		checkServes(t, viewOf(3, 1, 0), readOp("a", n))
		checkServes(t, viewOf(3, 1, 0), writeOp("a", n, n))
	}
}

// heededLetters would be heeded by a right House of busyOps in this View.
func heededLetters(v impl.View) map[int64][]impl.Msg {
	head, tail, seq := v.Members[0], v.Members[len(v.Members)-1], int64(20)
	next := impl.Entry{Seq: 21, Client: 1, Tag: 999, Op: attachOp("b")}
	letters := map[int64][]impl.Msg{
		head: {askMsg(head, v.Number, changedBy(next, putSeq(0))), askMsg(head, v.Number, changedBy(busyLog()[seq-1], putSeq(0)))},
	}
	letters[tail] = append(letters[tail], askMsg(tail, v.Number, askedEntry(0, 1, readOp("b", 0))))
	if head != tail {
		letters[head] = append(letters[head], ackMsg(head, v.Number, seq))
		letters[tail] = append(letters[tail], passMsg(tail, v.Number, next), passMsg(tail, v.Number, busyLog()[seq-1]))
	}
	return letters
}

func busyLog() []impl.Entry {
	return entriesFrom(busyOps()...)
}

func TestHeededLettersAreHeeded(t *testing.T) {
	h := busyHouse(t, 5)
	for _, v := range someRows() {
		for id, letters := range heededLetters(v) {
			for _, m := range letters {
				if !checkHeard(t, h, id, v, m).is {
					t.Fatalf("%d in %v does not heed %v", id, v, m)
				}
			}
		}
	}
}

// checkNoHouseInRow asks what a House that is not right answers to everything.
func checkNoHouseInRow(t *testing.T, what string, h impl.House) {
	t.Helper()
	if _, right := handHouseOf(h); right {
		t.Fatalf("%s: the test itself takes it for right", what)
	}
	v := viewOf(3, 0, 1)
	for id, letters := range heededLetters(v) {
		for _, m := range letters {
			checkHeardIs(t, h, id, v, m, heardAnswer{})
		}
	}
	// Whatever else is wrong, the House comes first.
	checkHeardIs(t, h, 3, v, impl.Msg{}, heardAnswer{})
	checkPushedIs(t, h, 0, v, nil, false)
	checkPushedIs(t, h, -1, v, nil, false)
}

func TestWrongHousesInTheRow(t *testing.T) {
	h := busyHouse(t, 5)
	for what, s := range otherShelves(h.Shelf) {
		wrong := h
		wrong.Shelf = s
		checkNoHouseInRow(t, what, wrong)
	}
	for _, m := range otherMemos(h.Memo) {
		wrong := h
		wrong.Memo = m
		if !sameMemo(m, h.Memo) {
			checkNoHouseInRow(t, "another Memo", wrong)
		}
	}
	for what, log := range otherLogs(h.Log) {
		wrong := h
		wrong.Log = log
		checkNoHouseInRow(t, what, wrong)
	}
	for _, n := range []int64{-1, 21, 120, 1 << 32, -1 << 63, 1<<63 - 1} {
		wrong := h
		wrong.Acked = n
		checkNoHouseInRow(t, "Acked", wrong)
		wrong.Acked, wrong.Pages = 5, n
		checkNoHouseInRow(t, "Pages", wrong)
	}
	for what, wrong := range map[string]impl.House{
		"all but Up": {Pages: h.Pages, Log: h.Log, Acked: h.Acked, Shelf: h.Shelf, Memo: h.Memo},
		"Up alone":   {Up: true},
		"a Log":      {Log: h.Log},
		"Acked":      {Acked: 1},
		"a Memo":     {Memo: impl.NewMemo()},
	} {
		checkNoHouseInRow(t, what, wrong)
	}
}

// The zero House is right, but it hears nothing and pushes nothing.
func TestHousesThatAreNotUpInTheRow(t *testing.T) {
	empty := impl.House{Log: []impl.Entry{}, Shelf: impl.Shelf{Pool: poolOf([]int64{}, []int64{}), Books: []impl.Book{}}, Memo: impl.Memo{Tags: []int64{}, Replies: []impl.Reply{}}}
	first := impl.Entry{Seq: 1, Client: 1, Tag: 1, Op: makeOp("a", 2)}
	for _, h := range []impl.House{{}, empty} {
		atEachPlace(append(someRows(), someWrongViews()[1:9]...), func(id int64, v impl.View) {
			for _, m := range []impl.Msg{{}, askMsg(id, v.Number, changedBy(first, putSeq(0))), passMsg(id, v.Number, first), ackMsg(id, v.Number, 1), askMsg(id, v.Number, askedEntry(0, 1, readOp("a", 0)))} {
				checkHeardIs(t, h, id, v, m, heardAnswer{})
			}
			checkPushedIs(t, h, id, v, nil, false)
		})
	}
}

func TestWrongViewsOfARow(t *testing.T) {
	h := busyHouse(t, 5)
	for _, v := range someWrongViews() {
		for id := int64(-1); id <= 4; id++ {
			for _, letters := range heededLetters(viewOf(max(1, min(1000, v.Number)), 1, 0)) {
				for _, m := range letters {
					checkHeardIs(t, h, id, v, m, heardAnswer{})
					checkHeardIs(t, h, id, v, msgBy(m, func(m *impl.Msg) { m.To, m.View = id, v.Number }), heardAnswer{})
				}
			}
			checkHeardIs(t, impl.House{}, id, v, impl.Msg{}, heardAnswer{})
			checkPushedIs(t, h, id, v, nil, false)
		}
	}
	for _, n := range wrongNumbers {
		for _, v := range []impl.View{viewOf(n, 1, 0), viewOf(3, n, 1), viewOf(3, 1, n)} {
			checkHeardIs(t, h, 1, v, ackMsg(1, 3, 20), heardAnswer{})
			checkHeardIs(t, h, n, v, ackMsg(1, 3, 20), heardAnswer{})
			checkPushedIs(t, h, 1, v, nil, false)
			checkPushedIs(t, h, n, v, nil, false)
		}
	}
}

func TestIdsThatAreNoMembers(t *testing.T) {
	h := busyHouse(t, 5)
	for _, v := range someRows() {
		for _, id := range slices.Concat(nearHouses, farNumbers, wrongNumbers) {
			if slices.Contains(v.Members, id) {
				continue
			}
			for _, letters := range heededLetters(v) {
				for _, m := range letters {
					checkNothingHeard(t, h, id, v, m)
					checkNothingHeard(t, h, id, v, msgBy(m, func(m *impl.Msg) { m.To = id }))
				}
			}
			checkPushedIs(t, h, id, v, nil, false)
		}
	}
}

func TestWrongLettersAreNotHeard(t *testing.T) {
	h := busyHouse(t, 5)
	atEachPlace([]impl.View{viewOf(7, 2), viewOf(7, 1, 0)}, func(id int64, v impl.View) {
		for _, wrong := range wrongMsgs() {
			checkNothingHeard(t, h, id, v, wrong)
			if turned := msgBy(wrong, func(m *impl.Msg) { m.To = id }); !handMsg(turned) {
				checkNothingHeard(t, h, id, v, turned)
			}
		}
		for _, m := range heededLetters(v)[id] {
			checkSpoiledLetters(t, h, id, v, m)
		}
	})
}

// checkSpoiledLetters puts something wrong or something else into each field of one that is heeded.
func checkSpoiledLetters(t *testing.T, h impl.House, id int64, v impl.View, m impl.Msg) {
	t.Helper()
	for at := range numbersOfMsg(&m) {
		for _, n := range []int64{-1 << 63, -1, 0, 1, 4, 21, 22, 121, 1001, 1 << 32, 1<<63 - 1} {
			changed := msgBy(m, func(m *impl.Msg) { *numbersOfMsg(m)[at] = n })
			if handMsg(changed) {
				checkHeard(t, h, id, v, changed)
			} else {
				checkNothingHeard(t, h, id, v, changed)
			}
		}
	}
	for _, name := range []string{"", "A", "abcde", "a\x00"} {
		checkNothingHeard(t, h, id, v, msgBy(m, func(m *impl.Msg) { m.Entry.Op.Other = name + "-" }))
		if m.Kind != impl.MsAck || name != "" {
			checkNothingHeard(t, h, id, v, msgBy(m, func(m *impl.Msg) { m.Entry.Op.Name = name }))
		}
	}
}

func TestVeryGreatAndVerySmallOnesInTheRow(t *testing.T) {
	h, v := replayedHouse(t, 4, entriesFrom(busyOps()[:9]...), 3), viewOf(6, 1, 0, 2)
	m := passMsg(0, 6, nextOf(h, 2, attachOp("b")))
	for i := range numbersOfHouse(&h) {
		for _, n := range slices.Concat(extremes, wrongNumbers) {
			changed := cloneHouse(h)
			*numbersOfHouse(&changed)[i] = n
			got, sent, is := impl.Heard(changed, 0, v, m)
			if want := handHeard(changed, 0, v, m); !want.same(heardAnswer{got, sent, is}) {
				t.Fatalf("Heard of %v by %v is %v, %v, %v; wanted %v", m, changed, got, sent, is, want)
			}
			pushed, done := impl.Pushed(changed, 0, v)
			if want, is := handPushed(changed, 0, v); done != is || !slices.Equal(pushed, want) {
				t.Fatalf("Pushed of %v is %v, %v; wanted %v, %v", changed, pushed, done, want, is)
			}
		}
	}
	for _, n := range slices.Concat(extremes, farNumbers, wrongNumbers) {
		for at := range numbersOfMsg(&m) {
			checkHeard(t, h, 0, v, msgBy(m, func(m *impl.Msg) { *numbersOfMsg(m)[at] = n }))
		}
		checkHeard(t, h, n, v, m)
		checkHeard(t, h, n, v, msgBy(m, func(m *impl.Msg) { m.To = n }))
		checkHeard(t, h, 0, viewOf(n, 1, 0, 2), m)
		checkHeard(t, h, 0, viewOf(6, 1, 0, n), m)
		checkPushed(t, h, n, v)
	}
}

// answersInRow are what is answered of this House: gone on, and as it is.
func answersInRow(h impl.House, v impl.View) map[string]func() heardAnswer {
	answers := map[string]func() heardAnswer{}
	put := func(what string, id int64, m impl.Msg) {
		answers[what] = func() heardAnswer {
			got, sent, is := impl.Heard(h, id, v, m)
			return heardAnswer{got, sent, is}
		}
	}
	next, last := impl.Entry{Seq: 21, Client: 1, Tag: 999, Op: snapOp("b", "q")}, busyLog()[19]
	asked := changedBy(next, putSeq(0))
	put("MsAsk, new", 1, askMsg(1, 3, asked))
	put("MsAsk, the last one", 1, askMsg(1, 3, changedBy(last, putSeq(0))))
	put("MsAsk, an old one", 1, askMsg(1, 3, changedBy(busyLog()[0], putSeq(0))))
	put("MsAsk of OpRead", 2, askMsg(2, 3, askedEntry(0, 1, readOp("b", 0))))
	put("MsPass, next", 0, passMsg(0, 3, next))
	put("MsPass, there", 0, passMsg(0, 3, last))
	put("MsPass, next, at the tail", 2, passMsg(2, 3, next))
	put("MsPass, there, at the tail", 2, passMsg(2, 3, last))
	put("MsPass, left out", 2, passMsg(2, 3, changedBy(next, putSeq(22))))
	put("MsAck", 0, ackMsg(0, 3, 20))
	put("MsAck, too high", 0, ackMsg(0, 3, 21))
	put("a Msg of another View", 0, ackMsg(0, 4, 20))
	put("a Msg to another", 0, ackMsg(1, 3, 20))
	put("no Msg", 0, impl.Msg{})
	put("no Member", 3, ackMsg(3, 3, 20))
	answers["Pushed"] = func() heardAnswer {
		sent, is := impl.Pushed(h, 1, v)
		return heardAnswer{sent: sent, is: is}
	}
	return answers
}

func overwriteHeard(a heardAnswer) {
	overwriteHouse(a.house)
	overwritePost(a.sent)
}

// Written into the one, looked at the other, and the other way round.
func TestWhatIsHeardIsNewMemory(t *testing.T) {
	for _, acked := range []int64{0, 5} {
		for what := range answersInRow(impl.House{}, impl.View{}) {
			h, v := busyHouse(t, acked), viewOf(3, slices.Concat([]int64{1, 0, 2}, []int64{3, -1})[:3]...)
			kept, got := cloneHouse(h), answersInRow(h, v)[what]()
			told := got.clone()
			overwriteHeard(got)
			if !sameHouse(h, kept) || !sameView(v, viewOf(3, 1, 0, 2)) {
				t.Fatalf("%s: written into the answer, what was handed in became %v and %v; it was %v", what, h, v, kept)
			}
			got = answersInRow(h, v)[what]()
			overwriteHouse(h)
			fill(v.Members[:cap(v.Members)], -701)
			if !got.same(told) {
				t.Fatalf("%s: written into what was handed in, the answer became %v; it was %v", what, got, told)
			}
		}
	}
}

// Two answers that go on from one House have nothing of each other, and the letters of one have nothing of its House.
func TestAnswersThatGoOnFromOneHouse(t *testing.T) {
	for _, acked := range []int64{0, 5} {
		h, v := busyHouse(t, acked), viewOf(3, 1, 0, 2)
		for what, ask := range answersInRow(h, v) {
			first, second := ask(), ask()
			checkSpansApart(t, what, first.spans(), second.spans())
			if !first.same(second) {
				t.Fatalf("%s is once %v and once %v", what, first, second)
			}
			kept := second.clone()
			overwriteHeard(first)
			if third := ask(); !third.same(kept) || !second.same(kept) {
				t.Fatalf("%s: written into an answer, the next one became %v; it was %v", what, third, kept)
			}
			overwritePost(second.sent)
			if !sameHouse(second.house, kept.house) {
				t.Fatalf("%s: written into its letters, the House became %v; it was %v", what, second.house, kept.house)
			}
		}
	}
}

// Texts are memory as well: these lie in the midst of others, and the answer has its own ones.
func TestTextsInTheRowAreNewMemory(t *testing.T) {
	long := strings.Repeat("abcd", 3)
	log := entriesFrom(makeOp(long[:4], 4), writeOp(long[4:8], 1, 5), snapOp(long[:4], long[1:3]), cloneOp(long[8:], long[2:4]))
	h := replayedHouse(t, 4, log, 1)
	for i := range h.Shelf.Books {
		h.Shelf.Books[i].Name = long[strings.Index(long, h.Shelf.Books[i].Name):][:len(h.Shelf.Books[i].Name)]
	}
	atEachPlace(someRows(), func(id int64, v impl.View) {
		for _, e := range log {
			checkHeard(t, h, id, v, askMsg(id, v.Number, changedBy(e, putSeq(0))))
			checkHeard(t, h, id, v, passMsg(id, v.Number, e))
		}
		for _, o := range []impl.Op{makeOp(long[1:2], 2), attachOp(long[:4]), snapOp(long[:4], long[3:6]), deleteOp(long[1:3])} {
			e := nextOf(h, 1, o)
			checkHeard(t, h, id, v, passMsg(id, v.Number, e))
			checkHeard(t, h, id, v, askMsg(id, v.Number, changedBy(e, putSeq(0))))
		}
		checkHeard(t, h, id, v, askMsg(id, v.Number, askedEntry(0, 1, readOp(long[:4], 0))))
		checkPushed(t, h, id, v)
	})
}

// likelyLetter is mostly one that a House at this place heeds.
func likelyLetter(next func(int64) int64, hand handHouse, h impl.House, id int64, number int64) impl.Msg {
	e := likelyEntry(next, hand, []int64{0, 1, 2, 3})
	if len(h.Log) > 0 && next(3) == 0 {
		e = pickOf(next, h.Log)
	}
	switch next(5) {
	case 0:
		return askMsg(id, number, changedBy(e, putSeq(0)))
	case 1:
		return askMsg(id, number, askedEntry(e.Client, e.Tag, readOp(e.Op.Name, next(5))))
	case 2:
		return ackMsg(id, number, 1+next(int64(len(h.Log))+2))
	}
	return passMsg(id, number, e)
}

// Houses, rows and letters without any order, but the same in each run, mostly near to right ones.
func TestRowsAnswerAtEveryArgument(t *testing.T) {
	next, rows, ops := picked(1600), allRows(), slices.Concat(changingOps(), wrongByOneField(makeOp("a", 3)))
	numbers := slices.Concat(extremes, farNumbers, wrongNumbers, []int64{0, 1, 2, 3, 4, 24, 25, 120, 121, 1000, 1001})
	rights, heeded := 0, 0
	for range 2000 {
		hand, v := newHandHouse(1+next(24)), viewOf(1+next(1000), pickOf(next, rows)...)
		for range next(1 + next(30)) {
			hand, _ = hand.grown(likelyEntry(next, hand, []int64{0, 1, 2, 3}))
		}
		h, id := hand.house(next(int64(len(hand.log)+1))), pickOf(next, v.Members)
		m := likelyLetter(next, hand, h, id, v.Number)
		switch next(8) {
		case 0:
			h = spoilHouse(next, h, numbers, ops)
		case 1:
			v = spoilView(next, v, numbers)
		case 2:
			*pickOf(next, numbersOfMsg(&m)) = pickOf(next, numbers)
		case 3:
			id = pickOf(next, numbers)
		}
		_, right := handHouseOf(h)
		is := checkHeard(t, h, id, v, m).is
		checkPushed(t, h, id, v)
		checkServes(t, v, m.Entry.Op)
		rights, heeded = rights+int(asNumber(right)), heeded+int(asNumber(is))
	}
	if rights < 1500 || rights > 1990 || heeded < 400 || heeded > 1500 {
		t.Fatalf("of 2000 Houses %d were right, and %d heeded what they heard", rights, heeded)
	}
}

// letterRun is a row of Houses and the letters between them that come late, twice or never.
type letterRun struct {
	*liveRow
	post []impl.Msg
	told []impl.Msg
	tags [4]int64
}

// asks lets a Client ask, once more or for something new; its last Op is kept in the Log alone, so asked again it asks for something else.
func (r *letterRun) asks(next func(int64) int64) {
	client, head := next(4), r.view.Members[0]
	h := r.houses[head]
	hand, _ := handReplayed(h.Pages, h.Log)
	e := likelyEntry(next, hand, []int64{client})
	if r.tags[client] == 0 || next(3) > 0 {
		r.tags[client]++
	}
	m := askMsg(head, r.view.Number, askedEntry(client, r.tags[client], e.Op))
	if next(6) == 0 {
		m = askMsg(r.view.Members[len(r.view.Members)-1], r.view.Number, askedEntry(client, 1+next(1000), readOp(e.Op.Name, next(4))))
	}
	r.post = append(r.post, m)
}

// delivers one letter, which may stay, so that it comes again, or be lost.
func (r *letterRun) delivers(t *testing.T, at int64, stays bool, lost bool) {
	t.Helper()
	m := r.post[at]
	if !stays {
		r.post = slices.Delete(r.post, int(at), int(at)+1)
	}
	if m.Kind == impl.MsTell {
		r.told = append(r.told, m)
		return
	}
	if lost {
		return
	}
	h := r.houses[m.To]
	got, sent, is := impl.Heard(h, m.To, r.view, m)
	if want := handHeard(h, m.To, r.view, m); !want.same(heardAnswer{got, sent, is}) {
		t.Fatalf("Heard by %v of %v is %v, %v, %v; wanted %v", h, m, got, sent, is, want)
	}
	if !impl.HouseOk(got) || !impl.Begins(h.Log, got.Log) || got.Acked < h.Acked {
		t.Fatalf("Heard by %v of %v it became %v", h, m, got)
	}
	row, _ := handRowOf(r.view)
	checkSentAround(t, row, m.To, sent)
	r.houses[m.To], r.post = got, append(r.post, sent...)
}

func (r *letterRun) pushesAll(t *testing.T) {
	t.Helper()
	for _, id := range r.view.Members[:len(r.view.Members)-1] {
		sent, is := impl.Pushed(r.houses[id], id, r.view)
		if want, _ := handPushed(r.houses[id], id, r.view); !is || !slices.Equal(sent, want) {
			t.Fatalf("Pushed by %v is %v, %v; wanted %v", r.houses[id], sent, is, want)
		}
		r.post = append(r.post, sent...)
	}
}

// checkInRow asks that who is next has no more than who is ahead, and that nothing is Acked that the tail does not have.
func (r *letterRun) checkInRow(t *testing.T) {
	t.Helper()
	tail := r.houses[r.view.Members[len(r.view.Members)-1]]
	for i, id := range r.view.Members {
		h := r.houses[id]
		if i > 0 && !impl.Begins(h.Log, r.houses[r.view.Members[i-1]].Log) || h.Acked > int64(len(tail.Log)) {
			t.Fatalf("in %v stand %v", r.view, r.houses)
		}
	}
}

// checkTold holds each Reply against what the Log of the head comes to.
func (r *letterRun) checkTold(t *testing.T) {
	t.Helper()
	log := r.houses[r.view.Members[0]].Log
	for _, m := range r.told {
		shelf, memo, _ := impl.Replayed(r.houses[r.view.Members[0]].Pages, log[:m.Seq])
		reply := memo.Replies[m.Entry.Client]
		if m.Entry.Op.Kind == impl.OpRead {
			_, reply = impl.Did(shelf, m.Entry.Op)
		} else if log[m.Seq-1] != changedBy(m.Entry, putSeq(m.Seq)) {
			t.Fatalf("%v was told; the Log has %v", m, log[m.Seq-1])
		}
		if m.Reply != reply {
			t.Fatalf("%v was told; wanted %v", m, reply)
		}
	}
}

// quiet pushes and delivers till there is nothing more to do: then all have everything.
func (r *letterRun) quiet(t *testing.T) {
	t.Helper()
	r.pushesAll(t)
	for len(r.post) > 0 {
		r.delivers(t, 0, false, false)
	}
	r.checkInRow(t)
	for _, id := range r.view.Members {
		h := r.houses[id]
		if !slices.Equal(h.Log, r.houses[r.view.Members[0]].Log) || h.Acked != int64(len(h.Log)) {
			t.Fatalf("in calm %d has %v", id, h)
		}
	}
}

// Long runs in which letters come in any order: the Houses stay right, their Logs only grow, and nothing is told that the row does not have.
func TestRowsStayRightWhateverComes(t *testing.T) {
	for seed, members := range [][]int64{{1}, {3}, {2, 0}, {0, 3}, {3, 1, 0}, {0, 1, 2}, {2, 3, 0, 1}} {
		next := picked(1610 + uint32(seed))
		r := letterRun{liveRow: newLiveRow(2+int64(seed)*3, viewOf(1+int64(seed)*100, members...))}
		for step := range 900 {
			switch {
			case len(r.post) == 0 || len(r.post) < 25 && next(5) == 0:
				r.asks(next)
			case step%150 == 149:
				r.pushesAll(t)
			default:
				r.delivers(t, next(int64(len(r.post))), next(8) == 0 && len(r.post) < 40, next(10) == 0)
			}
			if step%10 == 0 {
				r.checkInRow(t)
			}
		}
		r.quiet(t)
		r.checkTold(t)
		log := r.houses[members[0]].Log
		if len(log) < 40 || len(r.told) < 30 {
			t.Fatalf("in %v only %d were done, and %d told", members, len(log), len(r.told))
		}
	}
}
