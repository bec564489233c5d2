package tests

import (
	"fmt"
	"slices"
	"strings"
	"testing"

	"loop.example/g00372/impl"
)

func handClient(c impl.Client) bool {
	if c.Waits {
		return c.Tag > 0 && c.Tag < 1001 && handOp(c.Op)
	}
	return c.Tag > -1 && c.Tag < 1001 && c.Op == impl.Op{}
}

func handEvent(e impl.Event) bool {
	return handAsked(askedEntry(e.Client, e.Tag, e.Op)) && handReply(e.Reply) && e.Seq > -1 && e.Seq < 121
}

func wrongOnes[T any](list []T, right func(T) bool) int {
	return len(slices.DeleteFunc(slices.Clone(list), right))
}

func handWorld(w impl.World) bool {
	row, right := handRowOf(w.View)
	if !right || len(w.Houses) != 4 || len(w.Clients) != 4 || len(w.Told) > 300 || !handPost(w.Post) {
		return false
	}
	if wrongOnes(w.Clients, handClient)+wrongOnes(w.Told, handEvent) > 0 {
		return false
	}
	pages := map[int64]bool{}
	for id, h := range w.Houses {
		if _, is := handHouseOf(h); !is || h.Up && row.placeOf(int64(id)) < 0 {
			return false
		}
		if h.Up {
			pages[h.Pages] = true
		}
	}
	return len(pages) == 1
}

// handUp are the Members that are Up, of a right World.
func handUp(w impl.World) []int64 {
	return slices.DeleteFunc(slices.Clone(w.View.Members), func(id int64) bool { return !w.Houses[id].Up })
}

func handNewWorld(pages int64, members int64) (impl.World, bool) {
	if pages < 1 || pages > 24 || members < 1 || members > 4 {
		return impl.World{}, false
	}
	w := impl.World{Houses: make([]impl.House, 4), View: viewOf(1, []int64{0, 1, 2, 3}[:members]...), Clients: make([]impl.Client, 4)}
	for id := range members {
		w.Houses[id] = newHandHouse(pages).house(0)
	}
	return w, true
}

func isAmong(n int64, count int) bool {
	return n >= 0 && n < int64(count)
}

func handSend(w *impl.World, more ...impl.Msg) bool {
	post, is := handPosted(w.Post, more)
	w.Post = post
	return is
}

func handAsk(w *impl.World, a impl.Act) bool {
	if !isAmong(a.A, 4) || w.Clients[a.A].Waits || w.Clients[a.A].Tag == 1000 || !handOp(a.Op) {
		return false
	}
	w.Clients[a.A] = impl.Client{Tag: w.Clients[a.A].Tag + 1, Waits: true, Op: a.Op}
	return handAgain(w, a)
}

func handAgain(w *impl.World, a impl.Act) bool {
	if !isAmong(a.A, 4) || !w.Clients[a.A].Waits {
		return false
	}
	c := w.Clients[a.A]
	return handSend(w, askMsg(handServes(w.View, c.Op), w.View.Number, askedEntry(a.A, c.Tag, c.Op)))
}

func handTake(w *impl.World, a impl.Act) bool {
	post, m, is := handTaken(w.Post, a.A)
	if !is {
		return false
	}
	w.Post = post
	if m.Kind == 4 {
		return handTell(w, m)
	}
	came := handHeard(w.Houses[m.To], m.To, w.View, m)
	w.Houses[m.To] = came.house
	return handSend(w, came.sent...)
}

func handTell(w *impl.World, m impl.Msg) bool {
	c := w.Clients[m.To]
	if !c.Waits || c.Tag != m.Entry.Tag || c.Op != m.Entry.Op {
		return true
	}
	w.Clients[m.To] = impl.Client{Tag: c.Tag}
	w.Told = append(w.Told, impl.Event{Client: m.To, Tag: c.Tag, Op: c.Op, Reply: m.Reply, Seq: m.Seq})
	return len(w.Told) < 301
}

func handLose(w *impl.World, a impl.Act) bool {
	post, _, is := handTaken(w.Post, a.A)
	w.Post = post
	return is
}

func handTwiceIn(w *impl.World, a impl.Act) bool {
	post, is := handTwice(w.Post, a.A)
	w.Post = post
	return is
}

func handPush(w *impl.World, a impl.Act) bool {
	if !isAmong(a.A, 4) {
		return false
	}
	sent, is := handPushed(w.Houses[a.A], a.A, w.View)
	return is && handSend(w, sent...)
}

func handFall(w *impl.World, a impl.Act) bool {
	up := handUp(*w)
	if len(up) == 1 || !slices.Contains(up, a.A) {
		return false
	}
	w.Houses[a.A] = impl.House{}
	return true
}

func handTurn(w *impl.World, _ impl.Act) bool {
	row, _ := handRowOf(w.View)
	stand := handRow{row.number, row.text}
	for _, id := range w.View.Members {
		if w.Houses[id].Up {
			continue
		}
		next, is := stand.without(id)
		if !is {
			return false
		}
		stand = next
	}
	w.View = stand.view()
	return stand != row
}

func handJoin(w *impl.World, a impl.Act) bool {
	row, _ := handRowOf(w.View)
	joined, is := row.joined(a.A)
	if !is || len(handUp(*w)) < len(row.text) {
		return false
	}
	copied := cloneHouse(w.Houses[row.houseAt(len(row.text)-1)])
	copied.Acked = int64(len(copied.Log))
	w.Houses[a.A], w.View = copied, joined.view()
	return true
}

// handActs write into a right World. Where they are false, what became of it is of no use.
var handActs = []func(*impl.World, impl.Act) bool{1: handAsk, handAgain, handTake, handLose, handTwiceIn, handPush, handFall, handTurn, handJoin}

// handDone is of a World that is known to be right.
func handDone(w impl.World, a impl.Act) (impl.World, bool) {
	next := cloneWorld(w)
	if a.Kind < 1 || a.Kind > 9 || !handActs[a.Kind](&next, a) {
		return cloneWorld(w), false
	}
	return next, true
}

func handHappen(w impl.World, a impl.Act) (impl.World, bool) {
	if !handWorld(w) {
		return impl.World{}, false
	}
	return handDone(w, a)
}

func handPlay(w impl.World, list []impl.Act) impl.World {
	if len(list) > 300 || !handWorld(w) {
		return impl.World{}
	}
	for _, a := range list {
		w, _ = handDone(w, a)
	}
	return w
}

func sameWorld(a impl.World, b impl.World) bool {
	return slices.EqualFunc(a.Houses, b.Houses, sameHouse) && sameView(a.View, b.View) && slices.Equal(a.Post, b.Post) &&
		slices.Equal(a.Clients, b.Clients) && slices.Equal(a.Told, b.Told)
}

func cloneHouses(list []impl.House) []impl.House {
	same := []impl.House{}
	for _, h := range list {
		same = append(same, cloneHouse(h))
	}
	return same
}

func cloneWorld(w impl.World) impl.World {
	return impl.World{Houses: cloneHouses(w.Houses), View: cloneView(w.View), Post: slices.Clone(w.Post), Clients: slices.Clone(w.Clients), Told: slices.Clone(w.Told)}
}

func worldBy(w impl.World, change func(*impl.World)) impl.World {
	w = cloneWorld(w)
	change(&w)
	return w
}

// showWorld leaves out what the Logs come to, so that one can read it.
func showWorld(w impl.World) string {
	text := fmt.Sprintf("View %v", w.View)
	for id, h := range w.Houses {
		if h.Up {
			text += fmt.Sprintf("\n House %d: Pages %d, Acked %d, Log %v", id, h.Pages, h.Acked, h.Log)
		}
	}
	return text + fmt.Sprintf("\n Post %v\n Clients %v\n Told %v\n", w.Post, w.Clients, w.Told)
}

func spansOfOp(o impl.Op) []span {
	return []span{spanOfText(o.Name), spanOfText(o.Other)}
}

func spansOfClients(list []impl.Client) []span {
	spans := []span{spanOf(list)}
	for _, c := range list {
		spans = append(spans, spansOfOp(c.Op)...)
	}
	return spans
}

func spansOfEvents(list []impl.Event) []span {
	spans := []span{spanOf(list)}
	for _, e := range list {
		spans = append(spans, spansOfOp(e.Op)...)
	}
	return spans
}

func spansOfActs(list []impl.Act) []span {
	spans := []span{spanOf(list)}
	for _, a := range list {
		spans = append(spans, spansOfOp(a.Op)...)
	}
	return spans
}

func spansOfWorld(w impl.World) []span {
	spans := []span{spanOf(w.Houses), spanOf(w.View.Members)}
	for _, h := range w.Houses {
		spans = append(spans, spansOfHouse(h)...)
	}
	return slices.Concat(spans, spansOfPost(w.Post), spansOfClients(w.Clients), spansOfEvents(w.Told))
}

// laidWorld is a World and all memory that it lies in: memory has for its lists all that they lie in.
type laidWorld struct {
	world  impl.World
	memory impl.World
	each   []laidHouse
}

func (l laidWorld) kept() laidWorld {
	kept := laidWorld{memory: cloneWorld(l.memory)}
	for _, one := range l.each {
		kept.each = append(kept.each, one.kept())
	}
	return kept
}

func (l laidWorld) is(kept laidWorld) bool {
	return sameWorld(l.memory, kept.memory) && slices.EqualFunc(l.each, kept.each, laidHouse.is)
}

func (l laidWorld) spans() []span {
	spans := spansOfWorld(l.memory)
	for _, one := range l.each {
		spans = append(spans, one.spans()...)
	}
	return spans
}

func layClients(list []impl.Client) []laidList[impl.Client] {
	return layList(list, impl.Client{Tag: 3, Waits: true, Op: attachOp("zzzz")}, impl.Client{Tag: -501, Op: readOp("a", -502)})
}

func layEvents(list []impl.Event) []laidList[impl.Event] {
	return layList(list, impl.Event{Client: 3, Tag: 1000, Op: attachOp("zzzz"), Reply: impl.Reply{Value: 7}, Seq: 120}, impl.Event{Client: -501, Tag: -502, Op: readOp("a", -503), Reply: impl.Reply{Code: -504}, Seq: -505})
}

// layWorld lays one World in memory in several ways.
func layWorld(w impl.World) []laidWorld {
	ways := 4
	each := [][]laidHouse{}
	for _, h := range w.Houses {
		each = append(each, layHouse(h))
		ways = max(ways, len(each[len(each)-1]))
	}
	members, post, clients, told := layMembers(w.View.Members), layLetters(w.Post), layClients(w.Clients), layEvents(w.Told)
	laid := []laidWorld{}
	for i := range ways {
		// The list of Houses is another one each time: into it go the Houses that are laid out.
		houses := layList(slices.Clone(w.Houses), impl.House{Up: true, Pages: -501}, impl.House{})[i%4]
		one := laidWorld{}
		for id := range w.Houses {
			house := each[id][i%len(each[id])]
			houses.list[id] = house.house
			one.each = append(one.each, house)
		}
		m, p, c, e := members[i%len(members)], post[i%len(post)], clients[i%len(clients)], told[i%len(told)]
		one.world = impl.World{Houses: houses.list, View: impl.View{Number: w.View.Number, Members: m.list}, Post: p.list, Clients: c.list, Told: e.list}
		one.memory = impl.World{Houses: houses.memory, View: impl.View{Members: m.memory}, Post: p.memory, Clients: c.memory, Told: e.memory}
		laid = append(laid, one)
	}
	return laid
}

func spanOfWorldAndOp(given laidWorld, o impl.Op) []span {
	return append(given.spans(), spansOfOp(o)...)
}

// checkHappenIs asks with one World laid out in several ways: the answer must be as wanted each time, new memory, and what was handed in must stay.
func checkHappenIs(t *testing.T, w impl.World, a impl.Act, want impl.World, is bool) {
	t.Helper()
	want = cloneWorld(want)
	for _, given := range layWorld(w) {
		kept := given.kept()
		got, done := impl.Happen(given.world, a)
		if !given.is(kept) {
			t.Fatalf("Happen of %v: the memory handed in became %v; it was %v", a, given.memory, kept.memory)
		}
		if !sameWorld(got, want) || done != is {
			t.Fatalf("Happen of %v, from %s is %v, %s; wanted %v, %s", a, showWorld(w), done, showWorld(got), is, showWorld(want))
		}
		checkSpansApart(t, "Happen", spansOfWorld(got), spanOfWorldAndOp(given, a.Op))
	}
}

func checkPlayIs(t *testing.T, w impl.World, list []impl.Act, want impl.World) {
	t.Helper()
	want = cloneWorld(want)
	acts := layList(list, impl.Act{Kind: 8}, impl.Act{Kind: -501, A: -502, Op: readOp("a", -503)})
	for i, given := range layWorld(w) {
		laid := acts[i%len(acts)]
		kept, keptActs := given.kept(), slices.Clone(laid.memory)
		got := impl.Play(given.world, laid.list)
		if !given.is(kept) || !slices.Equal(laid.memory, keptActs) {
			t.Fatalf("Play of %v: the memory handed in became %v and %v; it was %v and %v", list, given.memory, laid.memory, kept.memory, keptActs)
		}
		if !sameWorld(got, want) {
			t.Fatalf("Play of %v, from %s is %s; wanted %s", list, showWorld(w), showWorld(got), showWorld(want))
		}
		checkSpansApart(t, "Play", spansOfWorld(got), append(given.spans(), spansOfActs(laid.memory)...))
	}
}

// checkLooksOfWorld asks what hangs on the World alone.
func checkLooksOfWorld(t *testing.T, w impl.World, right bool, up []int64) {
	t.Helper()
	if handWorld(w) != right {
		t.Fatalf("the test itself takes for %v %s", !right, showWorld(w))
	}
	for _, given := range layWorld(w) {
		kept := given.kept()
		if impl.WorldOk(given.world) != right {
			t.Fatalf("WorldOk is %v of %s", !right, showWorld(w))
		}
		got := impl.UpMembers(given.world)
		if !slices.Equal(got, up) {
			t.Fatalf("UpMembers are %v, wanted %v, of %s", got, up, showWorld(w))
		}
		if !given.is(kept) {
			t.Fatalf("WorldOk and UpMembers: the memory handed in became %v; it was %v", given.memory, kept.memory)
		}
		checkSpansApart(t, "UpMembers", []span{spanOf(got)}, given.spans())
	}
}

// checkHappen holds any Act in any World, right or not, against what was worked out by hand.
func checkHappen(t *testing.T, w impl.World, a impl.Act) (impl.World, bool) {
	t.Helper()
	want, is := handHappen(w, a)
	checkHappenIs(t, w, a, want, is)
	return want, is
}

// checkHappenPlainly asks once, without laying anything out.
func checkHappenPlainly(t *testing.T, w impl.World, a impl.Act) (impl.World, bool) {
	t.Helper()
	want, is := handHappen(w, a)
	got, done := impl.Happen(w, a)
	if !sameWorld(got, want) || done != is {
		t.Fatalf("Happen of %v, from %s is %v, %s; wanted %v, %s", a, showWorld(w), done, showWorld(got), is, showWorld(want))
	}
	return got, is
}

// checkNothingHappens asks that the World is as it is.
func checkNothingHappens(t *testing.T, w impl.World, acts ...impl.Act) {
	t.Helper()
	if !handWorld(w) {
		t.Fatalf("the test itself takes for wrong %s", showWorld(w))
	}
	for _, a := range acts {
		checkHappenIs(t, w, a, w, false)
	}
}

// checkSomething asks that the World becomes what is told by one change.
func checkSomething(t *testing.T, w impl.World, a impl.Act, change func(*impl.World)) {
	t.Helper()
	want := worldBy(w, change)
	if !handWorld(want) {
		t.Fatalf("the test itself takes for wrong %s", showWorld(want))
	}
	checkHappenIs(t, w, a, want, true)
}

func askAct(client int64, o impl.Op) impl.Act {
	return impl.Act{Kind: impl.AcAsk, A: client, Op: o}
}

func againAct(client int64) impl.Act { return impl.Act{Kind: impl.AcAgain, A: client} }
func takeAct(at int64) impl.Act      { return impl.Act{Kind: impl.AcTake, A: at} }
func loseAct(at int64) impl.Act      { return impl.Act{Kind: impl.AcLose, A: at} }
func twiceAct(at int64) impl.Act     { return impl.Act{Kind: impl.AcTwice, A: at} }
func pushAct(id int64) impl.Act      { return impl.Act{Kind: impl.AcPush, A: id} }
func fallAct(id int64) impl.Act      { return impl.Act{Kind: impl.AcFall, A: id} }
func viewAct() impl.Act              { return impl.Act{Kind: impl.AcView} }
func joinAct(id int64) impl.Act      { return impl.Act{Kind: impl.AcJoin, A: id} }

func waiting(tag int64, o impl.Op) impl.Client {
	return impl.Client{Tag: tag, Waits: true, Op: o}
}

func newWorld(t *testing.T, pages int64, members int64) impl.World {
	t.Helper()
	w, is := handNewWorld(pages, members)
	if !is {
		t.Fatalf("the test itself has no World of %d pages and %d Members", pages, members)
	}
	return w
}

// rowWorld has this View; its Members have the first so many Entries of a busy log, or are not Up where that is below 0. Half of what the tail has is Acked.
func rowWorld(t *testing.T, v impl.View, lengths ...int) impl.World {
	t.Helper()
	w := impl.World{Houses: make([]impl.House, 4), View: v, Clients: make([]impl.Client, 4)}
	for place, length := range lengths {
		if length >= 0 {
			w.Houses[v.Members[place]] = replayedHouse(t, 4, busyLog()[:length], int64(max(0, lengths[len(lengths)-1])/2))
		}
	}
	return w
}

func withPost(w impl.World, letters ...impl.Msg) impl.World {
	return worldBy(w, func(w *impl.World) { w.Post = letters })
}

// eventsLong are right ones, each another one.
func eventsLong(count int) []impl.Event {
	list, ops, replies := []impl.Event{}, typicalOps(), someReplies()
	for i := range count {
		n := int64(i)
		list = append(list, impl.Event{Client: n % 4, Tag: 1 + n, Op: ops[i%len(ops)], Reply: replies[i%len(replies)], Seq: n % 121})
	}
	return list
}

// someClients are right ones, two of which Wait.
func someClients() []impl.Client {
	return []impl.Client{{}, waiting(900, atEpoch(writeOp("b", 1, 9), 2)), {Tag: 1000}, waiting(1, readOp("b", 0))}
}

// busyWorld has something in each of its lists.
func busyWorld(t *testing.T) impl.World {
	t.Helper()
	w := rowWorld(t, viewOf(7, 1, 3, 0), 20, 13, 7)
	w.Post, w.Clients, w.Told = oneOfEachKind(), someClients(), eventsLong(5)
	return w
}

// someWorlds are right ones, of one to four Members of which some are not Up.
func someWorlds(t *testing.T) []impl.World {
	t.Helper()
	list := []impl.World{newWorld(t, 1, 1), newWorld(t, 24, 2), newWorld(t, 4, 3), newWorld(t, 2, 4), busyWorld(t)}
	for _, w := range []impl.World{
		rowWorld(t, viewOf(1, 2), 7),
		rowWorld(t, viewOf(999, 1, 3), 20, 13),
		rowWorld(t, viewOf(1000, 3, 0, 2), 20, 20, 7),
		rowWorld(t, viewOf(12, 2, 0, 3, 1), 20, -1, 13, 13),
		rowWorld(t, viewOf(998, 2, 0, 3, 1), -1, 9, -1, 9),
		rowWorld(t, viewOf(999, 2, 0, 3), -1, -1, 9),
		rowWorld(t, viewOf(3, 0, 1), 2, -1),
	} {
		w.Clients, w.Told = someClients(), eventsLong(3)
		for _, id := range w.View.Members {
			letters := lettersFor(w.Houses[id], id, w.View.Number)
			w.Post = append(w.Post, letters[int(id)], letters[len(letters)/2], letters[len(letters)-2])
		}
		w.Post = append(w.Post, tellMsg(w.View.Number, askedEntry(1, 900, w.Clients[1].Op), 3, impl.Reply{Value: 0}), passMsg(1, 5, numberedEntry(3, 1, 4, attachOp("b"))))
		list = append(list, w)
	}
	return list
}

func TestKindsOfActs(t *testing.T) {
	kinds := []int64{impl.AcAsk, impl.AcAgain, impl.AcTake, impl.AcLose, impl.AcTwice, impl.AcPush, impl.AcFall, impl.AcView, impl.AcJoin}
	if !slices.Equal(kinds, []int64{1, 2, 3, 4, 5, 6, 7, 8, 9}) {
		t.Fatal(kinds)
	}
}

func TestNewWorldsWorkedByHand(t *testing.T) {
	fresh := impl.House{Up: true, Pages: 2, Shelf: impl.Shelf{Pool: poolOf([]int64{0, 0}, []int64{0, 0})}, Memo: memoOf(make([]int64, 4), make([]impl.Reply, 4)...)}
	for members, houses := range [][]impl.House{1: {fresh, {}, {}, {}}, 2: {fresh, fresh, {}, {}}, 3: {fresh, fresh, fresh, {}}, 4: {fresh, fresh, fresh, fresh}} {
		if members == 0 {
			continue
		}
		w, is := impl.NewWorld(2, int64(members))
		want := impl.World{Houses: houses, View: viewOf(1, []int64{0, 1, 2, 3}[:members]...), Clients: []impl.Client{{}, {}, {}, {}}}
		if !is || !sameWorld(w, want) {
			t.Fatalf("NewWorld of %d Members is %v, %s", members, is, showWorld(w))
		}
	}
}

func TestNewWorlds(t *testing.T) {
	for members := int64(1); members <= 4; members++ {
		for pages := int64(1); pages <= 24; pages++ {
			w, is := impl.NewWorld(pages, members)
			if !is || !sameWorld(w, newWorld(t, pages, members)) {
				t.Fatalf("NewWorld(%d, %d) is %v, %s", pages, members, is, showWorld(w))
			}
			checkLooksOfWorld(t, w, true, []int64{0, 1, 2, 3}[:members])
			checkSpansApart(t, "NewWorld", spansOfWorld(w), nil)
			// What is written into one is not in the next one, nor in one that is there already.
			other, _ := impl.NewWorld(pages, members)
			overwriteWorld(w)
			if again, _ := impl.NewWorld(pages, members); !sameWorld(again, newWorld(t, pages, members)) || !sameWorld(other, again) {
				t.Fatalf("written into a World, the next ones are %s, %s", showWorld(other), showWorld(again))
			}
		}
	}
}

func TestNewWorldsOutOfRange(t *testing.T) {
	numbers := slices.Concat([]int64{-1, 0, 1, 4, 5, 6, 24, 25, 26, 256, 257}, extremes, farNumbers, wrongNumbers)
	for _, pages := range numbers {
		for _, members := range numbers {
			w, is := impl.NewWorld(pages, members)
			if want, right := handNewWorld(pages, members); is != right || !sameWorld(w, want) {
				t.Fatalf("NewWorld(%d, %d) is %v, %s", pages, members, is, showWorld(w))
			}
		}
	}
	for pages, right := range map[int64]bool{-1: false, 0: false, 1: true, 24: true, 25: false} {
		for members, fits := range map[int64]bool{-1: false, 0: false, 1: true, 4: true, 5: false} {
			if w, is := impl.NewWorld(pages, members); is != (right && fits) || impl.WorldOk(w) != is {
				t.Fatalf("NewWorld(%d, %d) is %v", pages, members, is)
			}
		}
	}
}

// liveWorld goes on from Act to Act.
type liveWorld struct {
	now  impl.World
	acts []impl.Act
}

// does holds what becomes of the World against what it was, with all that must change put in by hand.
func (l *liveWorld) does(t *testing.T, a impl.Act, change func(*impl.World)) {
	t.Helper()
	checkSomething(t, l.now, a, change)
	checkHappen(t, l.now, a)
	next, is := impl.Happen(l.now, a)
	if !is || !impl.WorldOk(next) {
		t.Fatalf("Happen of %v is %v, %s", a, is, showWorld(next))
	}
	l.now, l.acts = next, append(l.acts, a)
}

func (l *liveWorld) doesNothing(t *testing.T, acts ...impl.Act) {
	t.Helper()
	checkNothingHappens(t, l.now, acts...)
	l.acts = append(l.acts, acts...)
}

func postIs(letters ...impl.Msg) func(*impl.World) {
	return func(w *impl.World) { w.Post = letters }
}

func houseIs(id int64, h impl.House) func(*impl.World) {
	return func(w *impl.World) { w.Houses[id] = h }
}

func clientIs(client int64, c impl.Client) func(*impl.World) {
	return func(w *impl.World) { w.Clients[client] = c }
}

func viewIs(number int64, members ...int64) func(*impl.World) {
	return func(w *impl.World) { w.View = viewOf(number, members...) }
}

func hasTold(e impl.Event) func(*impl.World) {
	return func(w *impl.World) { w.Told = append(w.Told, e) }
}

func all(changes ...func(*impl.World)) func(*impl.World) {
	return func(w *impl.World) {
		for _, change := range changes {
			change(w)
		}
	}
}

// A row of three: the head falls, then the two others; all Acts do something, one behind the other.
func TestAWorldOfThreeWorkedByHand(t *testing.T) {
	made, read, wrote, attach := makeOp("a", 2), readOp("a", 1), writeOp("a", 0, 5), attachOp("a")
	first, second, third := numberedEntry(1, 3, 1, made), numberedEntry(2, 1, 1, wrote), numberedEntry(3, 1, 2, attach)
	one, both, three := []impl.Entry{first}, []impl.Entry{first, second}, []impl.Entry{first, second, third}
	house := func(acked int64, log []impl.Entry) impl.House { return replayedHouse(t, 4, log, acked) }
	ok := impl.Reply{}
	l := liveWorld{now: newWorld(t, 4, 3)}
	// What changes goes to the head, and from hand to hand to the tail; a letter comes twice, and one is lost.
	l.does(t, askAct(3, made), all(clientIs(3, waiting(1, made)), postIs(askMsg(0, 1, askedEntry(3, 1, made)))))
	l.doesNothing(t, askAct(3, made), againAct(0), takeAct(1), takeAct(-1), pushAct(3), viewAct(), fallAct(3), joinAct(0))
	l.does(t, takeAct(0), all(houseIs(0, house(0, one)), postIs(passMsg(1, 1, first))))
	l.does(t, twiceAct(0), postIs(passMsg(1, 1, first), passMsg(1, 1, first)))
	l.does(t, takeAct(0), all(houseIs(1, house(0, one)), postIs(passMsg(1, 1, first), passMsg(2, 1, first))))
	l.does(t, takeAct(0), postIs(passMsg(2, 1, first), passMsg(2, 1, first)))
	told, ack := tellMsg(1, askedEntry(3, 1, made), 1, ok), ackMsg(1, 1, 1)
	l.does(t, takeAct(0), all(houseIs(2, house(1, one)), postIs(passMsg(2, 1, first), told, ack)))
	l.does(t, loseAct(0), postIs(told, ack))
	l.does(t, takeAct(1), all(houseIs(1, house(1, one)), postIs(told, ackMsg(0, 1, 1))))
	l.does(t, takeAct(1), all(houseIs(0, house(1, one)), postIs(told)))
	l.does(t, takeAct(0), all(clientIs(3, impl.Client{Tag: 1}), hasTold(impl.Event{Client: 3, Tag: 1, Op: made, Reply: ok, Seq: 1}), postIs()))
	// What is read is asked of the tail.
	l.does(t, askAct(0, read), all(clientIs(0, waiting(1, read)), postIs(askMsg(2, 1, askedEntry(0, 1, read)))))
	toldRead := tellMsg(1, askedEntry(0, 1, read), 1, ok)
	l.does(t, takeAct(0), postIs(toldRead))
	// The head falls while it has passed on something; asked again, the next one has it already.
	l.does(t, askAct(1, wrote), all(clientIs(1, waiting(1, wrote)), postIs(toldRead, askMsg(0, 1, askedEntry(1, 1, wrote)))))
	l.does(t, takeAct(1), all(houseIs(0, house(1, both)), postIs(toldRead, passMsg(1, 1, second))))
	l.does(t, fallAct(0), houseIs(0, impl.House{}))
	l.doesNothing(t, fallAct(0), pushAct(0), joinAct(0), joinAct(3))
	l.does(t, takeAct(1), all(houseIs(1, house(1, both)), postIs(toldRead, passMsg(2, 1, second))))
	l.does(t, loseAct(1), postIs(toldRead))
	l.does(t, againAct(1), postIs(toldRead, askMsg(0, 1, askedEntry(1, 1, wrote))))
	l.does(t, takeAct(1), postIs(toldRead))
	l.does(t, viewAct(), viewIs(2, 1, 2))
	l.does(t, againAct(1), postIs(toldRead, askMsg(1, 2, askedEntry(1, 1, wrote))))
	l.does(t, takeAct(1), postIs(toldRead, passMsg(2, 2, second)))
	l.does(t, pushAct(1), postIs(toldRead, passMsg(2, 2, second), passMsg(2, 2, second)))
	toldWrote := tellMsg(2, askedEntry(1, 1, wrote), 2, ok)
	l.does(t, takeAct(2), all(houseIs(2, house(2, both)), postIs(toldRead, passMsg(2, 2, second), toldWrote, ackMsg(1, 2, 2))))
	l.does(t, takeAct(2), all(clientIs(1, impl.Client{Tag: 1}), hasTold(impl.Event{Client: 1, Tag: 1, Op: wrote, Reply: ok, Seq: 2}), postIs(toldRead, passMsg(2, 2, second), ackMsg(1, 2, 2))))
	// Who joins is the tail, and what bears the old Number is heeded by nobody.
	l.does(t, joinAct(0), all(houseIs(0, house(2, both)), viewIs(3, 1, 2, 0)))
	l.does(t, takeAct(2), postIs(toldRead, passMsg(2, 2, second)))
	l.does(t, takeAct(1), postIs(toldRead))
	l.does(t, takeAct(0), all(clientIs(0, impl.Client{Tag: 1}), hasTold(impl.Event{Client: 0, Tag: 1, Op: read, Reply: ok, Seq: 1}), postIs()))
	// Two fall, and the last one goes on by itself.
	l.does(t, fallAct(2), houseIs(2, impl.House{}))
	l.does(t, fallAct(0), houseIs(0, impl.House{}))
	l.doesNothing(t, fallAct(1), joinAct(3))
	l.does(t, viewAct(), viewIs(5, 1))
	l.does(t, askAct(1, attach), all(clientIs(1, waiting(2, attach)), postIs(askMsg(1, 5, askedEntry(1, 2, attach)))))
	l.does(t, takeAct(0), all(houseIs(1, house(3, three)), postIs(tellMsg(5, askedEntry(1, 2, attach), 3, impl.Reply{Value: 1}))))
	l.does(t, takeAct(0), all(clientIs(1, impl.Client{Tag: 2}), hasTold(impl.Event{Client: 1, Tag: 2, Op: attach, Reply: impl.Reply{Value: 1}, Seq: 3}), postIs()))
	l.does(t, joinAct(3), all(houseIs(3, house(3, three)), viewIs(6, 1, 3)))
	l.doesNothing(t, fallAct(0), viewAct(), loseAct(0), twiceAct(0), pushAct(3), impl.Act{}, impl.Act{Kind: 10})
	checkPlayIs(t, newWorld(t, 4, 3), l.acts, l.now)
	if up := impl.UpMembers(l.now); !slices.Equal(up, []int64{1, 3}) {
		t.Fatal(up)
	}
}

// Everything that can be asked, of every Client, in rows of one to four: what changes of the head, what is read of the tail.
func TestWhoIsAsked(t *testing.T) {
	for _, w := range someWorlds(t) {
		head, tail := w.View.Members[0], w.View.Members[len(w.View.Members)-1]
		for client, c := range w.Clients {
			for _, o := range typicalOps() {
				a, to := askAct(int64(client), o), head
				if o.Kind == impl.OpRead {
					to = tail
				}
				if c.Waits || c.Tag == 1000 {
					checkNothingHappens(t, w, a)
					continue
				}
				asked := askMsg(to, w.View.Number, askedEntry(int64(client), c.Tag+1, o))
				checkSomething(t, w, a, func(w *impl.World) {
					w.Post = append(w.Post, asked)
					w.Clients[client] = waiting(c.Tag+1, o)
				})
			}
		}
	}
}

func TestTagsOfClients(t *testing.T) {
	for _, tag := range []int64{0, 1, 2, 3, 255, 256, 500, 998, 999, 1000} {
		w := worldBy(newWorld(t, 3, 2), clientIs(2, impl.Client{Tag: tag}))
		if tag == 1000 {
			checkNothingHappens(t, w, askAct(2, attachOp("a")), askAct(2, readOp("a", 0)))
			continue
		}
		checkSomething(t, w, askAct(2, attachOp("a")), all(clientIs(2, waiting(tag+1, attachOp("a"))), postIs(askMsg(0, 1, askedEntry(2, tag+1, attachOp("a"))))))
	}
	for _, tag := range []int64{998, 999} {
		w := worldBy(newWorld(t, 3, 1), clientIs(0, impl.Client{Tag: tag}))
		for range 1000 - tag {
			w = impl.Play(w, []impl.Act{askAct(0, makeOp("a", 1)), takeAct(0), takeAct(0)})
		}
		if w.Clients[0] != (impl.Client{Tag: 1000}) || int64(len(w.Told)) != 1000-tag {
			t.Fatal(showWorld(w))
		}
		checkNothingHappens(t, w, askAct(0, makeOp("a", 1)))
	}
}

func TestWhoWaitsDoesNotAsk(t *testing.T) {
	for tag, o := range map[int64]impl.Op{1: makeOp("a", 3), 999: readOp("a", 0), 1000: attachOp("b")} {
		w := worldBy(newWorld(t, 3, 2), clientIs(1, waiting(tag, o)))
		checkNothingHappens(t, w, askAct(1, o), askAct(1, makeOp("b", 1)), againAct(0), againAct(2), againAct(3))
		checkHappen(t, w, askAct(0, o))
		checkHappen(t, w, againAct(1))
	}
}

func TestWrongOpsAreNotAsked(t *testing.T) {
	w := busyWorld(t)
	for _, o := range oneOfEach() {
		for i, wrong := range wrongByOneField(o) {
			if i%5 == 0 {
				checkNothingHappens(t, w, askAct(0, wrong))
			}
			if got, is := impl.Happen(w, askAct(0, wrong)); is || !sameWorld(got, w) {
				t.Fatalf("of %v %v is asked: %s", wrong, is, showWorld(got))
			}
		}
	}
	checkNothingHappens(t, w, askAct(0, impl.Op{}), askAct(0, impl.Op{Kind: 10, Name: "a"}))
}

// Asked again, the same is asked of whom it is now, by the Number of now.
func TestAskedAgainAfterTheViewChanged(t *testing.T) {
	wrote, read := writeOp("b", 1, 9), readOp("b", 0)
	for _, c := range []struct {
		before impl.World
		act    impl.Act
		head   int64
		tail   int64
		number int64
	}{
		{rowWorld(t, viewOf(7, 1, 3, 0), 9, 9, 7), joinAct(2), 1, 2, 8},
		{rowWorld(t, viewOf(7, 1, 3, 0), -1, 9, 7), viewAct(), 3, 0, 8},
		{rowWorld(t, viewOf(7, 1, 3, 0), 9, 9, -1), viewAct(), 1, 3, 8},
		{rowWorld(t, viewOf(7, 1, 3, 0), 9, -1, 7), viewAct(), 1, 0, 8},
		{rowWorld(t, viewOf(998, 1, 3, 0), -1, 9, -1), viewAct(), 3, 3, 1000},
		{rowWorld(t, viewOf(7, 1, 3, 0), 9, 9, 7), fallAct(1), 1, 0, 7},
	} {
		w := worldBy(c.before, all(clientIs(2, waiting(5, wrote)), clientIs(0, waiting(1000, read))))
		w, is := checkHappen(t, w, c.act)
		if !is {
			t.Fatalf("%v does nothing", c.act)
		}
		checkSomething(t, w, againAct(2), postIs(askMsg(c.head, c.number, askedEntry(2, 5, wrote))))
		checkSomething(t, w, againAct(0), postIs(askMsg(c.tail, c.number, askedEntry(0, 1000, read))))
		checkNothingHappens(t, w, againAct(1), againAct(3))
		again := impl.Play(w, []impl.Act{againAct(2), againAct(0), againAct(2)})
		if !slices.Equal(again.Post, []impl.Msg{askMsg(c.head, c.number, askedEntry(2, 5, wrote)), askMsg(c.tail, c.number, askedEntry(0, 1000, read)), askMsg(c.head, c.number, askedEntry(2, 5, wrote))}) {
			t.Fatal(again.Post)
		}
	}
}

// What the House that Heard it sends stands behind all other letters, and nothing else of the World is another one.
func TestLettersAreTakenToHouses(t *testing.T) {
	heeded, passedOver := [5]int{}, [5]int{}
	for _, w := range someWorlds(t)[4:] {
		w.Post = nil
		for id := range int64(4) {
			for i, m := range lettersFor(w.Houses[id], id, w.View.Number) {
				if m.Kind == impl.MsTell || i%3 > 0 {
					continue
				}
				came := handHeard(w.Houses[id], id, w.View, m)
				if came.is {
					heeded[m.Kind]++
				} else {
					passedOver[m.Kind]++
				}
				others := oneOfEachKind()
				before := withPost(w, slices.Concat(others[:2], []impl.Msg{m}, others[2:])...)
				checkSomething(t, before, takeAct(2), all(houseIs(id, came.house), postIs(append(slices.Clip(others), came.sent...)...)))
			}
		}
	}
	for kind := impl.MsAsk; kind <= impl.MsAck; kind++ {
		if heeded[kind] < 10 || passedOver[kind] < 10 {
			t.Fatalf("heeded were %v, passed over %v", heeded, passedOver)
		}
	}
}

// A letter to a House that is not Up, or that does not heed it, is gone: that is something.
func TestLettersThatAreHeededByNobody(t *testing.T) {
	w := rowWorld(t, viewOf(7, 1, 3, 0), 20, -1, 7)
	others := oneOfEachKind()
	for _, id := range []int64{3, 2} {
		for _, m := range lettersFor(rowWorld(t, viewOf(7, 3), 13).Houses[3], id, 7) {
			if m.Kind != impl.MsTell {
				checkSomething(t, withPost(w, others[0], m, others[3]), takeAct(1), postIs(others[0], others[3]))
			}
		}
	}
	log := busyLog()
	for _, m := range []impl.Msg{
		askMsg(1, 6, askedEntry(0, 999, attachOp("b"))), askMsg(1, 8, askedEntry(0, 999, attachOp("b"))), askMsg(1, 7, askedEntry(0, 999, readOp("b", 0))), askMsg(0, 7, askedEntry(0, 999, attachOp("b"))),
		passMsg(1, 7, log[19]), passMsg(0, 7, log[8]), passMsg(0, 6, log[7]), ackMsg(0, 7, 7), ackMsg(1, 7, 1), ackMsg(1, 8, 20),
	} {
		for at := range int64(3) {
			post := slices.Insert([]impl.Msg{others[1], others[2]}, int(at), m)
			checkSomething(t, withPost(w, post...), takeAct(at), postIs(others[1], others[2]))
		}
	}
}

// Told is who Waits for just that, whatever the View; else the letter is gone.
func TestLettersAreTakenToClients(t *testing.T) {
	for client := range int64(4) {
		for i, o := range typicalOps() {
			tag, r := int64(1+i*37), someReplies()[i%len(someReplies())]
			w := worldBy(rowWorld(t, viewOf(7, 1, 3, 0), 3, -1, 2), all(clientIs(client, waiting(tag, o)), func(w *impl.World) { w.Told = eventsLong(i) }))
			for _, m := range []impl.Msg{tellMsg(7, askedEntry(client, tag, o), int64(i), r), tellMsg(1, askedEntry(client, tag, o), 0, r), tellMsg(1000, askedEntry(client, tag, o), 120, r)} {
				others := oneOfEachKind()
				told := impl.Event{Client: client, Tag: tag, Op: o, Reply: r, Seq: m.Seq}
				checkSomething(t, withPost(w, others[0], m, others[5]), takeAct(1), all(clientIs(client, impl.Client{Tag: tag}), hasTold(told), postIs(others[0], others[5])))
				// It comes a second time, and nobody waits for it any more.
				twice := impl.Play(withPost(w, m, m), []impl.Act{takeAct(0)})
				checkSomething(t, twice, takeAct(0), postIs())
			}
		}
	}
}

func TestLettersToClientsThatDoNotWaitForThem(t *testing.T) {
	o := atEpoch(writeOp("b", 1, 9), 2)
	others := []impl.Op{atEpoch(writeOp("b", 1, 9), 3), writeOp("b", 1, 9), atEpoch(writeOp("b", 2, 9), 2), atEpoch(writeOp("b", 1, 8), 2), atEpoch(writeOp("a", 1, 9), 2), readOp("b", 1), attachOp("b"), snapOp("b", "q")}
	for client := range int64(4) {
		w := worldBy(newWorld(t, 4, 3), clientIs(client, waiting(5, o)))
		letters := []impl.Msg{tellMsg(1, askedEntry(client, 4, o), 3, impl.Reply{}), tellMsg(1, askedEntry(client, 6, o), 3, impl.Reply{}), tellMsg(1, askedEntry((client+1)%4, 5, o), 3, impl.Reply{})}
		for _, other := range others {
			letters = append(letters, tellMsg(1, askedEntry(client, 5, other), 3, impl.Reply{}))
		}
		for _, m := range letters {
			checkSomething(t, withPost(w, m), takeAct(0), postIs())
		}
		calm := worldBy(w, clientIs(client, impl.Client{Tag: 5}))
		checkSomething(t, withPost(calm, tellMsg(1, askedEntry(client, 5, o), 3, impl.Reply{})), takeAct(0), postIs())
		never := worldBy(w, clientIs(client, impl.Client{}))
		checkSomething(t, withPost(never, tellMsg(1, askedEntry(client, 1, o), 3, impl.Reply{})), takeAct(0), postIs())
	}
	snapped := snapOp("b", "q")
	w := worldBy(newWorld(t, 4, 3), clientIs(1, waiting(5, snapped)))
	for _, other := range []impl.Op{snapOp("b", "qq"), cloneOp("b", "q"), snapOp("q", "b")} {
		checkSomething(t, withPost(w, tellMsg(1, askedEntry(1, 5, other), 3, impl.Reply{})), takeAct(0), postIs())
	}
}

func TestLettersAreLostAndComeTwice(t *testing.T) {
	for _, count := range []int{1, 2, 7, 59, 60} {
		post := lettersLong(count)
		w := withPost(rowWorld(t, viewOf(7, 1, 3, 0), 3, 3, 2), post...)
		for at := 0; at < count; at += 1 + count/7 {
			checkSomething(t, w, loseAct(int64(at)), postIs(slices.Delete(slices.Clone(post), at, at+1)...))
			if count < 60 {
				checkSomething(t, w, twiceAct(int64(at)), postIs(append(slices.Clip(post), post[at])...))
			} else {
				checkNothingHappens(t, w, twiceAct(int64(at)))
			}
		}
	}
}

// atNumbers are around 0 and around the ends of all lists that an Act may count in.
func atNumbers(w impl.World) []int64 {
	count := int64(len(w.Post))
	return []int64{-2, -1, 0, 1, 2, 3, 4, 5, count - 1, count, count + 1, 59, 60, 61}
}

// All Kinds, with all numbers that may matter, in many Worlds.
func TestEveryActInManyWorlds(t *testing.T) {
	done, refused := [12]int{}, [12]int{}
	for _, w := range someWorlds(t) {
		checkLooksOfWorld(t, w, true, handUp(w))
		for kind := int64(-1); kind <= 10; kind++ {
			for _, at := range atNumbers(w) {
				for _, o := range []impl.Op{makeOp("q", 3), readOp("b", 0), {}} {
					_, is := checkHappenPlainly(t, w, impl.Act{Kind: kind, A: at, Op: o})
					if is {
						done[kind+1]++
					} else {
						refused[kind+1]++
					}
				}
				checkHappen(t, w, impl.Act{Kind: kind, A: at, Op: makeOp("q", 3)})
			}
		}
	}
	for kind := int64(-1); kind <= 10; kind++ {
		some := done[kind+1] > 5
		if none := done[kind+1] == 0; refused[kind+1] < 5 || some != (kind >= 1 && kind <= 9) || none == some {
			t.Fatalf("done were %v, refused %v", done, refused)
		}
	}
}

// Which of the houses and clients there are, and which letters: one fewer than none, the last one, and one more.
func TestEdgesOfWhom(t *testing.T) {
	w := worldBy(rowWorld(t, viewOf(7, 3, 0), 9, 7), all(postIs(lettersLong(5)...), clientIs(0, waiting(1, attachOp("b"))), clientIs(3, waiting(2, attachOp("b")))))
	for n, is := range map[int64]bool{-2: false, -1: false, 0: true, 1: false, 2: false, 3: true, 4: false, 5: false} {
		if _, done := checkHappen(t, w, againAct(n)); done != is {
			t.Fatalf("AcAgain of %d is %v", n, done)
		}
		if _, done := checkHappen(t, w, fallAct(n)); done != is {
			t.Fatalf("AcFall of %d is %v", n, done)
		}
		if _, done := checkHappen(t, w, pushAct(n)); done != (n == 3) {
			t.Fatalf("AcPush of %d is %v", n, done)
		}
		asks, joins := n == 1 || n == 2, n == 1 || n == 2
		if _, done := checkHappen(t, w, askAct(n, attachOp("b"))); done != asks {
			t.Fatalf("AcAsk of %d is %v", n, done)
		}
		if _, done := checkHappen(t, w, joinAct(n)); done != joins {
			t.Fatalf("AcJoin of %d is %v", n, done)
		}
		for _, act := range []func(int64) impl.Act{takeAct, loseAct, twiceAct} {
			if _, done := checkHappen(t, w, act(n)); done != (n >= 0 && n <= 4) {
				t.Fatalf("%v is %v", act(n), done)
			}
		}
		if _, done := checkHappen(t, worldBy(w, houseIs(0, impl.House{})), impl.Act{Kind: impl.AcView, A: n}); !done {
			t.Fatalf("AcView with %d is %v", n, done)
		}
	}
	none := worldBy(w, postIs())
	for _, n := range []int64{-1, 0, 1, 59, 60} {
		checkNothingHappens(t, none, takeAct(n), loseAct(n), twiceAct(n))
	}
}

// Up to 60 letters there is room; what would come to 61 is not done at all.
func TestRoomInThePost(t *testing.T) {
	o := attachOp("b")
	for _, count := range []int{58, 59, 60} {
		post := lettersLong(count)
		w := worldBy(rowWorld(t, viewOf(7, 3, 0), 9, 7), all(postIs(post...), clientIs(1, waiting(4, o))))
		asked, again := askMsg(3, 7, askedEntry(2, 1, o)), askMsg(3, 7, askedEntry(1, 4, o))
		if count == 60 {
			checkNothingHappens(t, w, askAct(2, o), askAct(2, readOp("b", 0)), againAct(1), twiceAct(0), twiceAct(59), pushAct(3))
			continue
		}
		checkSomething(t, w, askAct(2, o), all(clientIs(2, waiting(1, o)), postIs(append(slices.Clip(post), asked)...)))
		checkSomething(t, w, againAct(1), postIs(append(slices.Clip(post), again)...))
		checkSomething(t, w, twiceAct(3), postIs(append(slices.Clip(post), post[3])...))
	}
}

func TestRoomForWhatIsPushed(t *testing.T) {
	for _, c := range []struct {
		log   int
		acked int64
	}{{1, 0}, {20, 10}, {60, 0}, {61, 1}, {61, 0}, {120, 60}, {120, 59}, {120, 0}} {
		count := c.log - int(c.acked)
		for _, had := range []int{0, 59 - count, 60 - count, 61 - count, 59, 60} {
			if had < 0 || had > 60 {
				continue
			}
			post := lettersLong(had)
			w := worldBy(newWorld(t, 4, 2), all(postIs(post...), houseIs(0, replayedHouse(t, 4, entriesLong(c.log), c.acked))))
			if had+count > 60 {
				checkNothingHappens(t, w, pushAct(0))
				continue
			}
			for _, e := range w.Houses[0].Log[c.acked:] {
				post = append(post, passMsg(1, 1, e))
			}
			checkSomething(t, w, pushAct(0), postIs(post...))
		}
	}
	// All is Acked: what Pushed tells is true, though there is nothing to send.
	full := worldBy(newWorld(t, 4, 2), all(postIs(lettersLong(60)...), houseIs(0, replayedHouse(t, 4, entriesLong(9), 9))))
	checkSomething(t, full, pushAct(0), func(*impl.World) {})
	checkSomething(t, newWorld(t, 4, 2), pushAct(0), func(*impl.World) {})
	checkNothingHappens(t, newWorld(t, 4, 2), pushAct(1), pushAct(2))
}

// What is taken makes room for one; the tail sends two, so that of 60 it can hear nothing that is passed to it.
func TestRoomForWhatIsSent(t *testing.T) {
	log := busyLog()
	for _, had := range []int{57, 58, 59} {
		for _, at := range []int{0, had / 2, had} {
			w := rowWorld(t, viewOf(7, 3, 1, 0), 9, 9, 7)
			put := func(m impl.Msg) impl.World {
				return withPost(w, slices.Insert(lettersLong(had), at, m)...)
			}
			next, others := log[7], lettersLong(had)
			if pass := put(passMsg(0, 7, next)); had == 59 {
				checkNothingHappens(t, pass, takeAct(int64(at)))
				checkSomething(t, pass, loseAct(int64(at)), postIs(others...))
			} else {
				told := tellMsg(7, changedBy(next, putSeq(0)), 8, impl.Reply{Value: 1})
				checkSomething(t, pass, takeAct(int64(at)), all(houseIs(0, replayedHouse(t, 4, log[:8], 8)), postIs(append(others, told, ackMsg(1, 7, 8))...)))
			}
			// Who sends one letter alone has just room for it.
			e, given := nextOf(w.Houses[3], 1, attachOp("b")), lettersLong(had)
			grown := replayedHouse(t, 4, append(slices.Clip(log[:9]), e), 3)
			checkSomething(t, put(askMsg(3, 7, changedBy(e, putSeq(0)))), takeAct(int64(at)), all(houseIs(3, grown), postIs(append(given, passMsg(1, 7, e))...)))
			acked := w.Houses[1]
			acked.Acked = 9
			checkSomething(t, put(ackMsg(1, 7, 9)), takeAct(int64(at)), all(houseIs(1, acked), postIs(append(lettersLong(had), ackMsg(3, 7, 9))...)))
			// Who sends none, too.
			checkSomething(t, put(ackMsg(2, 7, 9)), takeAct(int64(at)), postIs(lettersLong(had)...))
		}
	}
}

func TestRoomForEvents(t *testing.T) {
	o := readOp("b", 0)
	m := tellMsg(7, askedEntry(2, 5, o), 3, impl.Reply{Value: 4})
	for _, count := range []int{0, 298, 299, 300} {
		w := worldBy(newWorld(t, 4, 2), all(postIs(ackMsg(3, 1, 1), m), clientIs(2, waiting(5, o)), func(w *impl.World) { w.Told = eventsLong(count) }))
		checkLooksOfWorld(t, w, true, []int64{0, 1})
		if count == 300 {
			checkNothingHappens(t, w, takeAct(1))
			checkSomething(t, w, loseAct(1), postIs(ackMsg(3, 1, 1)))
			// Of what nobody waits for no Event comes, and so it needs no room.
			for _, c := range []impl.Client{{Tag: 5}, waiting(4, o), waiting(5, attachOp("b"))} {
				checkSomething(t, worldBy(w, clientIs(2, c)), takeAct(1), all(postIs(ackMsg(3, 1, 1))))
			}
			checkSomething(t, w, takeAct(0), postIs(m))
			continue
		}
		told := impl.Event{Client: 2, Tag: 5, Op: o, Reply: impl.Reply{Value: 4}, Seq: 3}
		checkSomething(t, w, takeAct(1), all(clientIs(2, impl.Client{Tag: 5}), hasTold(told), postIs(ackMsg(3, 1, 1))))
	}
}

// Every House of every row falls, be it the head, in the middle or the tail, till one is left.
func TestHousesFall(t *testing.T) {
	for _, members := range allRows() {
		lengths := []int{9, 7, 7, 4}[:len(members)]
		w := rowWorld(t, viewOf(7, members...), lengths...)
		w.Clients, w.Told, w.Post = someClients(), eventsLong(2), oneOfEachKind()
		up := slices.Clone(members)
		for id := range int64(4) {
			at := slices.Index(up, id)
			if at < 0 || len(up) == 1 {
				checkNothingHappens(t, w, fallAct(id))
				continue
			}
			checkSomething(t, w, fallAct(id), houseIs(id, impl.House{}))
			w = worldBy(w, houseIs(id, impl.House{}))
			up = slices.Delete(up, at, at+1)
			checkLooksOfWorld(t, w, true, up)
			checkNothingHappens(t, w, fallAct(id))
		}
		if len(up) != 1 {
			t.Fatal(up)
		}
	}
}

// In every row any Members may be those that are not Up: all of them go at once, each makes the Number one more.
func TestViewsWithoutWhoIsNotUp(t *testing.T) {
	for _, members := range allRows() {
		for set := range 1 << len(members) {
			lengths, up := []int{}, []int64{}
			for place, id := range members {
				if set>>place&1 == 0 {
					lengths = append(lengths, -1)
					continue
				}
				lengths, up = append(lengths, 9-place), append(up, id)
			}
			w := rowWorld(t, viewOf(7, members...), lengths...)
			if len(up) == 0 {
				checkLooksOfWorld(t, w, false, nil)
				continue
			}
			checkLooksOfWorld(t, w, true, up)
			gone := int64(len(members) - len(up))
			for _, number := range []int64{1, 996, 997, 998, 999, 1000} {
				w.View.Number = number
				if gone == 0 || number+gone > 1000 {
					checkNothingHappens(t, w, viewAct())
				} else {
					checkSomething(t, w, viewAct(), viewIs(number+gone, up...))
				}
			}
		}
	}
}

// Who joins has all that the tail has, stands at the end, and has Acked all.
func TestHousesJoin(t *testing.T) {
	for _, members := range allRows() {
		lengths := []int{9, 8, 7, 4}[:len(members)]
		for _, number := range []int64{1, 999, 1000} {
			w := rowWorld(t, viewOf(number, members...), lengths...)
			w.Clients, w.Told, w.Post = someClients(), eventsLong(2), oneOfEachKind()
			length := lengths[len(lengths)-1]
			for id := range int64(4) {
				if slices.Contains(members, id) || number == 1000 {
					checkNothingHappens(t, w, joinAct(id))
					continue
				}
				copied := replayedHouse(t, 4, busyLog()[:length], int64(length))
				checkSomething(t, w, joinAct(id), all(houseIs(id, copied), viewIs(number+1, append(slices.Clone(members), id)...)))
			}
			checkNothingHappens(t, w, joinAct(-1), joinAct(4))
			for _, fallen := range members {
				if len(members) > 1 {
					down := worldBy(w, houseIs(fallen, impl.House{}))
					checkNothingHappens(t, down, joinAct(0), joinAct(1), joinAct(2), joinAct(3))
				}
			}
		}
	}
}

// Views come and go till the last Number.
func TestViewsUpToTheLastNumber(t *testing.T) {
	w := newWorld(t, 2, 2)
	for number := int64(3); number <= 999; number += 2 {
		w = impl.Play(w, []impl.Act{fallAct(0), viewAct(), joinAct(0)})
		if w.View.Number != number || !impl.WorldOk(w) {
			t.Fatalf("at %d it is %s", number, showWorld(w))
		}
	}
	if w.View.Number != 999 || len(w.View.Members) != 2 {
		t.Fatal(w.View)
	}
	last := impl.Play(w, []impl.Act{joinAct(2)})
	if !sameView(last.View, viewOf(1000, 1, 0, 2)) {
		t.Fatal(last.View)
	}
	checkNothingHappens(t, last, joinAct(3), viewAct())
	checkNothingHappens(t, worldBy(last, houseIs(1, impl.House{})), viewAct(), joinAct(3))
	checkSomething(t, worldBy(w, houseIs(1, impl.House{})), viewAct(), viewIs(1000, 0))
}

func TestUpMembersStandInTheOrderOfTheView(t *testing.T) {
	checkLooksOfWorld(t, rowWorld(t, viewOf(7, 3, 1, 0, 2), 4, -1, 3, 3), true, []int64{3, 0, 2})
	checkLooksOfWorld(t, rowWorld(t, viewOf(7, 3, 1, 0, 2), 4, 4, 3, 3), true, []int64{3, 1, 0, 2})
	checkLooksOfWorld(t, rowWorld(t, viewOf(7, 2, 0), -1, 3), true, []int64{0})
	checkLooksOfWorld(t, rowWorld(t, viewOf(7, 2), 3), true, []int64{2})
}

func overwriteWorld(w impl.World) {
	over := snapOp("over", "over")
	for _, h := range w.Houses {
		overwriteHouse(h)
	}
	houses := w.Houses[:cap(w.Houses)]
	for i := range houses {
		houses[i] = impl.House{Up: true, Pages: -601, Acked: -602}
	}
	fill(w.View.Members[:cap(w.View.Members)], -603)
	overwritePost(w.Post)
	clients := w.Clients[:cap(w.Clients)]
	for i := range clients {
		clients[i] = impl.Client{Tag: -604, Waits: true, Op: over}
	}
	told := w.Told[:cap(w.Told)]
	for i := range told {
		told[i] = impl.Event{Client: -605, Tag: -606, Op: over, Reply: impl.Reply{Code: -607}, Seq: -608}
	}
}

// someActs are of every Kind, and all do something in the busy World.
func someActs() []impl.Act {
	return []impl.Act{askAct(0, makeOp("q", 3)), againAct(1), takeAct(0), loseAct(5), twiceAct(2), pushAct(1), fallAct(3), viewAct(), joinAct(2)}
}

// actWorld is the busy one, where need be made such that this Act does something.
func actWorld(t *testing.T, a impl.Act) impl.World {
	t.Helper()
	w := busyWorld(t)
	if a.Kind == impl.AcView {
		w.Houses[3] = impl.House{}
	}
	return w
}

func TestSomeActsDoSomething(t *testing.T) {
	for _, a := range someActs() {
		if _, is := checkHappen(t, actWorld(t, a), a); !is {
			t.Fatalf("%v does nothing", a)
		}
	}
}

// checkWrongWorld asks what a World that is not right answers to everything.
func checkWrongWorld(t *testing.T, what string, w impl.World) {
	t.Helper()
	if handWorld(w) {
		t.Fatalf("%s: the test itself takes for right %s", what, showWorld(w))
	}
	checkLooksOfWorld(t, w, false, nil)
	for _, a := range append(someActs(), impl.Act{}, impl.Act{Kind: 10}, takeAct(-1)) {
		if got, is := impl.Happen(w, a); is || !sameWorld(got, impl.World{}) {
			t.Fatalf("%s: Happen of %v is %v, %s", what, a, is, showWorld(got))
		}
	}
	checkHappenIs(t, w, loseAct(0), impl.World{}, false)
	checkPlayIs(t, w, nil, impl.World{})
	checkPlayIs(t, w, someActs(), impl.World{})
}

// wrongWorlds are wrong in one way each; made from the busy World, or one with the same Houses and View.
func wrongWorlds(t *testing.T, w impl.World) map[string]impl.World {
	t.Helper()
	by := func(changes ...func(*impl.World)) impl.World { return worldBy(w, all(changes...)) }
	other := replayedHouse(t, 5, busyLog()[:13], 3)
	return map[string]impl.World{
		"the zero World":                      {},
		"a View alone":                        {View: viewOf(1, 0)},
		"no Houses":                           by(func(w *impl.World) { w.Houses = nil }),
		"three Houses":                        by(func(w *impl.World) { w.Houses = w.Houses[:3] }),
		"three Houses, and they are all Up":   by(viewIs(7, 1, 0), func(w *impl.World) { w.Houses = slices.Delete(w.Houses, 3, 4) }),
		"five Houses":                         by(func(w *impl.World) { w.Houses = append(w.Houses, impl.House{}) }),
		"five Houses, and the last one Up":    by(func(w *impl.World) { w.Houses = append(w.Houses, w.Houses[1]) }),
		"eight Houses":                        by(func(w *impl.World) { w.Houses = slices.Repeat(w.Houses, 2) }),
		"unlike Pages at the head":            by(houseIs(1, other)),
		"unlike Pages in the middle":          by(houseIs(3, other)),
		"unlike Pages at the tail":            by(houseIs(0, replayedHouse(t, 24, busyLog()[:7], 0))),
		"two of unlike Pages":                 by(houseIs(0, impl.House{}), houseIs(3, other)),
		"no Member Up":                        by(houseIs(0, impl.House{}), houseIs(1, impl.House{}), houseIs(3, impl.House{})),
		"no House Up":                         by(func(w *impl.World) { w.Houses = make([]impl.House, 4) }),
		"a House Up that is no Member":        by(houseIs(2, w.Houses[0])),
		"a House Up that is a Member no more": by(viewIs(7, 1, 0)),
		"none Up but one that is no Member":   by(houseIs(0, impl.House{}), houseIs(1, impl.House{}), viewIs(7, 1, 0)),
		"no Clients":                          by(func(w *impl.World) { w.Clients = nil }),
		"three Clients":                       by(func(w *impl.World) { w.Clients = w.Clients[:3] }),
		"five Clients":                        by(func(w *impl.World) { w.Clients = append(w.Clients, impl.Client{}) }),
		"301 Events":                          by(func(w *impl.World) { w.Told = eventsLong(301) }),
		"600 Events":                          by(func(w *impl.World) { w.Told = eventsLong(600) }),
		"61 letters":                          by(postIs(lettersLong(61)...)),
		"120 letters":                         by(postIs(lettersLong(120)...)),
	}
}

func TestWorldsThatAreNotRight(t *testing.T) {
	w := busyWorld(t)
	for what, wrong := range wrongWorlds(t, w) {
		checkWrongWorld(t, what, wrong)
	}
	for _, v := range someWrongViews() {
		checkWrongWorld(t, fmt.Sprint("the View ", v), worldBy(w, func(w *impl.World) { w.View = v }))
	}
	for i, m := range wrongMsgs() {
		what := fmt.Sprint("the letter ", m)
		if i%4 == 0 {
			checkWrongWorld(t, what, worldBy(w, postIs(m)))
			checkWrongWorld(t, what, worldBy(w, postIs(append(oneOfEachKind(), m)...)))
		}
		checkWrongPlainly(t, what, worldBy(w, postIs(append([]impl.Msg{m}, oneOfEachKind()...)...)))
	}
}

// checkWrongPlainly asks once, without laying anything out.
func checkWrongPlainly(t *testing.T, what string, w impl.World) {
	t.Helper()
	got, is := impl.Happen(w, askAct(0, makeOp("q", 3)))
	if handWorld(w) || impl.WorldOk(w) || len(impl.UpMembers(w)) > 0 || is || !sameWorld(got, impl.World{}) || !sameWorld(impl.Play(w, someActs()), impl.World{}) {
		t.Fatalf("%s: of %s Happen is %v, %s", what, showWorld(w), is, showWorld(got))
	}
}

func TestWorldsWithWrongClients(t *testing.T) {
	w, o := busyWorld(t), makeOp("a", 3)
	wrong := []impl.Client{
		{Tag: -1}, {Tag: 1001}, waiting(0, o), waiting(-1, o), waiting(1001, o), waiting(5, impl.Op{}), {Waits: true},
		{Op: o}, {Tag: 5, Op: o}, {Tag: 5, Op: impl.Op{Kind: 1}}, {Tag: 5, Op: impl.Op{Name: "a"}}, {Tag: 5, Op: impl.Op{Other: "a"}},
		{Tag: 5, Op: impl.Op{At: 1}}, {Tag: 5, Op: impl.Op{Value: 1}}, {Tag: 5, Op: impl.Op{Epoch: 1}}, {Tag: 5, Op: impl.Op{Epoch: -1}},
	}
	for client := range int64(4) {
		for _, c := range wrong {
			checkWrongWorld(t, fmt.Sprint("the Client ", c), worldBy(w, clientIs(client, c)))
		}
		for _, n := range wrongNumbers {
			for _, c := range []impl.Client{{Tag: n}, waiting(n, o), {Tag: 5, Op: impl.Op{Value: n}}, waiting(5, readOp("a", n))} {
				checkWrongPlainly(t, fmt.Sprint("the Client ", c), worldBy(w, clientIs(client, c)))
			}
		}
	}
	for _, o := range oneOfEach() {
		for _, wrong := range wrongByOneField(o) {
			checkWrongPlainly(t, fmt.Sprint("one that Waits with ", wrong), worldBy(w, clientIs(2, waiting(5, wrong))))
		}
	}
	for tag := int64(-2); tag <= 1002; tag++ {
		for _, c := range []impl.Client{{Tag: tag}, waiting(tag, o)} {
			right := tag >= 0 && tag <= 1000 && !(tag == 0 && c.Waits)
			if impl.WorldOk(worldBy(w, clientIs(2, c))) != right {
				t.Fatalf("of %v WorldOk is %v", c, !right)
			}
		}
	}
}

func TestWorldsWithWrongEvents(t *testing.T) {
	w, right := busyWorld(t), impl.Event{Client: 2, Tag: 5, Op: writeOp("b", 1, 9), Reply: impl.Reply{Value: 3}, Seq: 9}
	with := func(e impl.Event) impl.World { return worldBy(w, hasTold(e)) }
	for at, edges := range [][]int64{{-1, 0, 3, 4}, {0, 1, 1000, 1001}, {-1, 0, 120, 121}, {-1, 0, 1000, 1001}} {
		put := func(n int64) impl.Event {
			e := right
			*[]*int64{&e.Client, &e.Tag, &e.Seq, &e.Reply.Value}[at] = n
			return e
		}
		checkWrongWorld(t, fmt.Sprint("the Event ", put(edges[0])), with(put(edges[0])))
		checkWrongWorld(t, fmt.Sprint("the Event ", put(edges[3])), with(put(edges[3])))
		for _, n := range edges[1:3] {
			checkLooksOfWorld(t, with(put(n)), true, []int64{1, 3, 0})
		}
		for _, n := range wrongNumbers {
			checkWrongPlainly(t, fmt.Sprint("the Event ", put(n)), with(put(n)))
		}
	}
	for _, r := range someReplies() {
		e := right
		e.Reply = r
		checkLooksOfWorld(t, with(e), true, []int64{1, 3, 0})
	}
	for _, r := range someWrongReplies() {
		e := right
		e.Reply = r
		checkWrongPlainly(t, fmt.Sprint("the Event ", e), with(e))
	}
	for _, o := range oneOfEach() {
		for _, wrong := range append(wrongByOneField(o), impl.Op{}) {
			e := right
			e.Op = wrong
			checkWrongPlainly(t, fmt.Sprint("the Event ", e), with(e))
		}
	}
	// A wrong one is found wherever it stands, also where there are just as many as may be.
	for _, at := range []int{0, 1, 150, 299} {
		told := eventsLong(300)
		told[at].Tag = 0
		checkWrongPlainly(t, "among 300 Events", worldBy(w, func(w *impl.World) { w.Told = told }))
	}
}

func TestWorldsWithWrongHouses(t *testing.T) {
	w := busyWorld(t)
	for _, id := range []int64{1, 3, 0} {
		h := w.Houses[id]
		wrong := []impl.House{
			{Up: true}, {Pages: 4}, {Acked: 1}, {Memo: impl.NewMemo()}, {Log: h.Log}, {Shelf: h.Shelf},
			{Pages: h.Pages, Log: h.Log, Acked: h.Acked, Shelf: h.Shelf, Memo: h.Memo},
		}
		put := func(change func(*impl.House)) {
			other := h
			change(&other)
			wrong = append(wrong, other)
		}
		for _, n := range []int64{-1, int64(len(h.Log)) + 1, 1 << 40} {
			put(func(h *impl.House) { h.Acked = n })
			put(func(h *impl.House) { h.Pages = n })
		}
		put(func(h *impl.House) { h.Log = h.Log[1:] })
		put(func(h *impl.House) { h.Log = h.Log[:1] })
		put(func(h *impl.House) { h.Log = nil })
		for _, h := range wrong {
			checkWrongWorld(t, "a House that is not right", worldBy(w, houseIs(id, h)))
		}
		wrong = nil
		for _, s := range otherShelves(h.Shelf) {
			put(func(h *impl.House) { h.Shelf = s })
		}
		for _, log := range otherLogs(h.Log) {
			put(func(h *impl.House) { h.Log = log })
		}
		for i, m := range otherMemos(h.Memo) {
			if i%10 == 0 && !sameMemo(m, h.Memo) {
				put(func(h *impl.House) { h.Memo = m })
			}
		}
		for _, h := range wrong {
			checkWrongPlainly(t, "a House that is not what its Log comes to", worldBy(w, houseIs(id, h)))
		}
	}
	for _, h := range []impl.House{{Up: true}, {Pages: 4}, {Acked: 1}, {Memo: impl.NewMemo()}, {Log: busyLog()[:1]}} {
		checkWrongWorld(t, "a House that is not Up, and no Member", worldBy(w, houseIs(2, h)))
	}
}

// Empty lists are as good as nil.
func TestWorldsOfEmptyLists(t *testing.T) {
	empty := impl.House{Log: []impl.Entry{}, Shelf: impl.Shelf{Pool: poolOf([]int64{}, []int64{}), Books: []impl.Book{}}, Memo: impl.Memo{Tags: []int64{}, Replies: []impl.Reply{}}}
	w := worldBy(newWorld(t, 2, 1), all(houseIs(1, empty), houseIs(3, empty), postIs([]impl.Msg{}...), func(w *impl.World) { w.Told = []impl.Event{} }))
	checkLooksOfWorld(t, w, true, []int64{0})
	checkNothingHappens(t, w, takeAct(0), fallAct(1), pushAct(1))
	checkSomething(t, w, joinAct(1), all(houseIs(1, newHandHouse(2).house(0)), viewIs(2, 0, 1)))
}

func TestVeryGreatAndVerySmallOnesOfAnAct(t *testing.T) {
	numbers := slices.Concat(extremes, farNumbers, wrongNumbers)
	for _, a := range someActs() {
		w := actWorld(t, a)
		want, _ := handHappen(w, a)
		for i, n := range numbers {
			others := []impl.Act{{Kind: a.Kind, A: n, Op: a.Op}, {Kind: n, A: a.A, Op: a.Op}, {Kind: n, A: n, Op: impl.Op{Kind: n, Name: "a", At: n, Value: n, Epoch: n}}}
			for _, other := range others {
				checkHappenPlainly(t, w, other)
				if i%8 == 0 {
					checkHappen(t, w, other)
				}
			}
			if a.Kind == impl.AcAsk {
				checkHappenPlainly(t, w, askAct(a.A, impl.Op{Kind: n, Name: "a", Value: 3}))
				checkHappenPlainly(t, w, askAct(a.A, writeOp("a", 1, n)))
				checkHappenPlainly(t, w, askAct(a.A, atEpoch(readOp("a", n), n)))
				continue
			}
			// No other Act asks for its Op, nor AcView for A.
			garbage := impl.Act{Kind: a.Kind, A: a.A, Op: impl.Op{Kind: n, Name: "A", Other: "\x00", At: n, Value: n, Epoch: n}}
			if a.Kind == impl.AcView {
				garbage.A = n
			}
			if got, is := impl.Happen(w, garbage); !is || !sameWorld(got, want) {
				t.Fatalf("Happen of %v is %v, %s; wanted %s", garbage, is, showWorld(got), showWorld(want))
			}
		}
	}
}

func numbersOfEvent(e *impl.Event) []*int64 {
	return []*int64{&e.Client, &e.Tag, &e.Op.Kind, &e.Op.At, &e.Op.Value, &e.Op.Epoch, &e.Reply.Code, &e.Reply.Value, &e.Seq}
}

// numbersOfWorld are all there are in it.
func numbersOfWorld(w *impl.World) []*int64 {
	list := []*int64{&w.View.Number}
	for i := range w.View.Members {
		list = append(list, &w.View.Members[i])
	}
	for i := range w.Clients {
		c := &w.Clients[i]
		list = append(list, &c.Tag, &c.Op.Kind, &c.Op.At, &c.Op.Value, &c.Op.Epoch)
	}
	for i := range w.Post {
		list = append(list, numbersOfMsg(&w.Post[i])...)
	}
	for i := range w.Told {
		list = append(list, numbersOfEvent(&w.Told[i])...)
	}
	for i := range w.Houses {
		list = append(list, numbersOfHouse(&w.Houses[i])...)
	}
	return list
}

func TestVeryGreatAndVerySmallOnesOfAWorld(t *testing.T) {
	w := rowWorld(t, viewOf(7, 1, 3), 7, 5)
	w.Post, w.Clients, w.Told = oneOfEachKind(), someClients(), eventsLong(3)
	numbers := []int64{-1 << 63, -1<<63 + 1, -256, -1, 0, 1, 4, 121, 1001, 1 << 32, 1<<32 + 1, 1<<63 - 1}
	acts := someActs()
	for at := range numbersOfWorld(&w) {
		for i, n := range numbers {
			changed := worldBy(w, func(w *impl.World) { *numbersOfWorld(w)[at] = n })
			checkHappenPlainly(t, changed, acts[(at+i)%len(acts)])
			if right := handWorld(changed); impl.WorldOk(changed) != right {
				t.Fatalf("WorldOk is %v of %s", !right, showWorld(changed))
			}
		}
	}
}

// Play is its Acts one by one; what can't be done is passed over.
func TestPlayIsItsActsOneByOne(t *testing.T) {
	for _, w := range someWorlds(t) {
		checkPlayIs(t, w, nil, w)
		checkPlayIs(t, w, []impl.Act{}, w)
		checkPlayIs(t, w, []impl.Act{{}, {Kind: 10}, takeAct(-1), fallAct(4)}, w)
		list, want := slices.Concat(someActs(), []impl.Act{{}, takeAct(-1)}, someActs(), someActs()), w
		for i, a := range list {
			want, _ = impl.Happen(want, a)
			if i%7 == 0 {
				checkPlayIs(t, w, list[:i+1], want)
			}
		}
		checkPlayIs(t, w, list, want)
		checkPlayIs(t, w, list, handPlay(w, list))
	}
}

func TestPlayOfAsManyActsAsMayBe(t *testing.T) {
	w := worldBy(newWorld(t, 2, 2), postIs(oneOfEachKind()...))
	for count, right := range map[int]bool{0: true, 1: true, 299: true, 300: true, 301: false, 302: false, 1000: false} {
		list := []impl.Act{}
		for i := range count {
			list = append(list, []impl.Act{twiceAct(0), loseAct(0), loseAct(99)}[i%3])
		}
		want := impl.World{}
		if right {
			want = handPlay(w, list)
		}
		checkPlayIs(t, w, list, want)
		// It does not matter whether any of them does something.
		if !right {
			w := newWorld(t, 2, 2)
			checkPlayIs(t, w, make([]impl.Act, count), impl.World{})
			checkPlayIs(t, impl.World{}, make([]impl.Act, count), impl.World{})
		}
	}
	checkPlayIs(t, w, make([]impl.Act, 300), w)
	checkPlayIs(t, w, append(make([]impl.Act, 299), loseAct(0)), worldBy(w, func(w *impl.World) { w.Post = w.Post[1:] }))
}

// answersOfWorld are what is answered of this World: gone on, and as it is.
func answersOfWorld(w impl.World) map[string]func() impl.World {
	answers := map[string]func() impl.World{}
	acts := append(someActs(), takeAct(1), takeAct(4), takeAct(9), askAct(1, attachOp("b")), pushAct(2), joinAct(1), impl.Act{}, impl.Act{Kind: 10})
	for _, a := range acts {
		answers[fmt.Sprint("Happen of ", a)] = func() impl.World {
			got, _ := impl.Happen(w, a)
			return got
		}
	}
	answers["Play"] = func() impl.World { return impl.Play(w, acts) }
	answers["Play of no Act"] = func() impl.World { return impl.Play(w, nil) }
	answers["Play of what can't be done"] = func() impl.World { return impl.Play(w, make([]impl.Act, 3)) }
	return answers
}

// Written into the one, looked at the other, and the other way round.
func TestWhatHappensIsNewMemory(t *testing.T) {
	for _, fallen := range []bool{false, true} {
		start := func() impl.World {
			w := busyWorld(t)
			if fallen {
				w.Houses[3] = impl.House{}
			}
			w.Clients[2] = waiting(5, w.Post[4].Entry.Op)
			return w
		}
		for what := range answersOfWorld(impl.World{}) {
			w := start()
			got := answersOfWorld(w)[what]()
			told := cloneWorld(got)
			checkSpansApart(t, what, spansOfWorld(got), spansOfWorld(w))
			overwriteWorld(got)
			if !sameWorld(w, start()) {
				t.Fatalf("%s: written into the answer, what was handed in became %s", what, showWorld(w))
			}
			got = answersOfWorld(w)[what]()
			overwriteWorld(w)
			if !sameWorld(got, told) {
				t.Fatalf("%s: written into what was handed in, the answer became %s; it was %s", what, showWorld(got), showWorld(told))
			}
		}
	}
	w := busyWorld(t)
	up := impl.UpMembers(w)
	fill(up[:cap(up)], -701)
	if !sameWorld(w, busyWorld(t)) {
		t.Fatal(w.View)
	}
}

// Two answers that go on from one World have nothing of each other.
func TestWorldsThatGoOnFromOne(t *testing.T) {
	w := busyWorld(t)
	for what, ask := range answersOfWorld(w) {
		first, second := ask(), ask()
		checkSpansApart(t, what, spansOfWorld(first), spansOfWorld(second))
		kept := cloneWorld(second)
		overwriteWorld(first)
		if third := ask(); !sameWorld(second, kept) || !sameWorld(third, kept) {
			t.Fatalf("%s: written into an answer, the next one became %s; it was %s", what, showWorld(third), showWorld(kept))
		}
	}
	// Both go on from what is answered, the one way and the other.
	asked, _ := impl.Happen(w, askAct(0, makeOp("q", 3)))
	for _, acts := range [][2]impl.Act{{takeAct(6), loseAct(6)}, {takeAct(0), takeAct(1)}, {againAct(0), againAct(1)}, {joinAct(2), fallAct(0)}} {
		kept := cloneWorld(asked)
		one, _ := impl.Happen(asked, acts[0])
		oneKept := cloneWorld(one)
		checkHappen(t, asked, acts[1])
		if !sameWorld(asked, kept) || !sameWorld(one, oneKept) {
			t.Fatalf("after %v it is %s, and %s", acts, showWorld(asked), showWorld(one))
		}
	}
}

// Texts are memory as well: these lie in the midst of others, and the answer has its own ones.
func TestTextsOfWorldsAreNewMemory(t *testing.T) {
	long := strings.Repeat("abcd", 3)
	log := entriesFrom(makeOp(long[:4], 4), writeOp(long[4:8], 1, 5), snapOp(long[:4], long[1:3]), cloneOp(long[8:], long[2:4]))
	read, wrote := readOp(long[1:2], 0), snapOp(long[2:5], long[3:6])
	w := newWorld(t, 4, 3)
	for id := range 3 {
		w.Houses[id] = replayedHouse(t, 4, log[:4-id], 0)
	}
	w.Clients = []impl.Client{waiting(9, read), waiting(3, wrote), {Tag: 3}, {}}
	w.Told = []impl.Event{{Client: 1, Tag: 1, Op: wrote}, {Client: 2, Tag: 1, Op: read}}
	w.Post = []impl.Msg{askMsg(0, 1, askedEntry(3, 7, wrote)), askMsg(2, 1, askedEntry(0, 9, read)), passMsg(1, 1, log[1]), passMsg(2, 1, log[2]), tellMsg(1, askedEntry(1, 3, wrote), 2, impl.Reply{}), ackMsg(0, 1, 2)}
	for _, a := range []impl.Act{askAct(2, cloneOp(long[:1], long[4:6])), askAct(3, readOp(long[:4], 1)), askAct(0, read), againAct(0), againAct(1), viewAct(), joinAct(3), fallAct(1), pushAct(0), pushAct(1), twiceAct(0), loseAct(0), takeAct(0), takeAct(1), takeAct(2), takeAct(3), takeAct(4), takeAct(5)} {
		checkHappen(t, w, a)
		checkPlayIs(t, w, []impl.Act{a, a, takeAct(5)}, handPlay(w, []impl.Act{a, a, takeAct(5)}))
	}
}

// One list may stand in the World more than once.
func TestWorldsOverOneMemory(t *testing.T) {
	h := busyHouse(t, 9)
	w := impl.World{Houses: []impl.House{h, h, h, h}, View: viewOf(7, 1, 3, 0, 2), Post: oneOfEachKind(), Clients: someClients(), Told: eventsLong(4)}
	for _, a := range append(someActs(), takeAct(4), fallAct(0)) {
		checkHappen(t, w, a)
	}
	checkPlayIs(t, w, someActs(), handPlay(w, someActs()))
}

// spoilWorld changes one thing of it.
func spoilWorld(next func(int64) int64, w impl.World, numbers []int64) impl.World {
	w = cloneWorld(w)
	id, client := next(4), next(4)
	switch next(10) {
	case 0:
		w.Houses = slices.Repeat(w.Houses, 2)[:next(9)]
	case 1:
		w.Clients = slices.Repeat(w.Clients, 2)[:next(9)]
	case 2:
		w.View = spoilView(next, w.View, numbers)
	case 3:
		w.Post = spoilPost(next, w.Post, numbers)
	case 4:
		if w.Houses[id].Up {
			w.Houses[id] = spoilHouse(next, w.Houses[id], numbers, typicalOps())
		}
	case 5:
		w.Houses[id] = w.Houses[(id+1)%4]
	case 6:
		w.Clients[client].Waits = !w.Clients[client].Waits
	case 7:
		w.Told = eventsLong(int(next(310)))
		if len(w.Told) > 0 && next(2) == 0 {
			*pickOf(next, numbersOfEvent(&w.Told[next(int64(len(w.Told)))])) = pickOf(next, numbers)
		}
	case 8:
		w.Houses[id] = impl.House{}
	case 9:
		*pickOf(next, numbersOfWorld(&w)) = pickOf(next, numbers)
	}
	return w
}

// likelyAct is mostly one that does something.
func likelyAct(next func(int64) int64, w impl.World) impl.Act {
	up := handUp(w)
	hand, _ := handReplayed(w.Houses[up[0]].Pages, w.Houses[up[0]].Log)
	kind := pickOf(next, []int64{1, 1, 1, 1, 1, 2, 2, 3, 3, 3, 3, 3, 3, 3, 3, 3, 3, 3, 3, 3, 3, 4, 5, 6, 7, 8, 9})
	a := impl.Act{Kind: kind, A: next(4)}
	switch kind {
	case impl.AcAsk:
		a.Op = likelyOp(next, hand.shelf)
	case impl.AcTake, impl.AcLose, impl.AcTwice:
		a.A = next(int64(len(w.Post)) + 1)
	case impl.AcFall:
		// Who falls often does not come to tell much.
		if next(3) > 0 {
			a.Kind = impl.AcView
		}
	}
	return a
}

// checkStaysRight asks for what must hold from Act to Act.
func checkStaysRight(t *testing.T, before impl.World, a impl.Act, after impl.World, is bool) {
	t.Helper()
	if !impl.WorldOk(after) || !is && !sameWorld(before, after) {
		t.Fatalf("after %v, which is %v, of %s it became %s", a, is, showWorld(before), showWorld(after))
	}
	if len(after.Told) < len(before.Told) || !slices.Equal(after.Told[:len(before.Told)], before.Told) {
		t.Fatalf("after %v Told is %v; it was %v", a, after.Told, before.Told)
	}
	for client, c := range after.Clients {
		if was := before.Clients[client]; c.Tag < was.Tag || c.Tag > was.Tag+1 || was.Waits && c.Tag > was.Tag {
			t.Fatalf("after %v of Client %v it became %v", a, was, c)
		}
	}
	if up := impl.UpMembers(after); !slices.Equal(up, handUp(after)) || len(up) == 0 {
		t.Fatalf("UpMembers are %v of %s", up, showWorld(after))
	}
	if after.View.Number < before.View.Number {
		t.Fatalf("after %v of %v it is %v", a, before.View, after.View)
	}
}

// Long rows of Acts without any order, but the same in each run: each World is held against what was worked out by hand, and all Acts at once come to the same.
func TestWorldsStayRightWhateverHappens(t *testing.T) {
	done, told := [10]int{}, 0
	for seed := range uint32(24) {
		next, members := picked(1700+seed), int64(1+seed%4)
		first := newWorld(t, 1+next(24), members)
		w, acts := cloneWorld(first), []impl.Act{}
		for range 300 {
			a := likelyAct(next, w)
			after, is := checkHappenPlainly(t, w, a)
			checkStaysRight(t, w, a, after, is)
			acts = append(acts, a)
			if is {
				done[a.Kind]++
			}
			w = after
		}
		told += len(w.Told)
		if got := impl.Play(first, acts); !sameWorld(got, w) {
			t.Fatalf("Play comes to %s; one by one it was %s", showWorld(got), showWorld(w))
		}
	}
	for kind := impl.AcAsk; kind <= impl.AcJoin; kind++ {
		if done[kind] < 30 {
			t.Fatalf("done were %v", done)
		}
	}
	if told < 150 {
		t.Fatalf("%d were told", told)
	}
}

// Worlds and Acts without any order, but the same in each run, mostly near to right ones.
func TestWorldsAnswerAtEveryArgument(t *testing.T) {
	next, worlds := picked(1770), someWorlds(t)
	numbers := slices.Concat(extremes, farNumbers, wrongNumbers, []int64{0, 1, 2, 3, 4, 24, 25, 120, 121, 300, 1000, 1001})
	rights, done := 0, 0
	for range 700 {
		w := pickOf(next, worlds)
		a := likelyAct(next, w)
		if next(5) < 2 {
			w = spoilWorld(next, w, numbers)
		}
		if next(5) == 0 {
			a.A = pickOf(next, numbers)
		}
		if next(8) == 0 {
			a.Op = pickOf(next, wrongByOneField(makeOp("a", 3)))
		}
		_, is := checkHappen(t, w, a)
		list := []impl.Act{a, likelyAct(next, worlds[4]), {Kind: pickOf(next, numbers), A: next(5)}}
		checkPlayIs(t, w, list, handPlay(w, list))
		right, up := handWorld(w), []int64{}
		if right {
			up = handUp(w)
		}
		checkLooksOfWorld(t, w, right, up)
		rights, done = rights+int(asNumber(right)), done+int(asNumber(is))
	}
	if rights < 400 || rights > 650 || done < 200 || done > 600 {
		t.Fatalf("of 700 Worlds %d were right, and in %d something happened", rights, done)
	}
}
