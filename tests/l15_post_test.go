package tests

import (
	"slices"
	"strings"
	"testing"

	"loop.example/g00372/impl"
)

// msgTells says, by Kind, what a letter tells beside To and View: a is an Entry that is asked, p one that is passed on, s a Seq that there is, t a Seq or none, r Reply.
var msgTells = []string{1: "a", 2: "p", 3: "s", 4: "atr"}

func handAsked(e impl.Entry) bool {
	return e.Seq == 0 && e.Client > -1 && e.Client < 4 && e.Tag > 0 && e.Tag < 1001 && handOp(e.Op)
}

func handMsg(m impl.Msg) bool {
	if m.Kind < 1 || m.Kind > 4 || m.View < 1 || m.View > 1000 {
		return false
	}
	to, entry, seq, reply := m.To > -1 && m.To < 4, m.Entry == impl.Entry{}, m.Seq == 0, m.Reply == impl.Reply{}
	for _, field := range msgTells[m.Kind] {
		switch field {
		case 'a':
			entry = handAsked(m.Entry)
		case 'p':
			entry = handEntry(m.Entry)
		case 's':
			seq = m.Seq > 0 && m.Seq < 121
		case 't':
			seq = m.Seq > -1 && m.Seq < 121
		case 'r':
			reply = handReply(m.Reply)
			// Whoever is told was the one who asked.
			to = to && m.To == m.Entry.Client
		}
	}
	return to && entry && seq && reply
}

func handPost(list []impl.Msg) bool {
	for _, m := range list {
		if !handMsg(m) {
			return false
		}
	}
	return len(list) < 61
}

func handPosted(list []impl.Msg, more []impl.Msg) ([]impl.Msg, bool) {
	if !handPost(list) {
		return nil, false
	}
	all := slices.Concat(list, more)
	if !handPost(all) {
		return list, false
	}
	return all, true
}

func handTaken(list []impl.Msg, at int64) ([]impl.Msg, impl.Msg, bool) {
	if !handPost(list) {
		return nil, impl.Msg{}, false
	}
	others := []impl.Msg{}
	for i, m := range list {
		if int64(i) != at {
			others = append(others, m)
		}
	}
	if len(others) == len(list) {
		return list, impl.Msg{}, false
	}
	return others, list[at], true
}

func handTwice(list []impl.Msg, at int64) ([]impl.Msg, bool) {
	_, m, is := handTaken(list, at)
	if !is {
		all, _ := handPosted(list, nil)
		return all, false
	}
	return handPosted(list, []impl.Msg{m})
}

func askedEntry(client int64, tag int64, o impl.Op) impl.Entry {
	return impl.Entry{Client: client, Tag: tag, Op: o}
}

func numberedEntry(seq int64, client int64, tag int64, o impl.Op) impl.Entry {
	return impl.Entry{Seq: seq, Client: client, Tag: tag, Op: o}
}

func askMsg(to int64, view int64, e impl.Entry) impl.Msg {
	return impl.Msg{Kind: 1, To: to, View: view, Entry: e}
}

func passMsg(to int64, view int64, e impl.Entry) impl.Msg {
	return impl.Msg{Kind: 2, To: to, View: view, Entry: e}
}

func ackMsg(to int64, view int64, seq int64) impl.Msg {
	return impl.Msg{Kind: 3, To: to, View: view, Seq: seq}
}

func tellMsg(view int64, e impl.Entry, seq int64, r impl.Reply) impl.Msg {
	return impl.Msg{Kind: 4, To: e.Client, View: view, Entry: e, Seq: seq, Reply: r}
}

// oneOfEachKind are six letters: what is asked is once an Op that Changes and once one that is read, and so is what is told.
func oneOfEachKind() []impl.Msg {
	write, read := atEpoch(writeOp("ab", 3, 258), 1), readOp("ab", 3)
	return []impl.Msg{
		askMsg(1, 7, askedEntry(2, 5, write)),
		askMsg(3, 7, askedEntry(0, 9, read)),
		passMsg(2, 7, numberedEntry(4, 2, 5, write)),
		ackMsg(0, 7, 4),
		tellMsg(7, askedEntry(2, 5, write), 4, impl.Reply{Code: impl.RpFull}),
		tellMsg(7, askedEntry(1, 9, read), 4, impl.Reply{Value: 258}),
	}
}

// lettersLong are right ones of every Kind, each another one.
func lettersLong(count int) []impl.Msg {
	ops, replies, letters := typicalOps(), someReplies(), []impl.Msg{}
	changing := changingOps()
	for i := range count {
		n := int64(i)
		client, tag, o := n%3, 1+n, ops[i*5%len(ops)]
		switch n % 4 {
		case 0:
			letters = append(letters, askMsg((n/4)%4, 1+n, askedEntry(client, tag, o)))
		case 1:
			letters = append(letters, passMsg((n/4)%4, 1+n/2, numberedEntry(1+n, client, tag, changing[i*5%len(changing)])))
		case 2:
			letters = append(letters, ackMsg((n/4)%4, 1000-n, 1+n%120))
		case 3:
			letters = append(letters, tellMsg(1000, askedEntry(client, tag, o), n%121, replies[i%len(replies)]))
		}
	}
	return letters
}

// somePosts are right ones, some with letters that are alike.
func somePosts() [][]impl.Msg {
	all := oneOfEachKind()
	posts := [][]impl.Msg{{}, all, slices.Concat(all[:2], all[:2]), {all[0], all[0]}, {all[0], all[1], all[0]}, slices.Repeat(all[2:3], 5)}
	for _, m := range all {
		posts = append(posts, []impl.Msg{m})
	}
	for _, count := range []int{2, 3, 7, 59, 60} {
		posts = append(posts, lettersLong(count))
	}
	return append(posts, slices.Repeat(all[3:4], 60), slices.Repeat(all, 10))
}

func msgBy(m impl.Msg, change func(*impl.Msg)) impl.Msg {
	change(&m)
	return m
}

func numbersOfMsg(m *impl.Msg) []*int64 {
	return append([]*int64{&m.Kind, &m.To, &m.View, &m.Seq, &m.Reply.Code, &m.Reply.Value}, numbersOfEntry(&m.Entry)...)
}

// wrongMsgs are wrong in one thing, whatever that is.
func wrongMsgs() []impl.Msg {
	list := []impl.Msg{{}, {Kind: 1, View: 1}, {Kind: 2, View: 1}, {Kind: 3, View: 1}, {Kind: 4, View: 1}}
	for _, m := range oneOfEachKind() {
		for at := range numbersOfMsg(&m) {
			for _, n := range []int64{-1, 1001} {
				list = append(list, msgBy(m, func(m *impl.Msg) { *numbersOfMsg(m)[at] = n }))
			}
		}
		list = append(list,
			msgBy(m, func(m *impl.Msg) { m.Kind = 0 }),
			msgBy(m, func(m *impl.Msg) { m.View = 0 }),
			msgBy(m, func(m *impl.Msg) { m.Seq = 121 }),
			msgBy(m, func(m *impl.Msg) { m.Entry.Op.Name = "abcde" }),
			msgBy(m, func(m *impl.Msg) { m.Entry.Op.Other = "A" }))
	}
	return list
}

// otherLetters are laid around a list: one that could well be posted, and some that could not.
func otherLetters() []impl.Msg {
	return []impl.Msg{ackMsg(3, 999, 120), {}, {Kind: -501, To: -502, View: -503, Entry: impl.Entry{Seq: -504, Op: readOp("a", -505)}, Seq: -506}}
}

func layLetters(list []impl.Msg) []laidList[impl.Msg] {
	return layList(list, otherLetters()...)
}

func spansOfMsg(m impl.Msg) []span {
	return spansOfEntry(m.Entry)
}

func spansOfPost(list []impl.Msg) []span {
	spans := []span{spanOf(list)}
	for _, m := range list {
		spans = append(spans, spansOfMsg(m)...)
	}
	return spans
}

// postAnswer is what is answered by any of the calls that go on from a post.
type postAnswer struct {
	list []impl.Msg
	one  impl.Msg
	is   bool
}

func (a postAnswer) same(b postAnswer) bool {
	return slices.Equal(a.list, b.list) && a.one == b.one && a.is == b.is
}

// checkPostCall asks with one list laid out in several ways; what else is handed in is the caller's to look at.
func checkPostCall(t *testing.T, what string, list []impl.Msg, want postAnswer, call func([]impl.Msg) postAnswer) {
	t.Helper()
	want.list = slices.Clone(want.list)
	for _, given := range layLetters(list) {
		kept := slices.Clone(given.memory)
		got := call(given.list)
		if !slices.Equal(given.memory, kept) {
			t.Fatalf("%s of %v: the memory handed in became %v; it was %v", what, list, given.memory, kept)
		}
		if !got.same(want) {
			t.Fatalf("%s of %v is %v; wanted %v", what, list, got, want)
		}
		checkSpansApart(t, what, append(spansOfPost(got.list), spansOfMsg(got.one)...), spansOfPost(given.memory))
	}
}

func checkMsg(t *testing.T, m impl.Msg, right bool) {
	t.Helper()
	if handMsg(m) != right {
		t.Fatalf("the test itself takes %v for %v", m, !right)
	}
	if impl.MsgOk(m) != right {
		t.Fatalf("MsgOk(%v) is %v", m, !right)
	}
}

func checkPostedIs(t *testing.T, list []impl.Msg, more []impl.Msg, want []impl.Msg, is bool) {
	t.Helper()
	for _, given := range layLetters(more) {
		kept := slices.Clone(given.memory)
		checkPostCall(t, "Posted", list, postAnswer{want, impl.Msg{}, is}, func(list []impl.Msg) postAnswer {
			got, told := impl.Posted(list, given.list)
			checkSpansApart(t, "Posted", spansOfPost(got), spansOfPost(given.memory))
			return postAnswer{got, impl.Msg{}, told}
		})
		if !slices.Equal(given.memory, kept) {
			t.Fatalf("Posted(%v, %v): the memory handed in became %v; it was %v", list, more, given.memory, kept)
		}
	}
}

func checkTakenIs(t *testing.T, list []impl.Msg, at int64, want []impl.Msg, m impl.Msg, is bool) {
	t.Helper()
	checkPostCall(t, "Taken", list, postAnswer{want, m, is}, func(list []impl.Msg) postAnswer {
		got, one, told := impl.Taken(list, at)
		return postAnswer{got, one, told}
	})
}

func checkTwiceIs(t *testing.T, list []impl.Msg, at int64, want []impl.Msg, is bool) {
	t.Helper()
	checkPostCall(t, "Twice", list, postAnswer{want, impl.Msg{}, is}, func(list []impl.Msg) postAnswer {
		got, told := impl.Twice(list, at)
		return postAnswer{got, impl.Msg{}, told}
	})
}

// checkPosted, and the next two, hold any list, right or not, against what was worked out by hand.
func checkPosted(t *testing.T, list []impl.Msg, more []impl.Msg) bool {
	t.Helper()
	want, is := handPosted(list, more)
	checkPostedIs(t, list, more, want, is)
	return is
}

func checkTakenAt(t *testing.T, list []impl.Msg, at int64) bool {
	t.Helper()
	want, m, is := handTaken(list, at)
	checkTakenIs(t, list, at, want, m, is)
	return is
}

func checkTwice(t *testing.T, list []impl.Msg, at int64) bool {
	t.Helper()
	want, is := handTwice(list, at)
	checkTwiceIs(t, list, at, want, is)
	return is
}

// checkNoPost asks what a list that is no post answers to everything.
func checkNoPost(t *testing.T, list []impl.Msg) {
	t.Helper()
	if handPost(list) {
		t.Fatalf("the test itself takes %v for a post", list)
	}
	for _, more := range [][]impl.Msg{{}, oneOfEachKind()[:1], wrongMsgs()[:1], list[:min(len(list), 61)]} {
		checkPostedIs(t, list, more, nil, false)
	}
	for _, at := range []int64{-1, 0, 1, int64(len(list)) - 1, int64(len(list)), 1 << 32} {
		checkTakenIs(t, list, at, nil, impl.Msg{}, false)
		checkTwiceIs(t, list, at, nil, false)
	}
}

func TestKindsAndLimitsOfThePost(t *testing.T) {
	if kinds := []int64{impl.MsAsk, impl.MsPass, impl.MsAck, impl.MsTell}; !slices.Equal(kinds, []int64{1, 2, 3, 4}) {
		t.Fatal(kinds)
	}
	if impl.MaxPost != 60 {
		t.Fatalf("MaxPost is %d", impl.MaxPost)
	}
}

func TestLettersWorkedByHand(t *testing.T) {
	write, read := impl.Op{Kind: impl.OpWrite, Name: "ab", At: 3, Value: 258, Epoch: 1}, impl.Op{Kind: impl.OpRead, Name: "ab", At: 3}
	for _, m := range []impl.Msg{
		{Kind: impl.MsAsk, To: 1, View: 7, Entry: impl.Entry{Client: 2, Tag: 5, Op: write}},
		{Kind: impl.MsAsk, To: 3, View: 7, Entry: impl.Entry{Client: 0, Tag: 9, Op: read}},
		{Kind: impl.MsPass, To: 2, View: 7, Entry: impl.Entry{Seq: 4, Client: 2, Tag: 5, Op: write}},
		{Kind: impl.MsAck, To: 0, View: 7, Seq: 4},
		{Kind: impl.MsTell, To: 2, View: 7, Entry: impl.Entry{Client: 2, Tag: 5, Op: write}, Seq: 4, Reply: impl.Reply{Code: impl.RpFull}},
		{Kind: impl.MsTell, To: 1, View: 7, Entry: impl.Entry{Client: 1, Tag: 9, Op: read}, Reply: impl.Reply{Value: 258}},
	} {
		checkMsg(t, m, true)
	}
	for _, m := range []impl.Msg{
		{},
		{Kind: impl.MsAsk, To: 1, View: 7},
		{Kind: impl.MsAsk, To: 1, View: 7, Entry: impl.Entry{Seq: 1, Client: 2, Tag: 5, Op: write}},
		{Kind: impl.MsAsk, To: 1, View: 7, Entry: impl.Entry{Client: 2, Tag: 5, Op: write}, Seq: 1},
		{Kind: impl.MsPass, To: 2, View: 7, Entry: impl.Entry{Seq: 4, Client: 2, Tag: 5, Op: read}},
		{Kind: impl.MsPass, To: 2, View: 7, Entry: impl.Entry{Client: 2, Tag: 5, Op: write}},
		{Kind: impl.MsAck, To: 0, View: 7},
		{Kind: impl.MsTell, To: 1, View: 7, Entry: impl.Entry{Client: 2, Tag: 5, Op: write}, Seq: 4},
		{Kind: impl.MsTell, To: 2, View: 7, Entry: impl.Entry{Seq: 4, Client: 2, Tag: 5, Op: write}, Seq: 4},
	} {
		checkMsg(t, m, false)
	}
}

func TestRightLettersOfEveryKind(t *testing.T) {
	for _, view := range []int64{1, 2, 999, 1000} {
		for to := range int64(4) {
			for _, seq := range []int64{1, 2, 119, 120} {
				checkMsg(t, ackMsg(to, view, seq), true)
			}
			for _, o := range typicalOps() {
				for _, tag := range []int64{1, 2, 999, 1000} {
					e := askedEntry(3-to, tag, o)
					checkMsg(t, askMsg(to, view, e), true)
					checkMsg(t, tellMsg(view, e, tag%121, impl.Reply{Value: tag}), true)
				}
			}
			for _, o := range changingOps() {
				for _, seq := range []int64{1, 2, 120, 121, 999, 1000} {
					checkMsg(t, passMsg(to, view, numberedEntry(seq, (to+1)%4, seq, o)), true)
				}
			}
		}
	}
}

func TestEveryOpThatIsAsked(t *testing.T) {
	for kind := int64(1); kind <= lastKind; kind++ {
		for _, o := range opsOfKind(kind) {
			checkMsg(t, askMsg(1, 3, askedEntry(2, 5, o)), true)
			checkMsg(t, tellMsg(3, askedEntry(2, 5, o), 9, impl.Reply{}), true)
			checkMsg(t, passMsg(1, 3, numberedEntry(9, 2, 5, o)), kind != impl.OpRead)
		}
	}
}

func TestEdgesOfKindsAndViews(t *testing.T) {
	for _, m := range oneOfEachKind() {
		for _, n := range []int64{0, 5, 6, -1, 256 + m.Kind, m.Kind + 4} {
			checkMsg(t, msgBy(m, func(m *impl.Msg) { m.Kind = n }), false)
		}
		for n, right := range map[int64]bool{-1: false, 0: false, 1: true, 2: true, 999: true, 1000: true, 1001: false} {
			checkMsg(t, msgBy(m, func(m *impl.Msg) { m.View = n }), right)
		}
		for kind := int64(1); kind <= 4; kind++ {
			checkMsg(t, msgBy(m, func(m *impl.Msg) { m.Kind = kind }), kind == m.Kind)
		}
	}
}

func TestToWhomALetterIs(t *testing.T) {
	for _, m := range oneOfEachKind() {
		for n, right := range map[int64]bool{-1: false, 0: true, 1: true, 2: true, 3: true, 4: false} {
			changed := msgBy(m, func(m *impl.Msg) { m.To = n })
			checkMsg(t, changed, right && (m.Kind != impl.MsTell || n == m.Entry.Client))
		}
	}
	for client := int64(-1); client <= 4; client++ {
		for to := int64(-1); to <= 4; to++ {
			right := client == to && client >= 0 && client <= 3
			checkMsg(t, msgBy(tellMsg(2, askedEntry(client, 1, readOp("a", 0)), 0, impl.Reply{}), func(m *impl.Msg) { m.To = to }), right)
		}
	}
}

func TestSeqsOfLetters(t *testing.T) {
	for seq := int64(-3); seq <= 130; seq++ {
		checkMsg(t, ackMsg(2, 1, seq), seq >= 1 && seq <= 120)
		for _, o := range []impl.Op{readOp("a", 0), attachOp("a")} {
			checkMsg(t, tellMsg(1, askedEntry(2, 1, o), seq, impl.Reply{}), seq >= 0 && seq <= 120)
			checkMsg(t, msgBy(askMsg(2, 1, askedEntry(2, 1, o)), func(m *impl.Msg) { m.Seq = seq }), seq == 0)
		}
		checkMsg(t, msgBy(passMsg(2, 1, numberedEntry(1, 2, 1, attachOp("a"))), func(m *impl.Msg) { m.Seq = seq }), seq == 0)
	}
	for _, seq := range []int64{121, 999, 1000, 1001, 1 << 32, 1<<32 + 1} {
		checkMsg(t, ackMsg(2, 1, seq), false)
		checkMsg(t, tellMsg(1, askedEntry(2, 1, attachOp("a")), seq, impl.Reply{}), false)
	}
}

func TestEntriesOfLetters(t *testing.T) {
	for _, m := range oneOfEachKind() {
		if m.Kind == impl.MsAck {
			continue
		}
		withEntry := func(change func(*impl.Entry)) impl.Msg {
			return msgBy(m, func(m *impl.Msg) { change(&m.Entry) })
		}
		passed := m.Kind == impl.MsPass
		for n, numbered := range map[int64]bool{-1: false, 1: true, 2: true, 120: true, 121: true, 1000: true, 1001: false} {
			checkMsg(t, withEntry(putSeq(n)), passed && numbered)
		}
		checkMsg(t, withEntry(putSeq(0)), !passed)
		for n, right := range map[int64]bool{-1: false, 0: false, 1: true, 2: true, 999: true, 1000: true, 1001: false} {
			checkMsg(t, withEntry(putTag(n)), right)
		}
		for n, right := range map[int64]bool{-1: false, 0: true, 1: true, 2: true, 3: true, 4: false} {
			changed := withEntry(putClient(n))
			checkMsg(t, changed, right && (m.Kind != impl.MsTell || n == m.To))
		}
		checkMsg(t, withEntry(putOp(impl.Op{})), false)
		checkMsg(t, withEntry(putOp(readOp("a", 255))), !passed)
		checkMsg(t, withEntry(putOp(deleteOp("a"))), true)
		for _, o := range typicalOps() {
			for _, wrong := range wrongByOneField(o) {
				checkMsg(t, withEntry(putOp(wrong)), false)
			}
		}
	}
}

func TestRepliesThatAreTold(t *testing.T) {
	for _, o := range []impl.Op{readOp("a", 0), writeOp("a", 1, 2)} {
		for _, r := range rightReplies() {
			checkMsg(t, tellMsg(1, askedEntry(0, 1, o), 1, r), true)
		}
		for _, r := range someWrongReplies() {
			checkMsg(t, tellMsg(1, askedEntry(0, 1, o), 1, r), false)
		}
	}
}

// Each field, one at a time, where the Kind does not tell it: anything but zero is too much.
func TestWhatIsNotToldIsZero(t *testing.T) {
	replied := []func(*impl.Msg){
		func(m *impl.Msg) { m.Reply.Code = 1 },
		func(m *impl.Msg) { m.Reply.Value = 1 },
		func(m *impl.Msg) { m.Reply = impl.Reply{Code: -1} },
		func(m *impl.Msg) { m.Reply = impl.Reply{Value: -1} },
	}
	entered := []func(*impl.Msg){
		func(m *impl.Msg) { m.Entry = numberedEntry(4, 2, 5, attachOp("a")) },
		func(m *impl.Msg) { m.Entry = askedEntry(2, 5, attachOp("a")) },
		func(m *impl.Msg) { m.Entry.Op.Name = "a" },
		func(m *impl.Msg) { m.Entry.Op.Other = "a" },
		func(m *impl.Msg) { m.Entry.Op.Name = "\x00" },
	}
	ack := ackMsg(1, 1, 1)
	for at := range numbersOfEntry(&ack.Entry) {
		for _, n := range []int64{1, -1} {
			entered = append(entered, func(m *impl.Msg) { *numbersOfEntry(&m.Entry)[at] = n })
		}
	}
	for _, m := range oneOfEachKind() {
		changes := []func(*impl.Msg){}
		if m.Kind != impl.MsTell {
			changes = append(changes, replied...)
		}
		if m.Kind == impl.MsAck {
			changes = append(changes, entered...)
		}
		if m.Kind == impl.MsAsk || m.Kind == impl.MsPass {
			changes = append(changes, func(m *impl.Msg) { m.Seq = 1 }, func(m *impl.Msg) { m.Seq = m.Entry.Seq + 120 }, func(m *impl.Msg) { m.Seq = -1 })
		}
		checkMsg(t, m, true)
		for _, change := range changes {
			checkMsg(t, msgBy(m, change), false)
		}
	}
}

func TestLettersNumberByNumber(t *testing.T) {
	for _, m := range oneOfEachKind() {
		for at := range numbersOfMsg(&m) {
			for n := int64(-300); n <= 1100; n++ {
				changed := msgBy(m, func(m *impl.Msg) { *numbersOfMsg(m)[at] = n })
				checkMsg(t, changed, handMsg(changed))
			}
			for _, n := range slices.Concat(extremes, farNumbers) {
				changed := msgBy(m, func(m *impl.Msg) { *numbersOfMsg(m)[at] = n })
				checkMsg(t, changed, handMsg(changed))
			}
			for _, n := range wrongNumbers {
				checkMsg(t, msgBy(m, func(m *impl.Msg) { *numbersOfMsg(m)[at] = n }), false)
			}
		}
	}
}

func TestTextsOfLetters(t *testing.T) {
	for _, m := range oneOfEachKind() {
		for _, name := range slices.Concat(wrongNames(), bookNames) {
			named := msgBy(m, func(m *impl.Msg) { m.Entry.Op.Name = name })
			checkMsg(t, named, handMsg(named))
			other := msgBy(m, func(m *impl.Msg) { m.Entry.Op.Other = name })
			checkMsg(t, other, handMsg(other))
		}
	}
}

func TestPostsWorkedByHand(t *testing.T) {
	a, b, c := ackMsg(1, 1, 4), askMsg(2, 1, askedEntry(0, 1, readOp("a", 0))), passMsg(3, 1, numberedEntry(1, 1, 1, deleteOp("a")))
	list := func(letters ...impl.Msg) []impl.Msg { return letters }
	checkPostedIs(t, nil, nil, nil, true)
	checkPostedIs(t, nil, list(a, b), list(a, b), true)
	checkPostedIs(t, list(a, b), nil, list(a, b), true)
	checkPostedIs(t, list(a, b), list(c, a), list(a, b, c, a), true)
	checkPostedIs(t, list(a, b), list(c, impl.Msg{}), list(a, b), false)
	checkTakenIs(t, list(a, b, c), 0, list(b, c), a, true)
	checkTakenIs(t, list(a, b, c), 1, list(a, c), b, true)
	checkTakenIs(t, list(a, b, c), 2, list(a, b), c, true)
	checkTakenIs(t, list(a, b, c), 3, list(a, b, c), impl.Msg{}, false)
	checkTakenIs(t, list(a, b, a, a), 2, list(a, b, a), a, true)
	checkTakenIs(t, list(a), 0, nil, a, true)
	checkTakenIs(t, nil, 0, nil, impl.Msg{}, false)
	checkTwiceIs(t, list(a, b, c), 1, list(a, b, c, b), true)
	checkTwiceIs(t, list(a, b, c), 2, list(a, b, c, c), true)
	checkTwiceIs(t, list(a, a), 0, list(a, a, a), true)
	checkTwiceIs(t, list(a, b, c), -1, list(a, b, c), false)
	checkTwiceIs(t, nil, 0, nil, false)
}

func TestWhatIsPostedStandsAtTheEnd(t *testing.T) {
	for _, list := range somePosts() {
		for _, more := range somePosts() {
			if is := checkPosted(t, list, more); is != (len(list)+len(more) <= 60) {
				t.Fatalf("%d behind %d is %v", len(more), len(list), is)
			}
		}
	}
}

// One behind the other, or all at once: it comes to the same.
func TestPostedPieceByPiece(t *testing.T) {
	letters := lettersLong(60)
	for _, size := range []int{1, 2, 7, 13, 59, 60} {
		post := []impl.Msg{}
		for piece := range slices.Chunk(letters, size) {
			got, is := impl.Posted(post, piece)
			if !is || !slices.Equal(got[:len(post)], post) || !slices.Equal(got[len(post):], piece) {
				t.Fatalf("Posted(%v, %v) is %v, %v", post, piece, got, is)
			}
			post = got
		}
		if !slices.Equal(post, letters) {
			t.Fatalf("in pieces of %d it comes to %v", size, post)
		}
	}
}

func TestTakenAndTwiceAtEachPlace(t *testing.T) {
	for _, list := range somePosts() {
		for at := int64(-2); at <= int64(len(list))+2; at++ {
			there := at >= 0 && at < int64(len(list))
			if checkTakenAt(t, list, at) != there || checkTwice(t, list, at) != (there && len(list) < 60) {
				t.Fatalf("at %d of %d there is none, or there is one", at, len(list))
			}
		}
	}
}

// Two letters that differ in one thing alone are two, wherever it is.
func TestLettersThatAreNearlyAlike(t *testing.T) {
	tell := tellMsg(3, askedEntry(1, 2, writeOp("ab", 1, 2)), 3, impl.Reply{Value: 4})
	ask, snap := askMsg(1, 3, tell.Entry), askMsg(1, 3, askedEntry(1, 2, snapOp("ab", "cd")))
	pairs := [][2]impl.Msg{
		{tell, msgBy(tell, func(m *impl.Msg) { m.View = 4 })},
		{tell, msgBy(tell, func(m *impl.Msg) { m.Seq = 4 })},
		{tell, msgBy(tell, func(m *impl.Msg) { m.Reply.Value = 5 })},
		{tell, msgBy(tell, func(m *impl.Msg) { m.Reply = impl.Reply{Code: 4} })},
		{tell, msgBy(tell, func(m *impl.Msg) { m.To, m.Entry.Client = 2, 2 })},
		{tell, ask},
		{ask, msgBy(ask, func(m *impl.Msg) { m.To = 2 })},
		{ask, msgBy(ask, func(m *impl.Msg) { m.Entry.Client = 2 })},
		{ask, msgBy(ask, func(m *impl.Msg) { m.Entry.Tag = 3 })},
		{ask, msgBy(ask, func(m *impl.Msg) { m.Entry.Op.Name = "abc" })},
		{ask, msgBy(ask, func(m *impl.Msg) { m.Entry.Op.At = 0 })},
		{ask, msgBy(ask, func(m *impl.Msg) { m.Entry.Op.Value = 3 })},
		{ask, msgBy(ask, func(m *impl.Msg) { m.Entry.Op.Epoch = 1 })},
		{ask, msgBy(ask, func(m *impl.Msg) { m.Kind, m.Entry.Seq = 2, 1 })},
		{snap, msgBy(snap, func(m *impl.Msg) { m.Entry.Op.Kind = impl.OpClone })},
		{snap, msgBy(snap, func(m *impl.Msg) { m.Entry.Op.Other = "ce" })},
	}
	for _, pair := range pairs {
		a, b := pair[0], pair[1]
		for _, list := range [][]impl.Msg{{a, b}, {b, a}, {a, b, a, b}, {b, b, a}, {a, a, b}} {
			checkMsg(t, a, true)
			checkMsg(t, b, true)
			checkPosted(t, list, []impl.Msg{b, a})
			for at := range int64(len(list)) {
				checkTakenAt(t, list, at)
				checkTwice(t, list, at)
			}
		}
	}
}

// countsOf is how often each letter is there.
func countsOf(list []impl.Msg) map[impl.Msg]int {
	counts := map[impl.Msg]int{}
	for _, m := range list {
		counts[m]++
	}
	return counts
}

func checkSameLetters(t *testing.T, taken []impl.Msg, posted []impl.Msg) {
	t.Helper()
	had, got := countsOf(posted), countsOf(taken)
	if len(had) != len(got) {
		t.Fatalf("posted were %v, taken %v", posted, taken)
	}
	for m, count := range had {
		if got[m] != count {
			t.Fatalf("%v was posted %d times, and taken %d times", m, count, got[m])
		}
	}
}

// takenAll takes one by one from where it is told, till nothing is left.
func takenAll(t *testing.T, post []impl.Msg, where func(count int64) int64) []impl.Msg {
	t.Helper()
	taken := []impl.Msg{}
	for len(post) > 0 {
		left, m, is := impl.Taken(post, where(int64(len(post))))
		if !is || !impl.MsgOk(m) || len(left) != len(post)-1 {
			t.Fatalf("Taken of %v is %v, %v, %v", post, left, m, is)
		}
		taken, post = append(taken, m), left
	}
	checkTakenIs(t, post, 0, nil, impl.Msg{}, false)
	return taken
}

func TestWhatIsPostedIsTaken(t *testing.T) {
	next := picked(150)
	for _, list := range somePosts() {
		for cut := range len(list) + 1 {
			post, _ := impl.Posted(nil, list[:cut])
			post, is := impl.Posted(post, list[cut:])
			if !is {
				t.Fatalf("Posted(%v, %v) is false", list[:cut], list[cut:])
			}
			fromFirst := takenAll(t, post, func(int64) int64 { return 0 })
			fromLast := takenAll(t, post, func(count int64) int64 { return count - 1 })
			slices.Reverse(fromLast)
			if !slices.Equal(fromFirst, list) || !slices.Equal(fromLast, list) {
				t.Fatalf("posted were %v, taken %v and %v", list, fromFirst, fromLast)
			}
			checkSameLetters(t, takenAll(t, post, next), list)
		}
	}
}

func TestWhatCameTwiceIsTakenTwice(t *testing.T) {
	for _, list := range somePosts() {
		for at := range list {
			twice, is := impl.Twice(list, int64(at))
			if len(list) == 60 {
				checkTwiceIs(t, list, int64(at), list, false)
				continue
			}
			last, m, took := impl.Taken(twice, int64(len(list)))
			if !is || !took || m != list[at] || !slices.Equal(last, list) {
				t.Fatalf("Twice(%v, %d) is %v; without its last one %v", list, at, twice, last)
			}
			checkSameLetters(t, takenAll(t, twice, func(int64) int64 { return 0 }), append(slices.Clone(list), list[at]))
		}
	}
}

func TestAFullPost(t *testing.T) {
	for _, all := range [][]impl.Msg{lettersLong(130), slices.Repeat(oneOfEachKind(), 22), slices.Repeat(oneOfEachKind()[3:4], 130)} {
		for _, had := range []int{0, 1, 30, 58, 59, 60} {
			list, room := all[:had:had], 60-had
			for _, count := range []int{0, 1, room - 1, room} {
				if count >= 0 && count <= room {
					checkPostedIs(t, list, all[had:had+count], all[:had+count], true)
				}
			}
			for _, count := range []int{room + 1, room + 2, 60 + room, 61} {
				checkPostedIs(t, list, all[had:][:min(count, len(all)-had)], list, false)
			}
		}
		checkTwiceIs(t, all[:59:59], 58, append(all[:59:59], all[58]), true)
		for _, at := range []int64{-1, 0, 1, 58, 59, 60} {
			checkTwiceIs(t, all[:60:60], at, all[:60:60], false)
			checkTakenAt(t, all[:60:60], at)
		}
		for _, count := range []int{61, 62, 63, 64, 65, 120, 130} {
			checkNoPost(t, all[:count:count])
		}
	}
}

func TestEdgesOfPlaces(t *testing.T) {
	far := slices.Concat(wrongNumbers, []int64{-1, 60, 61, 63, 64, 65, 128, 1 << 8, 1 << 32, 1<<32 + 1, 1<<63 - 1})
	for _, list := range somePosts() {
		for _, at := range far {
			if at >= 0 && at < int64(len(list)) {
				continue
			}
			checkTakenIs(t, list, at, list, impl.Msg{}, false)
			checkTwiceIs(t, list, at, list, false)
		}
		last := int64(len(list)) - 1
		for at, there := range map[int64]bool{-1: false, 0: last >= 0, last: last >= 0, last + 1: false} {
			if checkTakenAt(t, list, at) != there || checkTwice(t, list, at) != (there && last < 59) {
				t.Fatalf("at %d of %d it is not %v", at, len(list), there)
			}
		}
	}
}

func TestListsThatAreNoPost(t *testing.T) {
	for _, wrong := range wrongMsgs() {
		checkMsg(t, wrong, false)
		checkNoPost(t, []impl.Msg{wrong})
		checkNoPost(t, append(oneOfEachKind(), wrong))
	}
	for _, count := range []int{1, 2, 6, 59, 60} {
		for at := 0; at < count; at += 1 + count/7 {
			for _, wrong := range wrongMsgs()[at%5 : at%5+2] {
				list := lettersLong(count)
				list[at] = wrong
				checkNoPost(t, list)
			}
		}
	}
	checkNoPost(t, slices.Repeat([]impl.Msg{{}}, 60))
	checkNoPost(t, slices.Repeat(oneOfEachKind(), 500))
}

func TestWrongLettersAmongMore(t *testing.T) {
	for _, wrong := range wrongMsgs() {
		for _, list := range somePosts()[:3] {
			checkPostedIs(t, list, []impl.Msg{wrong}, list, false)
			checkPostedIs(t, list, append(oneOfEachKind(), wrong), list, false)
			checkPostedIs(t, list, append([]impl.Msg{wrong}, oneOfEachKind()...), list, false)
		}
	}
	for _, list := range somePosts() {
		for at := range 6 {
			more := oneOfEachKind()
			more[at].View = 1001
			checkPostedIs(t, list, more, list, false)
		}
		checkPostedIs(t, list, slices.Repeat([]impl.Msg{{}}, 300), list, false)
		checkPostedIs(t, list, slices.Repeat(oneOfEachKind(), 50), list, false)
	}
}

func TestVeryGreatAndVerySmallOnesOfAPost(t *testing.T) {
	list := oneOfEachKind()
	for at := range list {
		for field := range numbersOfMsg(&list[at]) {
			for _, n := range slices.Concat(extremes, wrongNumbers) {
				changed := slices.Clone(list)
				*numbersOfMsg(&changed[at])[field] = n
				checkMsg(t, changed[at], handMsg(changed[at]))
				checkPosted(t, changed, list[:1])
				checkPosted(t, list, changed[:at+1])
				checkTakenAt(t, changed, int64(at))
				checkTwice(t, changed, int64(at))
				checkTakenAt(t, changed, n)
				checkTwice(t, changed, n)
			}
		}
	}
}

func overwritePost(list []impl.Msg) {
	list = list[:cap(list)]
	for i := range list {
		list[i] = impl.Msg{Kind: -901, To: -902, View: -903, Entry: numberedEntry(-904, -905, -906, snapOp("over", "over")), Seq: -907, Reply: impl.Reply{Code: -908, Value: -909}}
	}
}

// answersOfPost are what is answered of this post, and of one more letter: gone on, and as it is.
func answersOfPost(list []impl.Msg, more []impl.Msg) map[string]func() postAnswer {
	posted := func(list []impl.Msg, more []impl.Msg) func() postAnswer {
		return func() postAnswer { got, is := impl.Posted(list, more); return postAnswer{got, impl.Msg{}, is} }
	}
	taken := func(at int64) func() postAnswer {
		return func() postAnswer { got, m, is := impl.Taken(list, at); return postAnswer{got, m, is} }
	}
	twice := func(at int64) func() postAnswer {
		return func() postAnswer { got, is := impl.Twice(list, at); return postAnswer{got, impl.Msg{}, is} }
	}
	return map[string]func() postAnswer{
		"Posted":                                posted(list, more),
		"Posted, in front":                      posted(more, list),
		"Posted, of no Msg":                     posted(list, nil),
		"Posted, but as it is":                  posted(list, append(slices.Clone(more), impl.Msg{})),
		"Posted, of itself":                     posted(list, list),
		"Taken":                                 taken(0),
		"Taken, the last one":                   taken(int64(len(list)) - 1),
		"Taken, but as it is":                   taken(int64(len(list))),
		"Twice":                                 twice(0),
		"Twice, the last one":                   twice(int64(len(list)) - 1),
		"Twice, but as it is, ahead of nothing": twice(-1),
	}
}

// roomyPost has room behind it into which one could write.
func roomyPost(list []impl.Msg) []impl.Msg {
	return slices.Concat(list, otherLetters(), otherLetters())[:len(list)]
}

// Written into the one, looked at the other, and the other way round.
func TestPostsAreNewMemory(t *testing.T) {
	for _, post := range somePosts() {
		for what := range answersOfPost(nil, nil) {
			list, more := roomyPost(post), roomyPost(oneOfEachKind()[:3])
			listKept, moreKept := slices.Clone(list[:cap(list)]), slices.Clone(more[:cap(more)])
			got := answersOfPost(list, more)[what]()
			told := postAnswer{slices.Clone(got.list), got.one, got.is}
			overwritePost(got.list)
			if !slices.Equal(list[:cap(list)], listKept) || !slices.Equal(more[:cap(more)], moreKept) {
				t.Fatalf("%s: written into the answer, what was handed in became %v and %v", what, list, more)
			}
			got = answersOfPost(list, more)[what]()
			overwritePost(list)
			overwritePost(more)
			if !got.same(told) {
				t.Fatalf("%s: written into what was handed in, the answer became %v; it was %v", what, got, told)
			}
		}
	}
}

// Two answers of one call have nothing of each other.
func TestPostsThatGoOnFromOne(t *testing.T) {
	for _, post := range somePosts() {
		list, more := roomyPost(post), roomyPost(oneOfEachKind()[:3])
		for what, ask := range answersOfPost(list, more) {
			first, second := ask(), ask()
			checkSpansApart(t, what, append(spansOfPost(first.list), spansOfMsg(first.one)...), append(spansOfPost(second.list), spansOfMsg(second.one)...))
			overwritePost(first.list)
			if third := ask(); !third.same(second) {
				t.Fatalf("%s: written into an answer, the next one became %v; it was %v", what, third, second)
			}
		}
	}
}

// Texts are memory as well: these lie in the midst of others, and the answer has its own ones.
func TestTextsOfPostsAreNewMemory(t *testing.T) {
	long := strings.Repeat("abcd", 3)
	snap := snapOp(long[:4], long[1:3])
	list := []impl.Msg{
		askMsg(1, 1, askedEntry(2, 5, snap)),
		passMsg(1, 1, numberedEntry(1, 2, 5, snap)),
		tellMsg(1, askedEntry(2, 5, snap), 1, impl.Reply{}),
		askMsg(1, 1, askedEntry(2, 5, readOp(long[2:3], 0))),
		askMsg(1, 1, askedEntry(2, 5, snapOp(long[4:8], long[5:7]))),
	}
	checkPosted(t, list, list)
	checkPosted(t, list, append(slices.Clone(list), impl.Msg{}))
	checkPosted(t, list, nil)
	for at := int64(-1); at <= int64(len(list)); at++ {
		checkTakenAt(t, list, at)
		checkTwice(t, list, at)
	}
}

// What is posted may stand right behind the list, in it, or be the list itself.
func TestPostsOverOneMemory(t *testing.T) {
	memory := lettersLong(40)
	kept := slices.Clone(memory)
	for _, c := range [][4]int{{0, 10, 10, 20}, {10, 20, 0, 10}, {0, 20, 0, 20}, {0, 20, 5, 15}, {5, 25, 0, 40}, {0, 30, 10, 40}} {
		list, more := memory[c[0]:c[1]], memory[c[2]:c[3]]
		got, is := impl.Posted(list, more)
		if !is || !slices.Equal(got, slices.Concat(list, more)) || !slices.Equal(memory, kept) {
			t.Fatalf("Posted(%v, %v) is %v, %v", list, more, got, is)
		}
		checkSpansApart(t, "Posted", spansOfPost(got), spansOfPost(memory))
	}
}

// spoilPost changes one number or one text, or how many there are.
func spoilPost(next func(int64) int64, list []impl.Msg, numbers []int64) []impl.Msg {
	list = slices.Clone(list)
	if len(list) == 0 {
		return append(list, impl.Msg{})
	}
	at := next(int64(len(list)))
	switch next(5) {
	case 0, 1:
		*pickOf(next, numbersOfMsg(&list[at])) = pickOf(next, numbers)
	case 2:
		list[at].Entry.Op.Name = pickOf(next, slices.Concat(wrongNames(), bookNames))
	case 3:
		list[at] = pickOf(next, wrongMsgs())
	case 4:
		list = slices.Repeat(list, 60)[:next(70)]
	}
	return list
}

// likelyLetters are right ones, some of them alike.
func likelyLetters(next func(int64) int64, letters []impl.Msg, count int64) []impl.Msg {
	list := []impl.Msg{}
	for range count {
		list = append(list, pickOf(next, letters))
	}
	return list
}

// Posts without any order, but the same in each run, mostly near to right ones.
func TestPostsAnswerAtEveryArgument(t *testing.T) {
	next, letters := picked(1500), lettersLong(50)
	numbers := slices.Concat(extremes, farNumbers, wrongNumbers, []int64{0, 1, 2, 3, 4, 119, 120, 121, 999, 1000, 1001})
	posts, done := 0, 0
	for range 600 {
		list := likelyLetters(next, letters[:1+next(50)], next(61))
		more := likelyLetters(next, letters, next(1+next(70)))
		if next(3) == 0 {
			list = spoilPost(next, list, numbers)
		}
		if next(3) == 0 {
			more = spoilPost(next, more, numbers)
		}
		at := next(int64(len(list))+3) - 1
		if next(6) == 0 {
			at = pickOf(next, numbers)
		}
		is, took, two := checkPosted(t, list, more), checkTakenAt(t, list, at), checkTwice(t, list, at)
		for _, m := range slices.Concat(list, more) {
			checkMsg(t, m, handMsg(m))
		}
		posts, done = posts+int(asNumber(handPost(list))), done+int(asNumber(is)+asNumber(took)+asNumber(two))
	}
	if posts < 350 || posts > 550 || done < 500 || done > 1500 {
		t.Fatalf("of 600 lists %d were posts, and %d calls were true", posts, done)
	}
}

// Long rows of letters that come, come twice and go, without any order, but the same in each run: the post stays right, and none is lost.
func TestPostsStayRightWhateverComesAndGoes(t *testing.T) {
	letters, wrong := lettersLong(30), wrongMsgs()
	for seed := range uint32(8) {
		next := picked(1510 + seed)
		post, came, went, done := []impl.Msg{}, []impl.Msg{}, []impl.Msg{}, 0
		for range 1500 {
			is, m, at := false, impl.Msg{}, next(62)-1
			switch next(6) {
			case 0, 1:
				more := likelyLetters(next, letters, next(4))
				if next(4) == 0 {
					more = append(more, pickOf(next, wrong))
				}
				before := len(post)
				post, is = impl.Posted(post, more)
				came = append(came, post[before:]...)
			case 2:
				before := len(post)
				post, is = impl.Twice(post, at)
				came = append(came, post[before:]...)
			default:
				if post, m, is = impl.Taken(post, at); is {
					went = append(went, m)
				}
			}
			done += int(asNumber(is))
			if !handPost(post) || len(post) != len(came)-len(went) {
				t.Fatalf("after %d that were done it is %v", done, post)
			}
		}
		if done < 400 {
			t.Fatalf("only %d were done", done)
		}
		checkSameLetters(t, slices.Concat(went, takenAll(t, post, next)), came)
	}
}
