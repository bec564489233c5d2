package tests

import (
	"slices"
	"testing"

	"loop.example/g00372/impl"
)

// line is what one Client was told last.
type line struct {
	tag   int64
	reply impl.Reply
}

// handMemo has no line of a Client who was told nothing.
type handMemo map[int64]line

func (h handMemo) memo() impl.Memo {
	m := impl.Memo{}
	for client := int64(0); client < 4; client++ {
		m.Tags, m.Replies = append(m.Tags, h[client].tag), append(m.Replies, h[client].reply)
	}
	return m
}

func (h handMemo) known(client int64, tag int64) int64 {
	if client < 0 || client > 3 || tag < 1 || tag > 1000 {
		return -1
	}
	told, there := h[client]
	if !there || told.tag < tag {
		return 0
	}
	if told.tag > tag {
		return 2
	}
	return 1
}

func (h handMemo) noted(client int64, tag int64, r impl.Reply) (handMemo, bool) {
	next := handMemo{}
	for who, told := range h {
		next[who] = told
	}
	if h.known(client, tag) != 0 || !handReply(r) {
		return next, false
	}
	next[client] = line{tag, r}
	return next, true
}

// linesOf tells as well whether the Memo is right: of each Client either nothing at all, or a Tag from 1 to 1000 and a right Reply.
func linesOf(m impl.Memo) (handMemo, bool) {
	h := handMemo{}
	if len(m.Tags) != 4 || len(m.Replies) != 4 {
		return h, false
	}
	for client := range int64(4) {
		told := line{m.Tags[client], m.Replies[client]}
		if told == (line{}) {
			continue
		}
		if told.tag < 1 || told.tag > 1000 || !handReply(told.reply) {
			return handMemo{}, false
		}
		h[client] = told
	}
	return h, true
}

func sameMemo(a impl.Memo, b impl.Memo) bool {
	return slices.Equal(a.Tags, b.Tags) && slices.Equal(a.Replies, b.Replies)
}

func cloneMemo(m impl.Memo) impl.Memo {
	return impl.Memo{Tags: slices.Clone(m.Tags), Replies: slices.Clone(m.Replies)}
}

func memoOf(tags []int64, replies ...impl.Reply) impl.Memo {
	return impl.Memo{Tags: tags, Replies: replies}
}

func withLine(m impl.Memo, client int, tag int64, r impl.Reply) impl.Memo {
	m = cloneMemo(m)
	m.Tags[client], m.Replies[client] = tag, r
	return m
}

// laidMemo is a Memo and all memory that it lies in.
type laidMemo struct {
	memo   impl.Memo
	memory impl.Memo
}

// layMemo lays in the room around the lists what would go on from them, and what is wrong.
func layMemo(m impl.Memo) []laidMemo {
	tags := layList(m.Tags, 1000, 0, -501)
	replies := layList(m.Replies, impl.Reply{Value: 7}, impl.Reply{}, impl.Reply{Code: -502, Value: -503})
	laid := []laidMemo{}
	for i := range max(len(tags), len(replies)) {
		tag, reply := tags[i%len(tags)], replies[i%len(replies)]
		laid = append(laid, laidMemo{impl.Memo{Tags: tag.list, Replies: reply.list}, impl.Memo{Tags: tag.memory, Replies: reply.memory}})
	}
	return laid
}

func overwrite(m impl.Memo) {
	fill(m.Tags[:cap(m.Tags)], -701)
	replies := m.Replies[:cap(m.Replies)]
	for i := range replies {
		replies[i] = impl.Reply{Code: -702, Value: -703}
	}
}

// checkMemoApart writes over all of the one, looks at the other, and the other way round.
func checkMemoApart(t *testing.T, answer impl.Memo, memory impl.Memo) {
	t.Helper()
	if spanOf(answer.Tags).meets(spanOf(answer.Replies)) {
		t.Fatal("two lists of one answer share memory")
	}
	told, kept := cloneMemo(answer), cloneMemo(memory)
	overwrite(answer)
	if !sameMemo(memory, kept) {
		t.Fatalf("written into the answer, what was handed in became %v; it was %v", memory, kept)
	}
	copy(answer.Tags, told.Tags)
	copy(answer.Replies, told.Replies)
	overwrite(memory)
	if !sameMemo(answer, told) {
		t.Fatalf("written into what was handed in, the answer became %v; it was %v", answer, told)
	}
	copy(memory.Tags, kept.Tags)
	copy(memory.Replies, kept.Replies)
}

// askedOfMemo asks with one Memo laid out in several ways: the answer must be as wanted each time, and what was handed in must stay.
func askedOfMemo[T comparable](t *testing.T, what string, m impl.Memo, want T, call func(impl.Memo) T) {
	t.Helper()
	for _, given := range layMemo(m) {
		kept := cloneMemo(given.memory)
		if got := call(given.memo); got != want {
			t.Fatalf("%s of %v is %v; wanted %v", what, m, got, want)
		}
		if !sameMemo(given.memory, kept) {
			t.Fatalf("%s of %v: the memory handed in became %v; it was %v", what, m, given.memory, kept)
		}
	}
}

func checkMemoOk(t *testing.T, m impl.Memo, right bool) {
	t.Helper()
	if _, is := linesOf(m); is != right {
		t.Fatalf("the test itself takes %v for %v", m, is)
	}
	askedOfMemo(t, "MemoOk", m, right, impl.MemoOk)
}

func checkKnown(t *testing.T, m impl.Memo, client int64, tag int64, want int64) {
	t.Helper()
	askedOfMemo(t, "Known", m, want, func(given impl.Memo) int64 { return impl.Known(given, client, tag) })
}

func checkNoted(t *testing.T, m impl.Memo, client int64, tag int64, r impl.Reply, want impl.Memo, is bool) {
	t.Helper()
	want = cloneMemo(want)
	for _, given := range layMemo(m) {
		kept := cloneMemo(given.memory)
		got, told := impl.Noted(given.memo, client, tag, r)
		if !sameMemo(given.memory, kept) {
			t.Fatalf("Noted(%v, %d, %d, %v): the memory handed in became %v; it was %v", m, client, tag, r, given.memory, kept)
		}
		if !sameMemo(got, want) || told != is {
			t.Fatalf("Noted(%v, %d, %d, %v) is %v, %v; wanted %v, %v", m, client, tag, r, got, told, want, is)
		}
		checkMemoApart(t, got, given.memory)
	}
}

// checkAsked holds what is asked of any Memo, right or not, against what was worked out by hand.
func checkAsked(t *testing.T, m impl.Memo, client int64, tag int64, r impl.Reply) {
	t.Helper()
	h, right := linesOf(m)
	if !right {
		checkKnown(t, m, client, tag, -1)
		checkNoted(t, m, client, tag, r, impl.Memo{}, false)
		return
	}
	next, is := h.noted(client, tag, r)
	checkKnown(t, m, client, tag, h.known(client, tag))
	checkNoted(t, m, client, tag, r, next.memo(), is)
}

// checkAllKnown asks for every Tag of every Client, and for those beside them.
func checkAllKnown(t *testing.T, m impl.Memo, h handMemo) {
	t.Helper()
	for client := int64(-1); client <= 4; client++ {
		for tag := int64(-1); tag <= 1002; tag++ {
			if got := impl.Known(m, client, tag); got != h.known(client, tag) {
				t.Fatalf("Known(%v, %d, %d) is %d; wanted %d", m, client, tag, got, h.known(client, tag))
			}
		}
	}
}

// checkMemo holds all of a right Memo against what was worked out by hand.
func checkMemo(t *testing.T, m impl.Memo, h handMemo) {
	t.Helper()
	if !sameMemo(m, h.memo()) {
		t.Fatalf("it is %v; wanted %v", m, h.memo())
	}
	checkMemoOk(t, m, true)
	checkAllKnown(t, m, h)
}

// note notes in both, and goes on from what Noted answered.
func note(t *testing.T, m impl.Memo, h handMemo, client int64, tag int64, r impl.Reply) (impl.Memo, handMemo) {
	t.Helper()
	next, is := h.noted(client, tag, r)
	checkNoted(t, m, client, tag, r, next.memo(), is)
	got, _ := impl.Noted(m, client, tag, r)
	return got, next
}

// someReplies are right ones, of every Code.
func someReplies() []impl.Reply {
	list := []impl.Reply{{}, {Value: 1}, {Value: 255}, {Value: 256}, {Value: 999}, {Value: 1000}}
	for code := int64(1); code <= 9; code++ {
		list = append(list, impl.Reply{Code: code})
	}
	return list
}

func someWrongReplies() []impl.Reply {
	list := []impl.Reply{{Code: 10}, {Code: 256}, {Code: 10, Value: 1}, {Value: 1001}, {Value: 1002}, {Value: 1256}}
	for code := int64(1); code <= 9; code++ {
		list = append(list, impl.Reply{Code: code, Value: 1}, impl.Reply{Code: code, Value: 1000}, impl.Reply{Code: code, Value: -1})
	}
	for _, n := range wrongNumbers {
		list = append(list, impl.Reply{Code: n}, impl.Reply{Value: n}, impl.Reply{Code: n, Value: n}, impl.Reply{Code: n, Value: 1}, impl.Reply{Code: 3, Value: n})
	}
	return list
}

// someMemos are right ones.
func someMemos() []handMemo {
	list := []handMemo{{}}
	for client := int64(0); client <= 3; client++ {
		for _, tag := range []int64{1, 2, 500, 999, 1000} {
			list = append(list, handMemo{client: {tag, impl.Reply{}}}, handMemo{client: {tag, impl.Reply{Value: 1000}}, (client + 1) % 4: {1001 - tag, impl.Reply{Code: 9}}})
		}
	}
	return append(list,
		handMemo{0: {1, impl.Reply{}}, 1: {1, impl.Reply{}}, 2: {1, impl.Reply{}}, 3: {1, impl.Reply{}}},
		handMemo{0: {1000, impl.Reply{Value: 1}}, 1: {1000, impl.Reply{Code: 1}}, 2: {1000, impl.Reply{Code: 9}}, 3: {1000, impl.Reply{Value: 1000}}},
		handMemo{0: {4, impl.Reply{Value: 3}}, 1: {3, impl.Reply{Value: 4}}, 2: {2, impl.Reply{Code: 2}}, 3: {1, impl.Reply{Code: 1}}},
		handMemo{0: {999, impl.Reply{}}, 2: {1, impl.Reply{Code: 7}}})
}

// wrongMemos are right but for one thing.
func wrongMemos() []impl.Memo {
	base := handMemo{0: {5, impl.Reply{Value: 3}}, 1: {1000, impl.Reply{}}, 2: {1, impl.Reply{Code: 4}}, 3: {7, impl.Reply{Value: 1000}}}.memo()
	list := []impl.Memo{}
	for client := range 4 {
		for _, tag := range slices.Concat(wrongNumbers, []int64{1001, 1002, 1256, 2000}) {
			list = append(list,
				withLine(impl.NewMemo(), client, tag, impl.Reply{}),
				withLine(base, client, tag, impl.Reply{}),
				withLine(base, client, tag, impl.Reply{Code: 2}))
		}
		for _, r := range someWrongReplies() {
			list = append(list,
				withLine(impl.NewMemo(), client, 0, r),
				withLine(base, client, 0, r),
				withLine(base, client, 5, r))
		}
		for _, r := range someReplies()[1:] {
			list = append(list, withLine(impl.NewMemo(), client, 0, r), withLine(base, client, 0, r))
		}
	}
	return list
}

func TestCodesOfKnown(t *testing.T) {
	if impl.KnNew != 0 || impl.KnLast != 1 || impl.KnOld != 2 {
		t.Fatal(impl.KnNew, impl.KnLast, impl.KnOld)
	}
}

func TestNewMemo(t *testing.T) {
	first := impl.NewMemo()
	checkMemo(t, first, handMemo{})
	if len(first.Tags) != 4 || len(first.Replies) != 4 {
		t.Fatal(first)
	}
	for client := int64(0); client <= 3; client++ {
		for tag := int64(1); tag <= 1000; tag++ {
			if got := impl.Known(first, client, tag); got != impl.KnNew {
				t.Fatalf("Known(NewMemo(), %d, %d) is %d", client, tag, got)
			}
		}
	}
	// What is written into one is not in the next one, nor in one that is there already.
	second := impl.NewMemo()
	checkMemoApart(t, first, second)
	overwrite(first)
	checkMemo(t, second, handMemo{})
	checkMemo(t, impl.NewMemo(), handMemo{})
}

func TestMemosWorkedByHand(t *testing.T) {
	m := impl.NewMemo()
	for _, c := range []struct {
		client, tag int64
		r           impl.Reply
		is          bool
		want        impl.Memo
	}{
		{1, 5, impl.Reply{Value: 3}, true, memoOf([]int64{0, 5, 0, 0}, impl.Reply{}, impl.Reply{Value: 3}, impl.Reply{}, impl.Reply{})},
		{1, 5, impl.Reply{Code: 2}, false, memoOf([]int64{0, 5, 0, 0}, impl.Reply{}, impl.Reply{Value: 3}, impl.Reply{}, impl.Reply{})},
		{1, 4, impl.Reply{Code: 2}, false, memoOf([]int64{0, 5, 0, 0}, impl.Reply{}, impl.Reply{Value: 3}, impl.Reply{}, impl.Reply{})},
		{1, 6, impl.Reply{Code: 2, Value: 1}, false, memoOf([]int64{0, 5, 0, 0}, impl.Reply{}, impl.Reply{Value: 3}, impl.Reply{}, impl.Reply{})},
		{1, 6, impl.Reply{Code: 2}, true, memoOf([]int64{0, 6, 0, 0}, impl.Reply{}, impl.Reply{Code: 2}, impl.Reply{}, impl.Reply{})},
		{0, 1, impl.Reply{}, true, memoOf([]int64{1, 6, 0, 0}, impl.Reply{}, impl.Reply{Code: 2}, impl.Reply{}, impl.Reply{})},
		{3, 1000, impl.Reply{Value: 1000}, true, memoOf([]int64{1, 6, 0, 1000}, impl.Reply{}, impl.Reply{Code: 2}, impl.Reply{}, impl.Reply{Value: 1000})},
		{3, 1001, impl.Reply{}, false, memoOf([]int64{1, 6, 0, 1000}, impl.Reply{}, impl.Reply{Code: 2}, impl.Reply{}, impl.Reply{Value: 1000})},
		{4, 1, impl.Reply{}, false, memoOf([]int64{1, 6, 0, 1000}, impl.Reply{}, impl.Reply{Code: 2}, impl.Reply{}, impl.Reply{Value: 1000})},
		{0, 3, impl.Reply{Code: 9}, true, memoOf([]int64{3, 6, 0, 1000}, impl.Reply{Code: 9}, impl.Reply{Code: 2}, impl.Reply{}, impl.Reply{Value: 1000})},
		{1, 700, impl.Reply{}, true, memoOf([]int64{3, 700, 0, 1000}, impl.Reply{Code: 9}, impl.Reply{}, impl.Reply{}, impl.Reply{Value: 1000})},
	} {
		checkNoted(t, m, c.client, c.tag, c.r, c.want, c.is)
		m, _ = impl.Noted(m, c.client, c.tag, c.r)
		checkMemoOk(t, m, true)
	}
	for _, c := range []struct{ client, tag, want int64 }{
		{0, 1, impl.KnOld}, {0, 2, impl.KnOld}, {0, 3, impl.KnLast}, {0, 4, impl.KnNew}, {0, 1000, impl.KnNew}, {0, 1001, -1}, {0, 0, -1},
		{1, 699, impl.KnOld}, {1, 700, impl.KnLast}, {1, 701, impl.KnNew},
		{2, 0, -1}, {2, 1, impl.KnNew}, {2, 1000, impl.KnNew},
		{3, 999, impl.KnOld}, {3, 1000, impl.KnLast}, {3, 1001, -1},
		{-1, 1, -1}, {4, 1, -1},
	} {
		checkKnown(t, m, c.client, c.tag, c.want)
	}
}

func TestSomeMemosAreRight(t *testing.T) {
	for _, h := range someMemos() {
		checkMemo(t, h.memo(), h)
	}
}

// Tags of one Client, by one and by more at a time, with Replies of every Code.
func TestTagsOfOneClientGoOn(t *testing.T) {
	replies := someReplies()
	for client := int64(0); client <= 3; client++ {
		for _, by := range []int64{1, 2, 7, 99, 333, 999} {
			m, h := impl.NewMemo(), handMemo{}
			for i := int64(0); i < 17 && 1+i*by <= 1000; i++ {
				m, h = note(t, m, h, client, 1+i*by, replies[i%int64(len(replies))])
				checkMemo(t, m, h)
			}
		}
	}
}

// Up to the last Tag, none left out.
func TestAllTagsOneBehindTheOther(t *testing.T) {
	replies := someReplies()
	for client := int64(0); client <= 3; client++ {
		m, h := impl.NewMemo(), handMemo{}
		for tag := int64(1); tag <= 1000; tag++ {
			if got := impl.Known(m, client, tag); got != impl.KnNew {
				t.Fatalf("Known(%v, %d, %d) is %d", m, client, tag, got)
			}
			m, h = note(t, m, h, client, tag, replies[tag%int64(len(replies))])
			if got := impl.Known(m, client, tag); got != impl.KnLast {
				t.Fatalf("Known(%v, %d, %d) is %d", m, client, tag, got)
			}
		}
		checkMemo(t, m, h)
	}
}

func TestAllClientsInTurn(t *testing.T) {
	replies := someReplies()
	for _, order := range [][]int64{{0, 1, 2, 3}, {3, 2, 1, 0}, {2, 0, 3, 1}, {0, 0, 1, 2, 2, 2, 3}} {
		m, h := impl.NewMemo(), handMemo{}
		for i := range 40 {
			client := order[i%len(order)]
			m, h = note(t, m, h, client, h[client].tag+1+int64(i%3)*client, replies[i*7%len(replies)])
			checkMemo(t, m, h)
		}
		if len(h) != 4 {
			t.Fatalf("only %d Clients were told anything", len(h))
		}
	}
}

func TestNotedAgainItStaysAsItIs(t *testing.T) {
	for _, h := range someMemos() {
		m := h.memo()
		for client, told := range h {
			for _, r := range someReplies() {
				for _, tag := range []int64{told.tag, told.tag - 1, told.tag / 2, 1} {
					checkNoted(t, m, client, tag, r, m, false)
				}
			}
		}
	}
}

// Every last Tag against every Tag that is Noted behind it.
func TestEveryTagBehindEveryTag(t *testing.T) {
	r := impl.Reply{Code: 5}
	for last := range int64(1001) {
		client := last % 4
		h := handMemo{(client + 1) % 4: {500, impl.Reply{Value: 8}}}
		if last > 0 {
			h[client] = line{last, impl.Reply{Value: last}}
		}
		m := h.memo()
		for tag := range int64(1002) {
			want, is, known := m, false, h.known(client, tag)
			if known == impl.KnNew {
				want, is = withLine(m, int(client), tag, r), true
			}
			if got := impl.Known(m, client, tag); got != known {
				t.Fatalf("Known(%v, %d, %d) is %d; wanted %d", m, client, tag, got, known)
			}
			got, told := impl.Noted(m, client, tag, r)
			if told != is || !sameMemo(got, want) {
				t.Fatalf("Noted(%v, %d, %d, %v) is %v, %v; wanted %v, %v", m, client, tag, r, got, told, want, is)
			}
		}
	}
}

func TestEveryReplyIsNoted(t *testing.T) {
	for i, r := range rightReplies() {
		client := int64(i % 4)
		m, h := note(t, impl.NewMemo(), handMemo{}, client, 1, r)
		checkMemoOk(t, m, true)
		m, h = note(t, m, h, client, 2, impl.Reply{Code: 9})
		m, h = note(t, m, h, client, 3, r)
		m, h = note(t, m, h, (client+1)%4, 3, r)
		checkMemoOk(t, m, true)
		if !sameMemo(m, h.memo()) || m.Replies[client] != r || m.Replies[(client+1)%4] != r {
			t.Fatalf("it is %v; wanted %v", m, h.memo())
		}
	}
}

func TestEdgesOfClientsAndTags(t *testing.T) {
	for _, h := range someMemos() {
		for client := int64(-2); client <= 5; client++ {
			for _, tag := range []int64{-1000, -1, 0, 1, 2, 3, 499, 500, 501, 998, 999, 1000, 1001, 1002} {
				checkAsked(t, h.memo(), client, tag, impl.Reply{Value: 6})
				checkAsked(t, h.memo(), client, tag, impl.Reply{})
			}
		}
	}
	m := impl.NewMemo()
	for _, c := range []struct {
		client, tag int64
		known       int64
	}{
		{-1, 1, -1}, {0, 1, 0}, {3, 1, 0}, {4, 1, -1},
		{-1, 1000, -1}, {0, 1000, 0}, {3, 1000, 0}, {4, 1000, -1},
		{0, 0, -1}, {3, 0, -1}, {0, 1001, -1}, {3, 1001, -1}, {-1, 0, -1}, {4, 1001, -1},
	} {
		checkKnown(t, m, c.client, c.tag, c.known)
		if _, is := impl.Noted(m, c.client, c.tag, impl.Reply{}); is != (c.known == 0) {
			t.Fatalf("Noted(%v, %d, %d, ..) is %v", m, c.client, c.tag, is)
		}
	}
}

func TestTagZeroHasTheZeroReplyAlone(t *testing.T) {
	full := handMemo{0: {5, impl.Reply{Value: 3}}, 1: {1000, impl.Reply{}}, 2: {1, impl.Reply{Code: 4}}, 3: {7, impl.Reply{Value: 1000}}}.memo()
	for client := range 4 {
		for _, base := range []impl.Memo{impl.NewMemo(), full} {
			checkMemoOk(t, withLine(base, client, 0, impl.Reply{}), true)
			checkKnown(t, withLine(base, client, 0, impl.Reply{}), int64(client), 1, impl.KnNew)
			for _, r := range rightReplies()[1:] {
				wrong := withLine(base, client, 0, r)
				if impl.MemoOk(wrong) || impl.Known(wrong, int64(client), 1) != -1 {
					t.Fatalf("%v is taken for right", wrong)
				}
				if right := withLine(base, client, 1, r); !impl.MemoOk(right) || impl.Known(right, int64(client), 1) != 1 {
					t.Fatalf("%v is taken for wrong", right)
				}
			}
		}
	}
}

func TestNothingIsNewBehindTheLastTag(t *testing.T) {
	for client := int64(0); client <= 3; client++ {
		m, h := note(t, impl.NewMemo(), handMemo{}, client, 1000, impl.Reply{Value: 2})
		checkMemo(t, m, h)
		for tag := int64(-5); tag <= 1100; tag++ {
			if impl.Known(m, client, tag) == impl.KnNew {
				t.Fatalf("Known(%v, %d, %d) is KnNew", m, client, tag)
			}
			if got, is := impl.Noted(m, client, tag, impl.Reply{}); is || !sameMemo(got, m) {
				t.Fatalf("Noted(%v, %d, %d, ..) is %v, %v", m, client, tag, got, is)
			}
		}
		// The others go on as ever.
		for other := int64(0); other <= 3; other++ {
			checkAsked(t, m, other, 1000, impl.Reply{Code: 1})
		}
	}
}

func TestEveryTagOfAMemo(t *testing.T) {
	for client := range 4 {
		for tag := int64(-1100); tag <= 2100; tag++ {
			m := withLine(impl.NewMemo(), client, tag, impl.Reply{})
			checkMemoOk(t, m, tag >= 0 && tag <= 1000)
		}
	}
}

func TestLengthsOfMemos(t *testing.T) {
	lengths := []int{0, 1, 2, 3, 4, 5, 6, 7, 8, 255, 256, 260, 5000}
	for _, tags := range lengths {
		for _, replies := range lengths {
			for tag := range int64(2) {
				m := impl.Memo{Tags: slices.Repeat([]int64{tag}, tags), Replies: slices.Repeat([]impl.Reply{{Value: 3 * tag}}, replies)}
				checkMemoOk(t, m, tags == 4 && replies == 4)
				for client := int64(-1); client <= 5; client++ {
					checkAsked(t, m, client, 2, impl.Reply{Value: 5})
				}
			}
		}
	}
	for _, m := range []impl.Memo{{}, {Tags: []int64{}}, {Replies: []impl.Reply{}}, {Tags: []int64{}, Replies: []impl.Reply{}}, {Tags: make([]int64, 4)}, {Replies: make([]impl.Reply, 4)}} {
		checkMemoOk(t, m, false)
		checkAsked(t, m, 0, 1, impl.Reply{})
	}
}

func TestWrongMemos(t *testing.T) {
	for _, m := range wrongMemos() {
		checkMemoOk(t, m, false)
		for client := int64(-1); client <= 4; client++ {
			for _, tag := range []int64{0, 1, 5, 8, 1000, 1001} {
				checkKnown(t, m, client, tag, -1)
			}
			checkNoted(t, m, client, 8, impl.Reply{Value: 1}, impl.Memo{}, false)
		}
		checkNoted(t, m, 0, 1, impl.Reply{Code: -1}, impl.Memo{}, false)
		checkNoted(t, m, 2, 0, impl.Reply{}, impl.Memo{}, false)
		checkNoted(t, m, 3, 1001, impl.Reply{}, impl.Memo{}, false)
	}
}

func TestWrongRepliesAreNotNoted(t *testing.T) {
	for _, r := range someWrongReplies() {
		for _, h := range []handMemo{{}, {0: {4, impl.Reply{Value: 3}}, 2: {1000, impl.Reply{Code: 2}}, 3: {1, impl.Reply{}}}} {
			m := h.memo()
			for client := int64(-1); client <= 4; client++ {
				for _, tag := range []int64{0, 1, 4, 5, 1000, 1001} {
					checkNoted(t, m, client, tag, r, m, false)
				}
			}
		}
	}
}

func TestVeryGreatAndVerySmallOnesOfAMemo(t *testing.T) {
	far := slices.Concat(wrongNumbers, []int64{1 << 8, 1 << 32, 1<<32 + 1, -1 << 32, 1<<63 - 1000})
	for _, h := range []handMemo{{}, {0: {1, impl.Reply{}}, 1: {5, impl.Reply{Value: 9}}, 3: {1000, impl.Reply{Code: 6}}}} {
		m := h.memo()
		for _, n := range far {
			for near := int64(-1); near <= 6; near++ {
				checkKnown(t, m, n, near, -1)
				checkNoted(t, m, n, near, impl.Reply{}, m, false)
			}
			for client := int64(-1); client <= 4; client++ {
				checkAsked(t, m, client, n, impl.Reply{})
			}
			for _, other := range far {
				if got := impl.Known(m, n, other); got != h.known(n, other) {
					t.Fatalf("Known(%v, %d, %d) is %d", m, n, other, got)
				}
				checkNoted(t, m, n, other, impl.Reply{Code: other, Value: n}, m, false)
			}
		}
	}
}

// Two that go on from one Memo have nothing of each other, and the one stays.
func TestMemosThatGoOnFromOne(t *testing.T) {
	for _, h := range someMemos() {
		m := h.memo()
		for client := int64(0); client <= 3; client++ {
			for _, tag := range []int64{1, 2, 501, 1000} {
				first, _ := impl.Noted(m, client, tag, impl.Reply{Value: 11})
				second, _ := impl.Noted(m, client, tag, impl.Reply{Value: 12})
				checkMemoApart(t, first, second)
				checkMemoApart(t, first, m)
				overwrite(first)
				want, is := h.noted(client, tag, impl.Reply{Value: 12})
				if !sameMemo(second, want.memo()) {
					t.Fatalf("it is %v; wanted %v", second, want.memo())
				}
				checkNoted(t, m, client, tag, impl.Reply{Value: 12}, want.memo(), is)
				checkMemoOk(t, m, true)
			}
		}
	}
}

// checkForward asks that no Tag went back, and that a Reply changed with its Tag alone.
func checkForward(t *testing.T, before impl.Memo, after impl.Memo) {
	t.Helper()
	for client := range 4 {
		if after.Tags[client] < before.Tags[client] {
			t.Fatalf("the Tag of Client %d went back: %v, %v", client, before, after)
		}
		if after.Tags[client] == before.Tags[client] && after.Replies[client] != before.Replies[client] {
			t.Fatalf("Client %d was told otherwise: %v, %v", client, before, after)
		}
	}
}

// Long rows without any order, but the same in each run: what was Noted is Known from then on.
func TestWhatWasNotedIsKnown(t *testing.T) {
	replies, wrong := someReplies(), someWrongReplies()
	for seed := range uint32(12) {
		next, m, h := picked(12+seed), impl.NewMemo(), handMemo{}
		taken, noted := 0, []who{}
		for range 300 {
			client, r := next(6)-1, pickOf(next, replies)
			tag := h[client].tag + next(9) - 3
			if next(10) == 0 {
				tag, r = next(1003)-1, pickOf(next, wrong)
			}
			before := m
			m, h = note(t, m, h, client, tag, r)
			checkForward(t, before, m)
			if impl.Known(before, client, tag) == impl.KnNew && handReply(r) {
				noted = append(noted, who{client, tag})
				taken++
			}
			for _, w := range noted {
				known := impl.Known(m, w.client, w.tag)
				if last := m.Tags[w.client] == w.tag; known != impl.KnLast && (last || known != impl.KnOld) {
					t.Fatalf("%v was Noted; Known of %v is %d", w, m, known)
				}
			}
		}
		checkMemo(t, m, h)
		if taken < 50 || taken > 250 {
			t.Fatalf("%d of 300 were taken", taken)
		}
	}
}

// spoilMemo changes one number, or how many there are.
func spoilMemo(next func(int64) int64, m impl.Memo, numbers []int64) impl.Memo {
	m = cloneMemo(m)
	switch at := next(4); next(6) {
	case 0:
		m.Tags[at] = pickOf(next, numbers)
	case 1:
		m.Replies[at].Code = pickOf(next, numbers)
	case 2:
		m.Replies[at].Value = pickOf(next, numbers)
	case 3:
		m.Tags[at] = 0
	case 4:
		m.Tags = append(m.Tags, m.Tags...)[:next(8)]
	case 5:
		m.Replies = append(m.Replies, m.Replies...)[:next(8)]
	}
	return m
}

func likelyMemo(next func(int64) int64, replies []impl.Reply) impl.Memo {
	h := handMemo{}
	for client := range int64(4) {
		if next(4) > 0 {
			h[client] = line{1 + next(1000), pickOf(next, replies)}
		}
	}
	return h.memo()
}

// Memos without any order, but the same in each run, mostly near to right ones.
func TestMemoAnswersAtEveryArgument(t *testing.T) {
	next, replies, wrong := picked(120), someReplies(), someWrongReplies()
	numbers := slices.Concat(extremes, farNumbers, wrongNumbers, []int64{0, 0, 1, 4, 9, 10, 999, 1000, 1001})
	rights, taken := 0, 0
	for range 8000 {
		m := likelyMemo(next, replies)
		if next(2) == 0 {
			m = spoilMemo(next, m, numbers)
		}
		h, right := linesOf(m)
		checkMemoOk(t, m, right)
		client, tag, r := next(4), 1+next(1000), pickOf(next, replies)
		switch next(6) {
		case 0:
			client = pickOf(next, numbers)
		case 1:
			tag = pickOf(next, numbers)
		case 2:
			r = pickOf(next, wrong)
		case 3:
			tag = h[client].tag + next(3) - 1
		}
		checkAsked(t, m, client, tag, r)
		_, is := impl.Noted(m, client, tag, r)
		rights, taken = rights+int(asNumber(right)), taken+int(asNumber(is))
	}
	if rights < 4000 || rights > 7500 || taken < 1000 || taken > 6000 {
		t.Fatalf("of 8000 memos %d were right, and in %d was Noted", rights, taken)
	}
}
