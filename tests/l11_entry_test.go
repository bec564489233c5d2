package tests

import (
	"slices"
	"strings"
	"testing"

	"loop.example/g00372/impl"
)

func handEntry(e impl.Entry) bool {
	return e.Seq > 0 && e.Seq < 1001 && e.Tag > 0 && e.Tag < 1001 && e.Client > -1 && e.Client < 4 && handOp(e.Op) && e.Op.Kind != 9
}

// handLog holds each Entry against all ahead of it.
func handLog(list []impl.Entry) bool {
	if len(list) > 120 {
		return false
	}
	for i, e := range list {
		if !handEntry(e) || e.Seq != int64(i+1) {
			return false
		}
		for _, ahead := range list[:i] {
			if ahead.Client == e.Client && ahead.Tag >= e.Tag {
				return false
			}
		}
	}
	return true
}

func handBegins(a []impl.Entry, b []impl.Entry) bool {
	if !handLog(a) || !handLog(b) || len(a) > len(b) {
		return false
	}
	for i := range a {
		if a[i] != b[i] {
			return false
		}
	}
	return true
}

// who is the Client and the Tag of an Entry.
type who struct{ client, tag int64 }

// handSeqs are those of a log; of any other list there are none.
func handSeqs(list []impl.Entry) map[who]int64 {
	seqs := map[who]int64{}
	if !handLog(list) {
		return seqs
	}
	for i, e := range list {
		seqs[who{e.Client, e.Tag}] = int64(i + 1)
	}
	return seqs
}

// changingOps are three of each Kind that Changes.
func changingOps() []impl.Op {
	return slices.DeleteFunc(typicalOps(), func(o impl.Op) bool { return o.Kind == 9 })
}

// entriesOf numbers the Entries from 1 on, and gives them Ops of one Kind after the other.
func entriesOf(list ...who) []impl.Entry {
	ops, entries := changingOps(), []impl.Entry{}
	for i, w := range list {
		entries = append(entries, impl.Entry{Seq: int64(i + 1), Client: w.client, Tag: w.tag, Op: ops[i*4%len(ops)]})
	}
	return entries
}

func renumbered(list []impl.Entry) []impl.Entry {
	list = slices.Clone(list)
	for i := range list {
		list[i].Seq = int64(i + 1)
	}
	return list
}

// entriesLong are of all four Clients, of each with Tags that rise by one.
func entriesLong(count int) []impl.Entry {
	list := []who{}
	for i := range count {
		list = append(list, who{int64(i*3) % 4, int64(i/4) + 1})
	}
	return entriesOf(list...)
}

// oneClientLong has Tags that rise by one, up to the last one that is given.
func oneClientLong(count int, client int64, last int64) []impl.Entry {
	list := []who{}
	for i := range count {
		list = append(list, who{client, last - int64(count-1-i)})
	}
	return entriesOf(list...)
}

// manyLogs are right ones.
func manyLogs() [][]impl.Entry {
	logs := [][]impl.Entry{{}}
	for client := int64(0); client <= 3; client++ {
		for _, tag := range []int64{1, 2, 999, 1000} {
			logs = append(logs, entriesOf(who{client, tag}))
		}
		logs = append(logs,
			entriesOf(who{client, 1}, who{client, 2}),
			entriesOf(who{client, 1}, who{client, 1000}),
			entriesOf(who{client, 7}, who{(client + 1) % 4, 7}),
			entriesOf(who{client, 7}, who{(client + 3) % 4, 6}),
			entriesOf(who{client, 1}, who{client, 2}, who{client, 3}, who{client, 5}, who{client, 9}, who{client, 1000}),
			oneClientLong(20, client, 1000))
	}
	return append(logs,
		entriesOf(who{0, 5}, who{1, 5}, who{2, 5}, who{3, 5}, who{3, 6}, who{2, 6}, who{1, 6}, who{0, 6}),
		entriesOf(who{2, 900}, who{0, 1}, who{2, 901}, who{1, 900}, who{0, 2}, who{3, 1000}, who{0, 900}),
		entriesOf(who{0, 1000}, who{1, 1000}, who{2, 1000}, who{3, 1000}),
		entriesLong(37),
		entriesLong(119),
		entriesLong(120),
		oneClientLong(120, 3, 1000))
}

// laidList is a list and all memory that it lies in.
type laidList[T any] struct {
	list   []T
	memory []T
}

// layList lays one list in memory in several ways: as it is, without any room behind it, with the others in the room behind it, and between the others.
func layList[T any](list []T, others ...T) []laidList[T] {
	exact := append(make([]T, 0, len(list)), list...)
	roomy := slices.Concat(list, others)
	middle := slices.Concat(others, list, others)
	from := len(others)
	laid := []laidList[T]{
		{list, list[:cap(list)]},
		{exact, exact},
		{roomy[:len(list)], roomy},
		{middle[from : from+len(list)], middle},
	}
	if len(list) == 0 {
		laid = append(laid, laidList[T]{nil, nil}, laidList[T]{[]T{}, nil})
	}
	return laid
}

// layEntries lays behind the list the Entry that would go on from it.
func layEntries(list []impl.Entry) []laidList[impl.Entry] {
	next := impl.Entry{Seq: int64(len(list) + 1), Client: 3, Tag: 1000, Op: attachOp("zzzz")}
	return layList(list, next, impl.Entry{}, impl.Entry{Seq: -501, Client: -502, Tag: -503, Op: readOp("a", -504)})
}

// askedOfEntries asks with one list laid out in several ways: the answer must be as wanted each time, and what was handed in must stay.
func askedOfEntries[T comparable](t *testing.T, what string, list []impl.Entry, want T, call func([]impl.Entry) T) {
	t.Helper()
	for _, given := range layEntries(list) {
		kept := slices.Clone(given.memory)
		if got := call(given.list); got != want {
			t.Fatalf("%s of %v is %v; wanted %v", what, list, got, want)
		}
		if !slices.Equal(given.memory, kept) {
			t.Fatalf("%s of %v: the memory handed in became %v; it was %v", what, list, given.memory, kept)
		}
	}
}

func checkEntry(t *testing.T, e impl.Entry, right bool) {
	t.Helper()
	if handEntry(e) != right {
		t.Fatalf("the test itself takes %v for %v", e, right)
	}
	if impl.EntryOk(e) != right {
		t.Fatalf("EntryOk(%v) is %v", e, !right)
	}
}

func checkSeqOf(t *testing.T, list []impl.Entry, client int64, tag int64, want int64) {
	t.Helper()
	askedOfEntries(t, "SeqOf", list, want, func(given []impl.Entry) int64 { return impl.SeqOf(given, client, tag) })
}

// checkSeqs asks for all Clients and Tags that stand in the list, and for some beside each.
func checkSeqs(t *testing.T, list []impl.Entry) {
	t.Helper()
	seqs := handSeqs(list)
	for _, e := range list {
		for _, w := range []who{{e.Client, e.Tag}, {e.Client, e.Tag + 1}, {e.Client, e.Tag - 1}, {e.Client + 1, e.Tag}, {e.Client - 1, e.Tag}, {e.Tag, e.Client}, {e.Client, e.Seq}} {
			if got := impl.SeqOf(list, w.client, w.tag); got != seqs[w] {
				t.Fatalf("SeqOf(%v, %d, %d) is %d; wanted %d", list, w.client, w.tag, got, seqs[w])
			}
		}
	}
}

// checkBegins asks with each list laid out in several ways.
func checkBegins(t *testing.T, a []impl.Entry, b []impl.Entry, want bool) {
	t.Helper()
	if handBegins(a, b) != want {
		t.Fatalf("the test itself takes %v and %v for %v", a, b, want)
	}
	askedOfEntries(t, "Begins of its first", a, want, func(given []impl.Entry) bool { return impl.Begins(given, b) })
	askedOfEntries(t, "Begins of its second", b, want, func(given []impl.Entry) bool { return impl.Begins(a, given) })
}

// checkLog asks what a list must answer by itself: one that is no log begins nothing, not even itself, nothing begins it, and nobody is found in it.
func checkLog(t *testing.T, list []impl.Entry, right bool) {
	t.Helper()
	if handLog(list) != right {
		t.Fatalf("the test itself takes %v for %v", list, right)
	}
	askedOfEntries(t, "LogOk", list, right, impl.LogOk)
	checkBegins(t, list, list, right)
	checkBegins(t, nil, list, right)
	checkBegins(t, list, nil, right && len(list) == 0)
	checkSeqs(t, list)
	for _, e := range list {
		if !right && impl.SeqOf(list, e.Client, e.Tag) != 0 {
			t.Fatalf("SeqOf finds %v in %v, which is no log", e, list)
		}
	}
}

func withEntry(list []impl.Entry, at int, change func(*impl.Entry)) []impl.Entry {
	list = slices.Clone(list)
	change(&list[at])
	return list
}

func changedBy(e impl.Entry, change func(*impl.Entry)) impl.Entry {
	change(&e)
	return e
}

func putSeq(n int64) func(*impl.Entry)    { return func(e *impl.Entry) { e.Seq = n } }
func putClient(n int64) func(*impl.Entry) { return func(e *impl.Entry) { e.Client = n } }
func putTag(n int64) func(*impl.Entry)    { return func(e *impl.Entry) { e.Tag = n } }
func putOp(o impl.Op) func(*impl.Entry)   { return func(e *impl.Entry) { e.Op = o } }

func TestLimitsOfLogs(t *testing.T) {
	if impl.MaxTag != 1000 || impl.MaxLog != 120 {
		t.Fatal(impl.MaxTag, impl.MaxLog)
	}
}

func TestRightEntries(t *testing.T) {
	for _, o := range changingOps() {
		for client := int64(0); client <= 3; client++ {
			for _, seq := range []int64{1, 2, 119, 120, 121, 999, 1000} {
				for _, tag := range []int64{1, 2, 120, 121, 999, 1000} {
					checkEntry(t, impl.Entry{Seq: seq, Client: client, Tag: tag, Op: o}, true)
				}
			}
		}
	}
	for kind := int64(1); kind <= 8; kind++ {
		for _, o := range opsOfKind(kind) {
			checkEntry(t, impl.Entry{Seq: 1, Client: 2, Tag: 5, Op: o}, true)
		}
	}
}

func TestEdgesOfEntries(t *testing.T) {
	for _, o := range changingOps() {
		right := impl.Entry{Seq: 3, Client: 2, Tag: 5, Op: o}
		for n, ok := range map[int64]bool{0: false, 1: true, 1000: true, 1001: false} {
			checkEntry(t, changedBy(right, putSeq(n)), ok)
			checkEntry(t, changedBy(right, putTag(n)), ok)
		}
		for n, ok := range map[int64]bool{-1: false, 0: true, 3: true, 4: false} {
			checkEntry(t, changedBy(right, putClient(n)), ok)
		}
	}
}

func TestEntriesNumberByNumber(t *testing.T) {
	right := impl.Entry{Seq: 3, Client: 2, Tag: 5, Op: attachOp("a")}
	for n := int64(-1100); n <= 1100; n++ {
		for _, change := range []func(*impl.Entry){putSeq(n), putClient(n), putTag(n)} {
			e := changedBy(right, change)
			checkEntry(t, e, handEntry(e))
		}
	}
	for _, n := range wrongNumbers {
		for _, change := range []func(*impl.Entry){putSeq(n), putClient(n), putTag(n)} {
			checkEntry(t, changedBy(right, change), false)
		}
	}
	checkEntry(t, impl.Entry{}, false)
}

func TestEntriesThatDoNotChange(t *testing.T) {
	right := impl.Entry{Seq: 1, Client: 2, Tag: 5}
	checkEntry(t, right, false)
	for _, o := range opsOfKind(impl.OpRead) {
		if !impl.OpOk(o) {
			t.Fatalf("OpOk(%v) is false", o)
		}
		checkEntry(t, changedBy(right, putOp(o)), false)
	}
	for _, o := range typicalOps() {
		for _, wrong := range wrongByOneField(o) {
			checkEntry(t, changedBy(right, putOp(wrong)), false)
		}
	}
}

func TestRightLogs(t *testing.T) {
	for _, l := range manyLogs() {
		checkLog(t, l, true)
	}
}

// Each Kind that Changes stands at the beginning, in the midst and at the end of a log.
func TestLogsOfEveryKind(t *testing.T) {
	l := entriesOf(who{0, 1}, who{1, 1}, who{2, 1}, who{3, 1}, who{0, 2})
	for _, o := range changingOps() {
		for at := range l {
			checkLog(t, withEntry(l, at, putOp(o)), true)
		}
	}
}

// An Op that no shelf would do belongs to a log as any other: that it was refused was told.
func TestLogsOfRefusedOps(t *testing.T) {
	l := []impl.Entry{
		{Seq: 1, Client: 0, Tag: 1, Op: writeOp("none", 3, 7)},
		{Seq: 2, Client: 0, Tag: 2, Op: makeOp("a", 3)},
		{Seq: 3, Client: 1, Tag: 2, Op: makeOp("a", 3)},
		{Seq: 4, Client: 1, Tag: 3, Op: writeOp("a", 255, 7)},
		{Seq: 5, Client: 0, Tag: 3, Op: cloneOp("a", "a")},
	}
	checkLog(t, l, true)
}

func TestTagsOfOneClient(t *testing.T) {
	for client := int64(0); client <= 3; client++ {
		other := (client + 1) % 4
		for _, c := range []struct {
			tags  []int64
			right bool
		}{
			{[]int64{4, 5}, true},
			{[]int64{4, 6}, true},
			{[]int64{1, 1000}, true},
			{[]int64{4, 4}, false},
			{[]int64{4, 3}, false},
			{[]int64{1000, 1}, false},
			{[]int64{1, 1}, false},
			{[]int64{1000, 1000}, false},
			{[]int64{4, 5, 6}, true},
			{[]int64{4, 9, 10}, true},
			{[]int64{4, 5, 5}, false},
			{[]int64{4, 5, 4}, false},
			{[]int64{4, 6, 5}, false},
			{[]int64{5, 4, 6}, false},
			{[]int64{4, 4, 5}, false},
		} {
			alone, around := []who{}, []who{{other, 4}}
			for _, tag := range c.tags {
				alone = append(alone, who{client, tag})
				around = append(around, who{client, tag}, who{other, 5 + int64(len(around))})
			}
			checkLog(t, entriesOf(alone...), c.right)
			checkLog(t, entriesOf(around...), c.right)
		}
		// What one Client has come to says nothing of another one.
		checkLog(t, entriesOf(who{client, 4}, who{other, 4}), true)
		checkLog(t, entriesOf(who{client, 4}, who{other, 3}, who{client, 5}, who{other, 4}), true)
		checkLog(t, entriesOf(who{client, 1000}, who{other, 1}), true)
		checkLog(t, entriesOf(who{client, 4}, who{other, 4}, who{client, 4}), false)
		checkLog(t, entriesOf(who{client, 4}, who{other, 3}, who{client, 3}), false)
	}
}

// The Tag that stays or goes back is held against the last one of its Client, however far ahead that is.
func TestTagsFarApart(t *testing.T) {
	for _, count := range []int{2, 50, 119} {
		list := []who{{2, 7}}
		for i := range count - 1 {
			list = append(list, who{int64(i % 2), int64(i + 8)})
		}
		for tag, right := range map[int64]bool{1: false, 6: false, 7: false, 8: true, 1000: true} {
			checkLog(t, entriesOf(append(slices.Clone(list), who{2, tag})...), right)
		}
	}
}

func TestSeqsOfLogs(t *testing.T) {
	for _, l := range [][]impl.Entry{entriesOf(who{2, 5}), entriesLong(7), oneClientLong(20, 1, 500)} {
		for _, first := range []int64{0, 2, 3, 999, 1000} {
			moved := slices.Clone(l)
			for i := range moved {
				moved[i].Seq = first + int64(i)
			}
			checkLog(t, moved, false)
		}
		for at := range l {
			for seq := int64(-1); seq <= int64(len(l)+2); seq++ {
				checkLog(t, withEntry(l, at, putSeq(seq)), seq == int64(at+1))
			}
			for _, n := range wrongNumbers {
				checkLog(t, withEntry(l, at, putSeq(n)), false)
			}
		}
	}
}

func TestSeqsThatStandOrGoBack(t *testing.T) {
	for _, seqs := range [][]int64{{1, 1}, {2, 1}, {1, 3}, {0, 1}, {1, 2, 2}, {1, 2, 4}, {1, 3, 2}, {3, 2, 1}, {1, 2, 1}, {1, 1, 1}} {
		l := entriesLong(len(seqs))
		for i, seq := range seqs {
			l[i].Seq = seq
		}
		checkLog(t, l, false)
	}
}

// Each Entry by itself is right, and so is what goes from one to the next: the length alone refuses.
func TestLongLogs(t *testing.T) {
	for count, right := range map[int]bool{118: true, 119: true, 120: true, 121: false, 122: false, 240: false, 241: false, 376: false, 1000: false} {
		for _, l := range [][]impl.Entry{entriesLong(count), oneClientLong(count, 0, 1000), oneClientLong(count, 3, int64(count))} {
			for _, e := range l {
				checkEntry(t, e, true)
			}
			checkLog(t, l, right)
			checkBegins(t, l[:100], l, right)
			checkBegins(t, l, l[:100], false)
			last := l[count-1]
			want := int64(0)
			if right {
				want = int64(count)
			}
			checkSeqOf(t, l, last.Client, last.Tag, want)
		}
	}
	full := entriesLong(120)
	more := append(slices.Clone(full), impl.Entry{Seq: 121, Client: 0, Tag: 1000, Op: attachOp("a")})
	checkBegins(t, full, full, true)
	checkBegins(t, full[:119], full, true)
	checkBegins(t, full, full[:119], false)
	checkBegins(t, full, more, false)
	checkBegins(t, more, full, false)
	checkBegins(t, more, more, false)
}

func TestVeryLongLists(t *testing.T) {
	for _, l := range [][]impl.Entry{make([]impl.Entry, 1<<16), slices.Repeat(entriesLong(120), 500)} {
		if impl.LogOk(l) || impl.Begins(l, l) || impl.Begins(nil, l) || impl.Begins(l, nil) || impl.SeqOf(l, 0, 1) != 0 || impl.SeqOf(l, 0, 0) != 0 {
			t.Fatalf("a list of %d Entries is taken for a log", len(l))
		}
	}
}

// Each part of a log from its beginning on begins each longer one, and none that is shorter.
func TestLogsBeginWhatGoesOnFromThem(t *testing.T) {
	for _, l := range manyLogs() {
		for i := range len(l) + 1 {
			for j := range len(l) + 1 {
				if impl.Begins(l[:i], l[:j]) != (i <= j) {
					t.Fatalf("Begins of the first %d and the first %d of %v is %v", i, j, l, i > j)
				}
			}
		}
	}
}

// They lie in memory of their own: that two lie at one place must not be what makes them alike.
func TestLogsBeginCopies(t *testing.T) {
	for _, l := range manyLogs() {
		own := slices.Clone(l)
		for i := range own {
			own[i].Op.Name, own[i].Op.Other = strings.Clone(own[i].Op.Name), strings.Clone(own[i].Op.Other)
		}
		for _, i := range []int{0, len(l) / 2, len(l)} {
			checkBegins(t, own[:i], l, true)
			checkBegins(t, l, own[:i], i == len(l))
		}
	}
}

// What does not begin at the beginning is no beginning, be it numbered anew or not.
func TestEndsAreNoBeginnings(t *testing.T) {
	for _, l := range manyLogs() {
		for _, i := range []int{1, len(l) / 2, len(l) - 1} {
			if i < 1 || i >= len(l) {
				continue
			}
			checkBegins(t, l[i:], l, false)
			checkBegins(t, renumbered(l[i:]), l, false)
			checkLog(t, renumbered(l[i:]), true)
		}
	}
}

func TestEachLogAgainstEach(t *testing.T) {
	logs, begin := manyLogs(), 0
	for _, a := range logs {
		for _, b := range logs {
			want := handBegins(a, b)
			if impl.Begins(a, b) != want {
				t.Fatalf("Begins(%v, %v) is %v", a, b, !want)
			}
			begin += int(asNumber(want))
		}
	}
	if begin < 2*len(logs) || begin > len(logs)*len(logs)/2 {
		t.Fatalf("%d pairs of %d logs begin", begin, len(logs))
	}
}

// opsApart differ in one field each, and both of a pair are right.
func opsApart() map[string][2]impl.Op {
	return map[string][2]impl.Op{
		"Kind, of copies":       {snapOp("a", "b"), cloneOp("a", "b")},
		"Kind, of sizes":        {makeOp("a", 3), resizeOp("a", 3)},
		"Kind, of names":        {attachOp("a"), deleteOp("a")},
		"Kind, of places":       {trimOp("a", 3), writeOp("a", 3, 0)},
		"Name":                  {attachOp("a"), attachOp("b")},
		"Name, longer":          {attachOp("a"), attachOp("ab")},
		"Name, at its end":      {writeOp("abcd", 1, 2), writeOp("abce", 1, 2)},
		"Other":                 {snapOp("a", "b"), snapOp("a", "c")},
		"Other, longer":         {cloneOp("a", "b"), cloneOp("a", "bbbb")},
		"At":                    {trimOp("a", 0), trimOp("a", 1)},
		"At, of great ones":     {writeOp("a", 254, 2), writeOp("a", 255, 2)},
		"Value, of sizes":       {makeOp("a", 15), makeOp("a", 16)},
		"Value, of what is put": {writeOp("a", 1, 0), writeOp("a", 1, 999)},
		"Epoch":                 {deleteOp("a"), atEpoch(deleteOp("a"), 1)},
		"Epoch, of great ones":  {atEpoch(writeOp("a", 1, 2), 999), atEpoch(writeOp("a", 1, 2), 1000)},
	}
}

// checkPartAt is of two right logs of one length that are alike but at one place.
func checkPartAt(t *testing.T, what string, a []impl.Entry, b []impl.Entry, at int) {
	t.Helper()
	if !impl.LogOk(a) || !impl.LogOk(b) || a[at] == b[at] {
		t.Fatalf("%s: %v and %v are not two logs that part at %d", what, a, b, at)
	}
	for end := range len(a) + 1 {
		same := end <= at
		checkBegins(t, a[:end], b, same)
		checkBegins(t, b[:end], a, same)
		checkBegins(t, a[:end], b[:end], same)
		checkBegins(t, b[:end], a[:end], same)
		checkBegins(t, a, b[:end], false)
	}
}

func TestLogsThatPart(t *testing.T) {
	base := []impl.Entry{}
	for i := range int64(5) {
		base = append(base, impl.Entry{Seq: i + 1, Client: 1, Tag: 10 * (i + 1), Op: attachOp("zz")})
	}
	for at := range base {
		for field, pair := range opsApart() {
			checkPartAt(t, field, withEntry(base, at, putOp(pair[0])), withEntry(base, at, putOp(pair[1])), at)
		}
		for _, client := range []int64{0, 2, 3} {
			checkPartAt(t, "Client", base, withEntry(base, at, putClient(client)), at)
		}
		for _, by := range []int64{-9, -1, 1, 9} {
			checkPartAt(t, "Tag", base, withEntry(base, at, putTag(base[at].Tag+by)), at)
		}
		// By Seq alone two logs can't part: the one of another Seq is none.
		for _, seq := range []int64{0, base[at].Seq - 1, base[at].Seq + 1, 1000} {
			other := withEntry(base, at, putSeq(seq))
			checkLog(t, other, false)
			checkBegins(t, base, other, false)
			checkBegins(t, other, base, false)
			checkBegins(t, base[:at], other, false)
		}
	}
}

// Where two are long, the last Entry counts as the first one does.
func TestLongLogsThatPart(t *testing.T) {
	l := oneClientLong(120, 2, 1000)
	for at := range l {
		other := withEntry(l, at, putClient(1))
		if !impl.LogOk(other) || impl.Begins(l, other) || impl.Begins(other, l) {
			t.Fatalf("two logs that part at %d: Begins is true", at)
		}
		if !impl.Begins(l[:at], other) || impl.Begins(l[:at+1], other) {
			t.Fatalf("two logs that part at %d: Begins of what is ahead of that is not as it must be", at)
		}
	}
}

// spoiledOnce are this log with one Entry twice, one left out, or two the wrong way round; none of them is one.
func spoiledOnce(l []impl.Entry) [][]impl.Entry {
	lists := [][]impl.Entry{}
	for i := range l {
		lists = append(lists, slices.Insert(slices.Clone(l), i, l[i]), append(slices.Clone(l), l[i]))
		if i < len(l)-1 {
			lists = append(lists, slices.Delete(slices.Clone(l), i, i+1))
		}
		for j := range i {
			swapped := slices.Clone(l)
			swapped[i], swapped[j] = swapped[j], swapped[i]
			lists = append(lists, swapped)
		}
	}
	return lists
}

func TestListsThatAreNoLogs(t *testing.T) {
	for _, l := range [][]impl.Entry{entriesLong(2), entriesLong(9), oneClientLong(6, 3, 1000), entriesOf(who{2, 5}, who{0, 1}, who{2, 6})} {
		for _, wrong := range spoiledOnce(l) {
			checkLog(t, wrong, false)
			checkBegins(t, l, wrong, false)
			checkBegins(t, wrong, l, false)
			checkBegins(t, l[:1], wrong, false)
		}
	}
}

// Numbered anew: one that stands there twice or the wrong way round is found out by its Tag; one that is left out is not missed, since Tags may rise by more.
func TestSpoiledListsNumberedAnew(t *testing.T) {
	one, all := oneClientLong(6, 3, 1000), entriesLong(9)
	for i := range one {
		checkLog(t, renumbered(slices.Insert(slices.Clone(one), i, one[i])), false)
		checkLog(t, renumbered(append(slices.Clone(one), one[i])), false)
		checkLog(t, renumbered(slices.Delete(slices.Clone(one), i, i+1)), true)
		for j := range i {
			swapped := slices.Clone(one)
			swapped[i], swapped[j] = swapped[j], swapped[i]
			checkLog(t, renumbered(swapped), false)
		}
	}
	for _, spoiled := range spoiledOnce(all) {
		l := renumbered(spoiled)
		checkLog(t, l, handLog(l))
		checkBegins(t, all, l, false)
	}
}

func TestWrongEntriesInLists(t *testing.T) {
	l := entriesLong(5)
	for at := range l {
		changes := []func(*impl.Entry){putOp(impl.Op{}), putOp(readOp("a", 0)), putOp(readOp("abcd", 255)), putClient(4), putTag(0), putTag(1001), func(e *impl.Entry) { *e = impl.Entry{} }}
		for _, n := range wrongNumbers {
			changes = append(changes, putClient(n), putTag(n))
		}
		for _, o := range changingOps() {
			wrong := wrongByOneField(o)
			changes = append(changes, putOp(wrong[at]), putOp(wrong[len(wrong)/2+at]), putOp(wrong[len(wrong)-1-at]))
		}
		for _, change := range changes {
			wrong := withEntry(l, at, change)
			checkEntry(t, wrong[at], false)
			checkLog(t, wrong, false)
			checkBegins(t, l, wrong, false)
			checkBegins(t, wrong, l, false)
			// What is ahead of it is a log; the whole of it is not, and so is begun by nothing.
			checkLog(t, wrong[:at], true)
			checkBegins(t, wrong[:at], wrong, false)
			checkBegins(t, wrong[:at], l, true)
		}
	}
}

// All Clients and Tags there are, and the ones past each end.
func TestSeqsAreFound(t *testing.T) {
	logs := append(manyLogs(), entriesLong(4)[1:], slices.Repeat(entriesLong(3), 2))
	for _, l := range logs {
		seqs, found := handSeqs(l), 0
		for client := int64(-2); client <= 5; client++ {
			for tag := int64(-2); tag <= 1002; tag++ {
				got := impl.SeqOf(l, client, tag)
				if got != seqs[who{client, tag}] {
					t.Fatalf("SeqOf(%v, %d, %d) is %d; wanted %d", l, client, tag, got, seqs[who{client, tag}])
				}
				if got != 0 {
					found++
				}
			}
		}
		if found != len(seqs) {
			t.Fatalf("%d of %d Seqs were found in %v", found, len(seqs), l)
		}
	}
}

func TestSeqsWorkedByHand(t *testing.T) {
	o := attachOp("a")
	l := []impl.Entry{{Seq: 1, Client: 2, Tag: 5, Op: o}, {Seq: 2, Client: 0, Tag: 1, Op: o}, {Seq: 3, Client: 2, Tag: 6, Op: o}, {Seq: 4, Client: 0, Tag: 5, Op: o}, {Seq: 5, Client: 3, Tag: 1000, Op: o}}
	for _, c := range []struct{ client, tag, seq int64 }{
		{2, 5, 1}, {0, 1, 2}, {2, 6, 3}, {0, 5, 4}, {3, 1000, 5},
		{2, 1, 0}, {2, 4, 0}, {2, 7, 0}, {0, 2, 0}, {0, 6, 0}, {1, 5, 0}, {1, 1, 0}, {3, 5, 0}, {3, 999, 0}, {3, 1001, 0},
		{5, 2, 0}, {1, 0, 0}, {0, 0, 0}, {-1, 5, 0}, {4, 5, 0}, {2, -5, 0}, {-2, 5, 0},
	} {
		checkSeqOf(t, l, c.client, c.tag, c.seq)
		if c.seq > 2 {
			checkSeqOf(t, l[:2], c.client, c.tag, 0)
		} else {
			checkSeqOf(t, l[:2], c.client, c.tag, c.seq)
		}
		checkSeqOf(t, nil, c.client, c.tag, 0)
		checkSeqOf(t, l[1:], c.client, c.tag, 0)
		checkSeqOf(t, withEntry(l, 4, putTag(1001)), c.client, c.tag, 0)
	}
}

func TestSeqOfFarNumbers(t *testing.T) {
	far := slices.Concat(extremes, farNumbers, wrongNumbers, []int64{1<<32 + 2, 1<<8 + 2, 1<<16 + 2, 2 - 1<<32})
	for _, l := range [][]impl.Entry{nil, entriesLong(8), entriesLong(120), entriesOf(who{2, 5}, who{0, 1}), make([]impl.Entry, 3)} {
		seqs := handSeqs(l)
		for _, n := range far {
			for near := int64(0); near <= 5; near++ {
				checkSeqOf(t, l, n, near, seqs[who{n, near}])
				checkSeqOf(t, l, near, n, seqs[who{near, n}])
			}
			for _, other := range far {
				if got := impl.SeqOf(l, n, other); got != seqs[who{n, other}] {
					t.Fatalf("SeqOf(%v, %d, %d) is %d; wanted %d", l, n, other, got, seqs[who{n, other}])
				}
			}
		}
	}
}

// In a list that is no log nobody is found, though the wrong Client and Tag stand in it.
func TestWrongOnesAreNotFound(t *testing.T) {
	for _, n := range slices.Concat(wrongNumbers, []int64{0}) {
		for at := range 3 {
			l := withEntry(entriesLong(3), at, putTag(n))
			checkSeqOf(t, l, l[at].Client, n, 0)
			l = withEntry(entriesLong(3), at, putSeq(n))
			checkSeqOf(t, l, l[at].Client, l[at].Tag, 0)
			if n != 0 {
				l = withEntry(entriesLong(3), at, putClient(n))
				checkSeqOf(t, l, n, l[at].Tag, 0)
			}
		}
	}
	checkSeqOf(t, make([]impl.Entry, 1), 0, 0, 0)
}

// spoilEntries changes one Entry, or puts it somewhere else, or goes on from the list with one more.
func spoilEntries(next func(int64) int64, list []impl.Entry, numbers []int64, ops []impl.Op) []impl.Entry {
	if len(list) == 0 {
		return list
	}
	at, other := next(int64(len(list))), next(int64(len(list)))
	switch next(9) {
	case 0:
		list[at].Seq = pickOf(next, numbers)
	case 1:
		list[at].Client = pickOf(next, numbers)
	case 2:
		list[at].Tag = pickOf(next, numbers)
	case 3, 4:
		list[at].Op = pickOf(next, ops)
	case 5:
		list[at].Client = next(4)
	case 6:
		list[at].Tag += next(3) - 1
	case 7:
		list[at], list[other] = list[other], list[at]
		list = renumbered(list)
	case 8:
		list = renumbered(slices.Delete(list, int(at), int(at+1)))
	}
	return list
}

// likelyEntries are right ones.
func likelyEntries(next func(int64) int64, ops []impl.Op) []impl.Entry {
	list, tags := []impl.Entry{}, [4]int64{}
	for range next(125) % (1 + next(125)) {
		client := next(4)
		tags[client] += 1 + next(4)*next(3)
		list = append(list, impl.Entry{Seq: int64(len(list) + 1), Client: client, Tag: tags[client], Op: pickOf(next, ops)})
	}
	return list
}

// Lists without any order, but the same in each run, mostly near to right ones.
func TestLogsAnswerAtEveryArgument(t *testing.T) {
	next, rightOps := picked(11), changingOps()
	numbers := slices.Concat(extremes, farNumbers, wrongNumbers, []int64{0, 120, 121, 999, 1000, 1001})
	ops := slices.Concat(rightOps, rightOps, typicalOps(), wrongByOneField(makeOp("a", 3)))
	rights, begins := 0, 0
	for range 3000 {
		l := likelyEntries(next, rightOps)
		end := next(int64(len(l) + 1))
		a, b := slices.Clone(l[:end]), slices.Clone(l)
		for range next(3) {
			a = spoilEntries(next, a, numbers, ops)
		}
		for range next(3) {
			b = spoilEntries(next, b, numbers, ops)
		}
		for _, list := range [][]impl.Entry{a, b} {
			right := handLog(list)
			askedOfEntries(t, "LogOk", list, right, impl.LogOk)
			checkSeqs(t, list)
			rights += int(asNumber(right))
		}
		for _, pair := range [][2][]impl.Entry{{a, b}, {b, a}, {a, l}, {l, b}} {
			want := handBegins(pair[0], pair[1])
			checkBegins(t, pair[0], pair[1], want)
			begins += int(asNumber(want))
		}
		client, tag := pickOf(next, numbers), pickOf(next, numbers)
		checkSeqOf(t, b, client, tag, handSeqs(b)[who{client, tag}])
	}
	if rights < 1500 || rights > 5000 || begins < 1000 || begins > 9000 {
		t.Fatalf("%d lists of 6000 were logs, %d of 12000 pairs begin", rights, begins)
	}
}
