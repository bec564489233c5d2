package tests

import (
	"math"
	"slices"
	"strings"
	"testing"

	"loop.example/g00372/impl"
)

// rightReplies are all there are: of Code 0 one by each Value, of every other Code one alone.
func rightReplies() []impl.Reply {
	list := []impl.Reply{}
	for value := int64(0); value <= 1000; value++ {
		list = append(list, impl.Reply{Value: value})
	}
	for code := int64(1); code <= 9; code++ {
		list = append(list, impl.Reply{Code: code})
	}
	return list
}

func handReply(r impl.Reply) bool {
	if r.Code == 0 {
		return r.Value > -1 && r.Value < 1001
	}
	return r.Code > 0 && r.Code < 10 && r.Value == 0
}

// replyText puts the bytes of any Reply that goes into them, be it right or not.
func replyText(r impl.Reply) string {
	return string([]byte{byte(r.Code), byte(r.Value / 256), byte(r.Value % 256)})
}

func goesIntoThree(r impl.Reply) bool {
	return r.Code >= 0 && r.Code <= greatest[1] && r.Value >= 0 && r.Value <= greatest[2]
}

// repliesByText are the right ones by the three bytes of each.
func repliesByText() map[string]impl.Reply {
	byText := map[string]impl.Reply{}
	for _, r := range rightReplies() {
		byText[replyText(r)] = r
	}
	return byText
}

func checkRightReply(t *testing.T, r impl.Reply) {
	t.Helper()
	if !impl.ReplyOk(r) {
		t.Fatalf("ReplyOk(%v) is false", r)
	}
	shown := impl.ShowReply(r)
	if len(shown) != 3 || shown != replyText(r) {
		t.Fatalf("ShowReply(%v) is %q; wanted %q", r, shown, replyText(r))
	}
	read, is := impl.ReadReply(shown)
	if !is || read != r {
		t.Fatalf("ReadReply(%q) is %v, %v; wanted %v", shown, read, is, r)
	}
}

// checkWrongReply asks for the bytes of the wrong one as well, where it goes into them: they must not be read.
func checkWrongReply(t *testing.T, r impl.Reply) {
	t.Helper()
	if impl.ReplyOk(r) {
		t.Fatalf("ReplyOk(%v) is true", r)
	}
	if shown := impl.ShowReply(r); shown != "" {
		t.Fatalf("ShowReply(%v) is %q", r, shown)
	}
	if goesIntoThree(r) {
		checkNoReply(t, replyText(r))
	}
}

func checkReply(t *testing.T, r impl.Reply) {
	t.Helper()
	if handReply(r) {
		checkRightReply(t, r)
	} else {
		checkWrongReply(t, r)
	}
}

func checkNoReply(t *testing.T, s string) {
	t.Helper()
	if got, is := impl.ReadReply(s); is || got != (impl.Reply{}) {
		t.Fatalf("ReadReply(%q) is %v, %v", s, got, is)
	}
}

// checkReadReply asks with the text in the midst of a longer one, so that what lies around it must not matter.
func checkReadReply(t *testing.T, byText map[string]impl.Reply, s string) {
	t.Helper()
	around := "\x00" + s + "\x00\x00\x00"
	want, right := byText[s]
	got, is := impl.ReadReply(around[1 : 1+len(s)])
	if is != right || got != want {
		t.Fatalf("ReadReply(%q) is %v, %v; wanted %v, %v", s, got, is, want, right)
	}
	if is && impl.ShowReply(got) != s {
		t.Fatalf("ReadReply(%q) is %v, of which ShowReply makes %q", s, got, impl.ShowReply(got))
	}
}

func TestRepliesWorkedByHand(t *testing.T) {
	for _, c := range []struct {
		r     impl.Reply
		shown string
	}{
		{impl.Reply{}, "\x00\x00\x00"},
		{impl.Reply{Code: impl.RpOk, Value: 1}, "\x00\x00\x01"},
		{impl.Reply{Code: impl.RpOk, Value: 255}, "\x00\x00\xff"},
		{impl.Reply{Code: impl.RpOk, Value: 256}, "\x00\x01\x00"},
		{impl.Reply{Code: impl.RpOk, Value: 258}, "\x00\x01\x02"},
		{impl.Reply{Code: impl.RpOk, Value: 513}, "\x00\x02\x01"},
		{impl.Reply{Code: impl.RpOk, Value: 999}, "\x00\x03\xe7"},
		{impl.Reply{Code: impl.RpOk, Value: 1000}, "\x00\x03\xe8"},
		{impl.Reply{Code: impl.RpBad}, "\x01\x00\x00"},
		{impl.Reply{Code: impl.RpNone}, "\x02\x00\x00"},
		{impl.Reply{Code: impl.RpThere}, "\x03\x00\x00"},
		{impl.Reply{Code: impl.RpFenced}, "\x04\x00\x00"},
		{impl.Reply{Code: impl.RpFixed}, "\x05\x00\x00"},
		{impl.Reply{Code: impl.RpRange}, "\x06\x00\x00"},
		{impl.Reply{Code: impl.RpMany}, "\x07\x00\x00"},
		{impl.Reply{Code: impl.RpWorn}, "\x08\x00\x00"},
		{impl.Reply{Code: impl.RpFull}, "\x09\x00\x00"},
	} {
		if !impl.ReplyOk(c.r) {
			t.Errorf("ReplyOk(%v) is false", c.r)
		}
		if shown := impl.ShowReply(c.r); shown != c.shown {
			t.Errorf("ShowReply(%v) is %q; wanted %q", c.r, shown, c.shown)
		}
		if read, is := impl.ReadReply(c.shown); !is || read != c.r {
			t.Errorf("ReadReply(%q) is %v, %v; wanted %v", c.shown, read, is, c.r)
		}
	}
}

func TestEveryRightReplyIsReadBack(t *testing.T) {
	shownBy := map[string]impl.Reply{}
	for _, r := range rightReplies() {
		checkRightReply(t, r)
		shown := impl.ShowReply(r)
		if first, is := shownBy[shown]; is {
			t.Fatalf("%v and %v are both shown by %q", first, r, shown)
		}
		shownBy[shown] = r
	}
	if len(shownBy) != 1010 {
		t.Fatalf("%d texts were shown", len(shownBy))
	}
}

func TestEdgesOfReplies(t *testing.T) {
	for _, c := range []struct {
		r     impl.Reply
		right bool
	}{
		{impl.Reply{Code: impl.RpOk - 1}, false},
		{impl.Reply{Code: impl.RpOk}, true},
		{impl.Reply{Code: impl.RpOk + 1}, true},
		{impl.Reply{Code: impl.RpFull - 1}, true},
		{impl.Reply{Code: impl.RpFull}, true},
		{impl.Reply{Code: impl.RpFull + 1}, false},
		{impl.Reply{Value: -1}, false},
		{impl.Reply{Value: 0}, true},
		{impl.Reply{Value: 1}, true},
		{impl.Reply{Value: 255}, true},
		{impl.Reply{Value: 256}, true},
		{impl.Reply{Value: 999}, true},
		{impl.Reply{Value: 1000}, true},
		{impl.Reply{Value: 1001}, false},
	} {
		if impl.ReplyOk(c.r) != c.right {
			t.Errorf("ReplyOk(%v) is %v", c.r, !c.right)
		}
		checkReply(t, c.r)
	}
}

func TestAValueIsToldWithOkAlone(t *testing.T) {
	for code := int64(-2); code <= 12; code++ {
		for _, value := range []int64{-1000, -1, 1, 2, 255, 256, 258, 999, 1000, 1001, 65535} {
			if r := (impl.Reply{Code: code, Value: value}); code != impl.RpOk {
				checkWrongReply(t, r)
			} else {
				checkReply(t, r)
			}
		}
	}
}

// Every Code and every Value by itself, as far as bytes go and beyond it.
func TestCodesAndValuesOneByOne(t *testing.T) {
	for code := int64(-300); code <= 600; code++ {
		checkReply(t, impl.Reply{Code: code})
		checkReply(t, impl.Reply{Code: code, Value: 1})
	}
	for value := int64(-1100); value <= 66600; value++ {
		checkReply(t, impl.Reply{Value: value})
		checkReply(t, impl.Reply{Code: impl.RpNone, Value: value})
	}
}

// Some of these have the low bytes of a right Reply.
func TestVeryGreatAndVerySmallReplies(t *testing.T) {
	far := slices.Concat(wrongNumbers, []int64{math.MinInt64 + 1000, math.MinInt32 + 4, 1<<8 - 1<<32, 1<<16 + 1000, 1 << 32, 1<<32 + 9, 1<<56 + 1, math.MaxInt64 - 1000})
	for _, n := range far {
		for near := int64(-1); near <= 10; near++ {
			checkWrongReply(t, impl.Reply{Code: n, Value: near})
			checkWrongReply(t, impl.Reply{Code: near, Value: n})
		}
		for _, other := range far {
			checkWrongReply(t, impl.Reply{Code: n, Value: other})
		}
	}
}

// All there are, each against the right ones.
func TestEveryTextOfThreeBytes(t *testing.T) {
	byText, read := repliesByText(), 0
	for code := range 256 {
		for high := range 256 {
			for low := range 256 {
				s := string([]byte{byte(code), byte(high), byte(low)})
				got, is := impl.ReadReply(s)
				if want, right := byText[s]; is != right || got != want {
					t.Fatalf("ReadReply(%q) is %v, %v; wanted %v, %v", s, got, is, want, right)
				}
				if is && impl.ShowReply(got) != s {
					t.Fatalf("ReadReply(%q) is %v, of which ShowReply makes %q", s, got, impl.ShowReply(got))
				}
				read += int(asNumber(is))
			}
		}
	}
	if read != 1010 {
		t.Fatalf("%d texts were read", read)
	}
}

func TestTextsOfNoOneAndTwoBytes(t *testing.T) {
	checkNoReply(t, "")
	for a := range 256 {
		checkNoReply(t, string([]byte{byte(a)}))
		for b := range 256 {
			checkNoReply(t, string([]byte{byte(a), byte(b)}))
		}
	}
}

// Nothing may stand behind a right text or ahead of it, nor be missing from it; what lies around it in memory is no part of it.
func TestRightTextsCutOrGoneOn(t *testing.T) {
	byText := repliesByText()
	for s := range byText {
		for i := range s {
			checkNoReply(t, s[:i])
			checkNoReply(t, s[i+1:])
			checkNoReply(t, s[:i]+s[i+1:])
			checkNoReply(t, s[:i]+"\x00"+s[i:])
		}
		checkReadReply(t, byText, s)
		checkReadReply(t, byText, s[:2])
		for _, more := range []string{"\x00", "\x01", "a", "\xff", "\x00\x00", s, strings.Repeat("\x00", 3), strings.Repeat(s, 20)} {
			checkNoReply(t, s+more)
			checkNoReply(t, more+s)
		}
	}
	for b := range 256 {
		one := string([]byte{byte(b)})
		checkNoReply(t, "\x00\x01\x02"+one)
		checkNoReply(t, one+"\x00\x01\x02")
		checkNoReply(t, "\x04\x00\x00"+one)
		for _, length := range []int{4, 5, 6, 255, 256, 258, 259, 1000, 65536 + 3} {
			checkNoReply(t, strings.Repeat(one, length))
		}
	}
	checkNoReply(t, strings.Repeat("none is lost\n", 8000))
	checkNoReply(t, strings.Repeat("\x00", 1<<24))
}

func TestRepliesAreNewMemory(t *testing.T) {
	for _, r := range rightReplies() {
		first, second := impl.ShowReply(r), impl.ShowReply(r)
		if sharesMemory(first, second) {
			t.Fatalf("ShowReply(%v) tells one text twice", r)
		}
	}
}

// toldCount counts what Did and DidPlain have told, by Code, and how great the greatest Value was.
type toldCount struct {
	byCode [10]int
	most   int64
}

func (c *toldCount) take(t *testing.T, r impl.Reply) {
	t.Helper()
	checkRightReply(t, r)
	c.byCode[r.Code]++
	c.most = max(c.most, r.Value)
}

func (c *toldCount) both(t *testing.T, s impl.Shelf, o impl.Op) impl.Shelf {
	t.Helper()
	after, r := impl.Did(s, o)
	c.take(t, r)
	_, r = impl.DidPlain(impl.ShownPlain(s), o, r.Code)
	c.take(t, r)
	return after
}

func TestWhatIsToldIsRight(t *testing.T) {
	count := toldCount{}
	for _, h := range manyShelves() {
		for _, o := range manyOps() {
			count.both(t, h.shelf(), o)
		}
	}
	for seed := range uint32(4) {
		next, h := picked(10+seed), newHandShelf(5)
		s := h.shelf()
		for range 300 {
			o := likelyOp(next, h)
			s = count.both(t, s, o)
			h, _ = h.did(o)
		}
	}
	h := emptyLeaves(1).with("b", leaf{size: 3, pages: nonePlaced(), epoch: 998})
	s := h.shelf()
	for range 4 {
		s = count.both(t, s, attachOp("b"))
	}
	if count.most != 1000 {
		t.Errorf("the greatest Value that was told is %d", count.most)
	}
	wrong := impl.Shelf{Pool: poolOf([]int64{1}, []int64{5})}
	for _, o := range typicalOps() {
		count.both(t, wrong, o)
		_, r := impl.DidPlain([]impl.Plain{{}}, o, impl.RpFull)
		count.take(t, r)
		for _, wrong := range wrongByOneField(o) {
			count.both(t, s, wrong)
		}
	}
	for code, n := range count.byCode {
		if n < 10 {
			t.Errorf("Code %d was told only %d times", code, n)
		}
	}
}

// Replies and texts without any order, but the same in each run, mostly near to right ones.
func TestRepliesAnswerAtEveryArgument(t *testing.T) {
	next, byText := picked(100), repliesByText()
	numbers := slices.Concat(extremes, farNumbers, wrongNumbers, []int64{0, 0, 0, 1, 4, 9, 10, 999, 1000, 1001})
	rights := 0
	for range 20000 {
		r := impl.Reply{Code: pickOf(next, numbers), Value: pickOf(next, numbers)}
		if next(2) == 0 {
			r.Code = next(11)
		}
		if next(2) == 0 {
			r.Value = next(2) * next(1003)
		}
		checkReply(t, r)
		rights += int(asNumber(handReply(r)))
		s := []byte{}
		for range next(6) {
			s = append(s, byte(next(2)*next(12)))
		}
		checkReadReply(t, byText, string(s))
		for range next(300) {
			s = append(s, byte(next(256)))
		}
		checkReadReply(t, byText, string(s))
	}
	if rights < 2000 || rights > 18000 {
		t.Fatalf("%d replies of 20000 were right", rights)
	}
}
