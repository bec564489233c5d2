package tests

import (
	"math"
	"slices"
	"strings"
	"testing"

	"loop.example/g00372/impl"
)

// tells says, by Kind, what an op tells beside its Name: o is Other, a At, s a Value that is a size, v a Value that is written, e Epoch.
var tells = []string{1: "s", 2: "ave", 3: "ae", 4: "o", 5: "o", 6: "e", 7: "se", 8: "", 9: "a"}

var lastKind = int64(len(tells) - 1)

func tellsOf(kind int64, field string) bool {
	return strings.Contains(tells[kind], field)
}

func handOp(o impl.Op) bool {
	if o.Kind < 1 || o.Kind > lastKind || !handName(o.Name) {
		return false
	}
	other, at, value, epoch := o.Other == "", o.At == 0, o.Value == 0, o.Epoch == 0
	if tellsOf(o.Kind, "o") {
		other = handName(o.Other)
	}
	if tellsOf(o.Kind, "a") {
		at = o.At > -1 && o.At < 256
	}
	if tellsOf(o.Kind, "s") {
		value = o.Value > 0 && o.Value < 17
	}
	if tellsOf(o.Kind, "v") {
		value = o.Value > -1 && o.Value < 1000
	}
	if tellsOf(o.Kind, "e") {
		epoch = o.Epoch > -1 && o.Epoch < 1001
	}
	return other && at && value && epoch
}

// handShown puts the bytes one by one; it is of right ops alone.
func handShown(o impl.Op) string {
	shown := []byte{byte(o.Kind), byte(len(o.Name))}
	shown = append(shown, o.Name...)
	shown = append(shown, byte(len(o.Other)))
	shown = append(shown, o.Other...)
	return string(append(shown, byte(o.At), byte(o.Value/256), byte(o.Value%256), byte(o.Epoch/256), byte(o.Epoch%256)))
}

// handReadOp takes the numbers from the end of the text, and believes the two lengths only where they come to the whole of it.
func handReadOp(s string) (impl.Op, bool) {
	if len(s) < 8 || len(s) < 8+int(s[1]) {
		return impl.Op{}, false
	}
	nameEnd := 2 + int(s[1])
	numbers := len(s) - 5
	if nameEnd+1+int(s[nameEnd]) != numbers {
		return impl.Op{}, false
	}
	byteAt := func(at int) int64 { return int64(s[at]) }
	o := impl.Op{
		Kind:  byteAt(0),
		Name:  s[2:nameEnd],
		Other: s[nameEnd+1 : numbers],
		At:    byteAt(numbers),
		Value: byteAt(numbers+1)*256 + byteAt(numbers+2),
		Epoch: byteAt(numbers+3)*256 + byteAt(numbers+4),
	}
	if !handOp(o) {
		return impl.Op{}, false
	}
	return o, true
}

func checkRightOp(t *testing.T, o impl.Op) {
	t.Helper()
	if !impl.OpOk(o) {
		t.Fatalf("OpOk(%v) is false", o)
	}
	if impl.Changes(o) != (o.Kind != 9) {
		t.Fatalf("Changes(%v) is %v", o, o.Kind == 9)
	}
	shown := impl.ShowOp(o)
	if shown != handShown(o) || len(shown) != 8+len(o.Name)+len(o.Other) {
		t.Fatalf("ShowOp(%v) is %q; wanted %q", o, shown, handShown(o))
	}
	read, is := impl.ReadOp(shown)
	if !is || read != o {
		t.Fatalf("ReadOp(%q) is %v, %v; wanted %v", shown, read, is, o)
	}
	if again := impl.ShowOp(read); again != shown {
		t.Fatalf("ShowOp of what ReadOp(%q) tells is %q", shown, again)
	}
}

func checkWrongOp(t *testing.T, o impl.Op) {
	t.Helper()
	if impl.OpOk(o) {
		t.Fatalf("OpOk(%v) is true", o)
	}
	if impl.Changes(o) {
		t.Fatalf("Changes(%v) is true", o)
	}
	if shown := impl.ShowOp(o); shown != "" {
		t.Fatalf("ShowOp(%v) is %q", o, shown)
	}
}

func checkOp(t *testing.T, o impl.Op) {
	t.Helper()
	if handOp(o) {
		checkRightOp(t, o)
	} else {
		checkWrongOp(t, o)
	}
}

// checkReadOp asks with the text in the midst of a longer one, so that what lies around it must not matter.
func checkReadOp(t *testing.T, s string) {
	t.Helper()
	around := "\x01" + s + "\x00\x00\x00"
	given := around[1 : 1+len(s)]
	want, right := handReadOp(s)
	got, is := impl.ReadOp(given)
	if is != right || got != want {
		t.Fatalf("ReadOp(%q) is %v, %v; wanted %v, %v", s, got, is, want, right)
	}
	if is && impl.ShowOp(got) != s {
		t.Fatalf("ReadOp(%q) is %v, of which ShowOp makes %q", s, got, impl.ShowOp(got))
	}
	if sharesMemory(got.Name, around) || sharesMemory(got.Other, around) || sharesMemory(got.Name, got.Other) {
		t.Fatalf("ReadOp(%q): its names share memory", s)
	}
}

// checkNoOp is of texts that are known to be none, whatever handReadOp says.
func checkNoOp(t *testing.T, s string) {
	t.Helper()
	if got, is := impl.ReadOp(s); is || got != (impl.Op{}) {
		t.Fatalf("ReadOp(%q) is %v, %v", s, got, is)
	}
}

// toldValues are right values of a field where the Kind tells it, and zero alone where it does not.
func toldValues(kind int64, field string, right ...int64) []int64 {
	if tellsOf(kind, field) {
		return right
	}
	return []int64{0}
}

func othersOf(kind int64, name string) []string {
	if tellsOf(kind, "o") {
		return []string{name, "q", "abcd", "zz"}
	}
	return []string{""}
}

func valuesOf(kind int64) []int64 {
	if tellsOf(kind, "s") {
		return []int64{1, 2, 9, 15, 16}
	}
	return toldValues(kind, "v", 0, 1, 16, 17, 255, 256, 258, 998, 999)
}

// opsOfKind are right ones, with each field that the Kind tells at several values.
func opsOfKind(kind int64) []impl.Op {
	list := []impl.Op{}
	for _, name := range bookNames {
		for _, other := range othersOf(kind, name) {
			for _, at := range toldValues(kind, "a", 0, 1, 15, 16, 127, 128, 254, 255) {
				for _, value := range valuesOf(kind) {
					for _, epoch := range toldValues(kind, "e", 0, 1, 255, 256, 258, 999, 1000) {
						list = append(list, impl.Op{Kind: kind, Name: name, Other: other, At: at, Value: value, Epoch: epoch})
					}
				}
			}
		}
	}
	return list
}

// typicalOps are three of each Kind: of the first values, of some in the midst, and of the last.
func typicalOps() []impl.Op {
	list := []impl.Op{}
	for kind := int64(1); kind <= lastKind; kind++ {
		ops := opsOfKind(kind)
		list = append(list, ops[0], ops[len(ops)/2+1], ops[len(ops)-1])
	}
	return list
}

// wrongNumbers are out of range in every field, whatever the Kind; some of them have right low bytes.
var wrongNumbers = []int64{math.MinInt64, math.MinInt64 + 1, math.MinInt64 + 5, math.MinInt32, -65535, -1000, -256, -255, -5, -1, 1 << 16, 1<<16 + 5, 1<<32 + 5, 1 << 61, math.MaxInt32, math.MaxUint32, math.MaxInt64 - 4, math.MaxInt64 - 1, math.MaxInt64}

func opsWith(o impl.Op, numbers []int64, put func(*impl.Op, int64)) []impl.Op {
	list := []impl.Op{}
	for _, n := range numbers {
		other := o
		put(&other, n)
		list = append(list, other)
	}
	return list
}

func putKind(o *impl.Op, n int64)  { o.Kind = n }
func putAt(o *impl.Op, n int64)    { o.At = n }
func putValue(o *impl.Op, n int64) { o.Value = n }
func putEpoch(o *impl.Op, n int64) { o.Epoch = n }

// wrongByOneField are this right op, made wrong in one field at a time.
func wrongByOneField(o impl.Op) []impl.Op {
	list := opsWith(o, append([]int64{0, 10, 11, 256 + o.Kind}, wrongNumbers...), putKind)
	ats, values, epochs := []int64{256}, []int64{1000}, []int64{1001}
	for _, name := range wrongNames() {
		other := o
		other.Name = name
		list = append(list, other)
		other.Name, other.Other = o.Name, name
		if name != "" || tellsOf(o.Kind, "o") {
			list = append(list, other)
		}
	}
	if !tellsOf(o.Kind, "o") {
		for _, name := range append([]string{o.Name}, bookNames...) {
			other := o
			other.Other = name
			list = append(list, other)
		}
	}
	if !tellsOf(o.Kind, "a") {
		ats = append(ats, 1, 3, 255)
	}
	if tellsOf(o.Kind, "s") {
		values = append(values, 0, 17, 999)
	} else if !tellsOf(o.Kind, "v") {
		values = append(values, 1, 16, 256, 999)
	}
	if !tellsOf(o.Kind, "e") {
		epochs = append(epochs, 1, 256, 1000)
	}
	return slices.Concat(list,
		opsWith(o, append(ats, wrongNumbers...), putAt),
		opsWith(o, append(values, wrongNumbers...), putValue),
		opsWith(o, append(epochs, wrongNumbers...), putEpoch))
}

func TestKindsOfOps(t *testing.T) {
	kinds := []int64{impl.OpMake, impl.OpWrite, impl.OpTrim, impl.OpSnap, impl.OpClone, impl.OpDelete, impl.OpResize, impl.OpAttach, impl.OpRead}
	if !slices.Equal(kinds, []int64{1, 2, 3, 4, 5, 6, 7, 8, 9}) {
		t.Fatal(kinds)
	}
}

func TestOpsWorkedByHand(t *testing.T) {
	for _, c := range []struct {
		o       impl.Op
		shown   string
		changes bool
	}{
		{impl.Op{Kind: impl.OpMake, Name: "a", Value: 16}, "\x01\x01a\x00\x00\x00\x10\x00\x00", true},
		{impl.Op{Kind: impl.OpWrite, Name: "abcd", At: 255, Value: 999, Epoch: 1000}, "\x02\x04abcd\x00\xff\x03\xe7\x03\xe8", true},
		{impl.Op{Kind: impl.OpWrite, Name: "z"}, "\x02\x01z\x00\x00\x00\x00\x00\x00", true},
		{impl.Op{Kind: impl.OpTrim, Name: "zz", At: 3, Epoch: 258}, "\x03\x02zz\x00\x03\x00\x00\x01\x02", true},
		{impl.Op{Kind: impl.OpSnap, Name: "ab", Other: "xyz"}, "\x04\x02ab\x03xyz\x00\x00\x00\x00\x00", true},
		{impl.Op{Kind: impl.OpClone, Name: "abc", Other: "abc"}, "\x05\x03abc\x03abc\x00\x00\x00\x00\x00", true},
		{impl.Op{Kind: impl.OpDelete, Name: "q", Epoch: 1}, "\x06\x01q\x00\x00\x00\x00\x00\x01", true},
		{impl.Op{Kind: impl.OpResize, Name: "q", Value: 1, Epoch: 256}, "\x07\x01q\x00\x00\x00\x01\x01\x00", true},
		{impl.Op{Kind: impl.OpAttach, Name: "wxyz"}, "\x08\x04wxyz\x00\x00\x00\x00\x00\x00", true},
		{impl.Op{Kind: impl.OpRead, Name: "m", At: 128}, "\x09\x01m\x00\x80\x00\x00\x00\x00", false},
	} {
		if !impl.OpOk(c.o) || impl.Changes(c.o) != c.changes {
			t.Errorf("%v: OpOk is %v, Changes %v", c.o, impl.OpOk(c.o), impl.Changes(c.o))
		}
		if shown := impl.ShowOp(c.o); shown != c.shown {
			t.Errorf("ShowOp(%v) is %q; wanted %q", c.o, shown, c.shown)
		}
		if read, is := impl.ReadOp(c.shown); !is || read != c.o {
			t.Errorf("ReadOp(%q) is %v, %v; wanted %v", c.shown, read, is, c.o)
		}
	}
}

func TestRightOpsOfEachKind(t *testing.T) {
	for kind := int64(1); kind <= lastKind; kind++ {
		for _, o := range opsOfKind(kind) {
			checkRightOp(t, o)
			checkReadOp(t, handShown(o))
		}
	}
}

// Every Kind, At, Value and Epoch near the limits of any field, each by itself.
func TestAllNumbersOfOps(t *testing.T) {
	numbers := []int64{}
	for n := int64(-2); n <= 1100; n++ {
		numbers = append(numbers, n)
	}
	for _, o := range typicalOps() {
		for _, put := range []func(*impl.Op, int64){putKind, putAt, putValue, putEpoch} {
			for _, other := range opsWith(o, numbers, put) {
				checkOp(t, other)
			}
		}
	}
}

func TestOpsThatDifferInOneFieldAreShownByTwoTexts(t *testing.T) {
	shownBy := map[string]impl.Op{}
	for kind := int64(1); kind <= lastKind; kind++ {
		for _, o := range opsOfKind(kind) {
			shown := impl.ShowOp(o)
			if first, is := shownBy[shown]; is && first != o {
				t.Fatalf("%v and %v are both shown by %q", first, o, shown)
			}
			shownBy[shown] = o
		}
	}
	for _, pair := range [][2]impl.Op{
		{{Kind: impl.OpTrim, Name: "ab", At: 3, Epoch: 2}, {Kind: impl.OpTrim, Name: "ab", At: 2, Epoch: 3}},
		{{Kind: impl.OpTrim, Name: "ab", At: 3}, {Kind: impl.OpRead, Name: "ab", At: 3}},
		{{Kind: impl.OpSnap, Name: "ab", Other: "a"}, {Kind: impl.OpClone, Name: "ab", Other: "a"}},
		{{Kind: impl.OpSnap, Name: "ab", Other: "a"}, {Kind: impl.OpSnap, Name: "a", Other: "ab"}},
		{{Kind: impl.OpSnap, Name: "ab", Other: "c"}, {Kind: impl.OpSnap, Name: "a", Other: "bc"}},
		{{Kind: impl.OpMake, Name: "ab", Value: 1}, {Kind: impl.OpResize, Name: "ab", Value: 1}},
		{{Kind: impl.OpDelete, Name: "ab"}, {Kind: impl.OpAttach, Name: "ab"}},
	} {
		if impl.ShowOp(pair[0]) == impl.ShowOp(pair[1]) {
			t.Errorf("%v and %v are both shown by %q", pair[0], pair[1], impl.ShowOp(pair[0]))
		}
	}
}

func TestEdgesOfOps(t *testing.T) {
	type edge struct {
		o     impl.Op
		right bool
	}
	edges := []edge{}
	put := func(o impl.Op, field func(*impl.Op, int64), low int64, high int64) {
		for _, n := range []int64{low - 1, low, high, high + 1} {
			field(&o, n)
			edges = append(edges, edge{o, n >= low && n <= high})
		}
	}
	for _, kind := range []int64{impl.OpWrite, impl.OpTrim, impl.OpRead} {
		put(impl.Op{Kind: kind, Name: "ab"}, putAt, 0, 255)
	}
	for _, kind := range []int64{impl.OpMake, impl.OpResize} {
		put(impl.Op{Kind: kind, Name: "ab"}, putValue, 1, 16)
	}
	put(impl.Op{Kind: impl.OpWrite, Name: "ab"}, putValue, 0, 999)
	for _, kind := range []int64{impl.OpWrite, impl.OpTrim, impl.OpDelete} {
		put(impl.Op{Kind: kind, Name: "ab"}, putEpoch, 0, 1000)
	}
	put(impl.Op{Kind: impl.OpResize, Name: "ab", Value: 5}, putEpoch, 0, 1000)
	edges = append(edges,
		edge{impl.Op{Kind: 0, Name: "ab"}, false},
		edge{impl.Op{Kind: 1, Name: "ab", Value: 1}, true},
		edge{impl.Op{Kind: 9, Name: "ab"}, true},
		edge{impl.Op{Kind: 10, Name: "ab"}, false})
	for _, e := range edges {
		if got := impl.OpOk(e.o); got != e.right {
			t.Errorf("OpOk(%v) is %v", e.o, got)
		}
		checkOp(t, e.o)
	}
}

func TestNamesOfOps(t *testing.T) {
	for name, right := range map[string]bool{"": false, "a": true, "z": true, "zzzz": true, "abcd": true, "abcde": false, "`": false, "{": false, "ab`": false, "{bc": false, "abc{": false} {
		for _, o := range typicalOps() {
			o.Name = name
			if impl.OpOk(o) != right {
				t.Errorf("OpOk(%v) is %v", o, !right)
			}
			checkOp(t, o)
			if tellsOf(o.Kind, "o") {
				o.Name, o.Other = "ab", name
				if impl.OpOk(o) != right {
					t.Errorf("OpOk(%v) is %v", o, !right)
				}
				checkOp(t, o)
			}
		}
	}
}

func TestSnapsAndClonesWantAnother(t *testing.T) {
	for _, kind := range []int64{impl.OpSnap, impl.OpClone} {
		for _, name := range bookNames {
			checkRightOp(t, impl.Op{Kind: kind, Name: name, Other: name})
			checkWrongOp(t, impl.Op{Kind: kind, Name: name})
			checkWrongOp(t, impl.Op{Kind: kind, Other: name})
			for _, other := range wrongNames() {
				checkWrongOp(t, impl.Op{Kind: kind, Name: name, Other: other})
			}
		}
	}
}

func TestOpsWrongInOneField(t *testing.T) {
	for _, o := range typicalOps() {
		checkRightOp(t, o)
		for _, wrong := range wrongByOneField(o) {
			checkWrongOp(t, wrong)
		}
	}
	checkWrongOp(t, impl.Op{})
}

func goesIntoBytes(o impl.Op) bool {
	for _, n := range []int64{o.Kind, o.At, int64(len(o.Name)), int64(len(o.Other))} {
		if n < 0 || n > greatest[1] {
			return false
		}
	}
	return o.Value >= 0 && o.Value <= greatest[2] && o.Epoch >= 0 && o.Epoch <= greatest[2]
}

// Bytes that say a wrong op as a right one would be said must not be read either.
func TestWrongOpsInBytes(t *testing.T) {
	tried := 0
	for _, o := range typicalOps() {
		for _, wrong := range wrongByOneField(o) {
			if goesIntoBytes(wrong) {
				tried++
				checkNoOp(t, handShown(wrong))
				checkReadOp(t, handShown(wrong))
			}
		}
	}
	if tried < 1000 {
		t.Fatalf("only %d were tried", tried)
	}
}

func TestCutTextsAreNoOps(t *testing.T) {
	for _, o := range typicalOps() {
		s := handShown(o)
		for i := range len(s) {
			checkNoOp(t, s[:i])
			checkReadOp(t, s[:i])
			checkReadOp(t, s[i+1:])
			checkReadOp(t, s[:i]+s[i+1:])
		}
	}
}

func TestOneByteMore(t *testing.T) {
	for _, o := range typicalOps() {
		s := handShown(o)
		for b := range 256 {
			more := string([]byte{byte(b)})
			checkNoOp(t, s+more)
			for i := range len(s) {
				checkReadOp(t, s[:i]+more+s[i:])
			}
		}
		checkNoOp(t, s+s)
		checkNoOp(t, s+strings.Repeat("\x00", 1000))
	}
}

func TestOneByteTurned(t *testing.T) {
	rights := 0
	for _, o := range typicalOps() {
		s := handShown(o)
		for i := range len(s) {
			for b := range 256 {
				turned := []byte(s)
				turned[i] = byte(b)
				checkReadOp(t, string(turned))
				read, is := impl.ReadOp(string(turned))
				if is && (read == o) != (string(turned) == s) {
					t.Fatalf("ReadOp(%q) is %v, as of %q", turned, read, s)
				}
				rights += int(asNumber(is))
			}
		}
	}
	if rights < 1000 {
		t.Fatalf("only %d of the texts were right", rights)
	}
}

// The lengths say more or less than is there; with a length that is right for the letters, the letters are no name.
func TestLengthsOfNames(t *testing.T) {
	for kind := range 11 {
		for length := range 256 {
			for _, letters := range []int{0, 1, 4, 5, 255, 256} {
				name := string([]byte{byte(length)}) + strings.Repeat("a", letters)
				for _, other := range []string{"\x00", "\x01b", "\x04bcde"} {
					for _, end := range []string{"", "\x00\x00\x00\x00\x00", "\x00\x00\x01\x00\x00"} {
						begin := string([]byte{byte(kind)})
						checkReadOp(t, begin+name+other+end)
						checkReadOp(t, begin+other+name+end)
					}
				}
			}
		}
	}
	for _, s := range []string{
		"\x01\x00\x00\x00\x00\x01\x00\x00",
		"\x01\x05abcde\x00\x00\x00\x01\x00\x00",
		"\x01\xffab\x00\x00\x00\x01\x00\x00",
		"\x04\x01a\x00\x00\x00\x00\x00\x00",
		"\x04\x01a\x05abcde\x00\x00\x00\x00\x00",
		"\x04\x01a\xffb\x00\x00\x00\x00\x00",
		"\x04\x01a\x06b\x00\x00\x00\x00\x00",
		"\x04\x01a\x07b\x00\x00\x00\x00\x00",
		"\x08\x07a\x00\x00\x00\x00\x00\x00",
		"\x08\x08a\x00\x00\x00\x00\x00\x00",
		"\x01\xff" + strings.Repeat("a", 255) + "\x00\x00\x00\x01\x00\x00",
	} {
		checkNoOp(t, s)
	}
}

func TestTextsOfEveryByte(t *testing.T) {
	checkNoOp(t, "")
	for a := range 256 {
		one := string([]byte{byte(a)})
		for _, length := range []int{1, 2, 7, 8, 9, 10, 16, 17, 255, 256, 300, 1000} {
			checkNoOp(t, strings.Repeat(one, length))
			checkReadOp(t, strings.Repeat(one, length))
		}
		checkReadOp(t, one+"\x01a\x00\x00\x00\x01\x00\x00")
		checkReadOp(t, one+"\x01a\x01b\x00\x00\x00\x00\x00")
		for b := range 256 {
			checkNoOp(t, string([]byte{byte(a), byte(b)}))
		}
	}
	checkNoOp(t, strings.Repeat("none is lost\n", 8000))
	checkNoOp(t, strings.Repeat("\x09\x01a\x00\x00\x00\x00\x00\x00", 3))
	checkNoOp(t, "\x09\x01a\x00\x00\x00\x00\x00\x00"+strings.Repeat("\x00", 1<<20))
}

func TestOpsAreNewMemory(t *testing.T) {
	for _, o := range typicalOps() {
		o.Name, o.Other = strings.Clone(o.Name), strings.Clone(o.Other)
		first, second := impl.ShowOp(o), impl.ShowOp(o)
		if sharesMemory(first, o.Name) || sharesMemory(first, o.Other) || sharesMemory(first, second) {
			t.Errorf("ShowOp(%v) shares memory", o)
		}
		a, _ := impl.ReadOp(first)
		b, _ := impl.ReadOp(first)
		for _, name := range []string{a.Name, a.Other} {
			if sharesMemory(name, first) || sharesMemory(name, b.Name) || sharesMemory(name, b.Other) {
				t.Errorf("ReadOp(%q) shares memory", first)
			}
		}
	}
}

// Ops and texts without any order, but the same in each run, mostly near to right ones.
func TestOpsAnswerAtEveryArgument(t *testing.T) {
	next := picked(7)
	typical := typicalOps()
	names := slices.Concat(bookNames, wrongNames())
	numbers := slices.Concat(extremes, farNumbers, wrongNumbers, []int64{10, 16, 17, 999, 1000, 1001})
	rights := 0
	for range 20000 {
		o := pickOf(next, typical)
		for range next(3) {
			switch next(6) {
			case 0:
				o.Kind = pickOf(next, numbers)
			case 1:
				o.Name = pickOf(next, names)
			case 2:
				o.Other = pickOf(next, names)
			case 3:
				o.At = pickOf(next, numbers)
			case 4:
				o.Value = pickOf(next, numbers)
			case 5:
				o.Epoch = pickOf(next, numbers)
			}
		}
		checkOp(t, o)
		rights += int(asNumber(handOp(o)))
		s := []byte(handShown(pickOf(next, typical)))
		for range next(4) {
			s[next(int64(len(s)))] = byte(next(256))
		}
		checkReadOp(t, string(s))
	}
	if rights < 5000 || rights > 18000 {
		t.Fatalf("%d ops of 20000 were right", rights)
	}
}
