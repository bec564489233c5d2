package tests

import (
	"math"
	"slices"
	"strings"
	"testing"
	"unsafe"

	"loop.example/g00372/impl"
)

// handFramed builds a frame without the program: the sum by powers, each byte by itself.
func handFramed(s string) string {
	sum := sumByPowers(string([]byte{byte(len(s))}) + s)
	return "\xa5" + string([]byte{byte(len(s))}) + s + string([]byte{byte(sum / 256), byte(sum % 256)})
}

// handFrameAt tries all lengths that a text may have, rather than reading the length byte.
func handFrameAt(s string, at int64) (string, int64) {
	if at < 0 || at > int64(len(s)) {
		return "", -1
	}
	rest := s[at:]
	if rest == "" || rest == "\xa5" {
		return "", -2
	}
	for length := range 61 {
		head := "\xa5" + string([]byte{byte(length)})
		if !strings.HasPrefix(rest, head) {
			continue
		}
		if len(rest) < 2+length {
			return "", -2
		}
		text := rest[2 : 2+length]
		whole := handFramed(text)
		if strings.HasPrefix(rest, whole) {
			return text, at + int64(len(whole))
		}
		if strings.HasPrefix(whole, rest) {
			return "", -2
		}
	}
	return "", -1
}

func checkFrameAt(t *testing.T, s string, at int64, text string, behind int64) {
	t.Helper()
	if got, end := impl.FrameAt(s, at); got != text || end != behind {
		t.Fatalf("FrameAt(%q, %d) is %q, %d; wanted %q, %d", s, at, got, end, text, behind)
	}
}

func checkFrames(t *testing.T, s string, texts []string, taken int64) {
	t.Helper()
	if got, n := impl.Frames(s); !slices.Equal(got, texts) || n != taken {
		t.Fatalf("Frames(%q) is %q, %d; wanted %q, %d", s, got, n, texts, taken)
	}
}

// frameTexts are texts that go into a frame: ordinary ones, the shortest and the longest, and such as look like frames themselves.
func frameTexts() []string {
	list := []string{"hi", "hand to hand", "none is lost\n", "\xa5", "\xa5\x00", "\xa5\xa5\xa5", "\x00", "\xff\xff", "é", handFramed(""), handFramed("in it")}
	for length := 0; length <= 60; length++ {
		list = append(list, strings.Repeat("q", length), strings.Repeat("\xff", length), strings.Repeat("\x00", length))
	}
	return list
}

func TestFramesWorkedByHand(t *testing.T) {
	// Of "": 7*131 + 0 + 1 is 918. Of "a": 7*131 + 1 + 1 is 919, and 919*131 + 97 + 1 is 120487, less 65521 is 54966.
	cases := []struct{ text, want string }{
		{"", "\xa5\x00\x03\x96"},
		{"a", "\xa5\x01a\xd6\xb6"},
		{"hi", "\xa5\x02hi\x2c\x9c"},
	}
	for _, c := range cases {
		if got := impl.Framed(c.text); got != c.want {
			t.Errorf("Framed(%q) is %q; wanted %q", c.text, got, c.want)
		}
		checkFrameAt(t, c.want, 0, c.text, int64(len(c.want)))
		checkFrames(t, c.want, []string{c.text}, int64(len(c.want)))
	}
}

func TestFramedOfManyTexts(t *testing.T) {
	for _, text := range frameTexts() {
		if got, want := impl.Framed(text), handFramed(text); got != want {
			t.Fatalf("Framed(%q) is %q; wanted %q", text, got, want)
		}
	}
}

func TestTextsTooLongAreNotFramed(t *testing.T) {
	if got := impl.Framed(strings.Repeat("q", 60)); len(got) != 64 {
		t.Errorf("Framed of 60 bytes is %q", got)
	}
	for _, length := range []int{61, 62, 64, 255, 256, 257, 316, 317, 1000, 65536} {
		if got := impl.Framed(strings.Repeat("q", length)); got != "" {
			t.Errorf("Framed of %d bytes is %q", length, got)
		}
	}
}

func TestFrameAtAmongSeveral(t *testing.T) {
	for _, text := range frameTexts() {
		frame := handFramed(text)
		for _, ahead := range []string{"", "x", "\xa5", handFramed("ahead"), "\xff" + handFramed("")} {
			for _, behind := range []string{"", "x", "\xa5", handFramed("behind"), "\x00\x00\x00"} {
				at := int64(len(ahead))
				checkFrameAt(t, ahead+frame+behind, at, text, at+int64(len(frame)))
			}
		}
	}
}

func TestFrameAtEachPlace(t *testing.T) {
	s := "x" + handFramed("hi") + handFramed("") + "\xa5" + handFramed(handFramed("in")) + "yz" + handFramed(strings.Repeat("q", 60))
	for at := int64(-2); at <= int64(len(s))+2; at++ {
		text, behind := handFrameAt(s, at)
		checkFrameAt(t, s, at, text, behind)
	}
}

func TestFramesOneBehindTheOther(t *testing.T) {
	checkFrames(t, "", nil, 0)
	all, joined := []string{}, ""
	for _, text := range frameTexts() {
		all, joined = append(all, text), joined+handFramed(text)
		checkFrames(t, joined, all, int64(len(joined)))
		checkFrames(t, handFramed(text)+handFramed(text), []string{text, text}, int64(2*len(handFramed(text))))
	}
}

func TestFramesEndWhereNoneStands(t *testing.T) {
	turned := handFramed("turned")
	turned = turned[:len(turned)-1] + string([]byte{turned[len(turned)-1] ^ 1})
	ends := []string{"x", "\x00", "\xa4", "\xa5", "\xa5\x05ab", "\xa5\x3d", "\xa5\xff", "hi", turned, handFramed("cut")[:6], "\xa5" + handFramed("late"), "x" + handFramed("late"), turned + handFramed("late")}
	lists := [][]string{{}, {""}, {"hi"}, {"hi", "", strings.Repeat("q", 60)}, {"\xa5", "hi", "hi"}}
	for _, texts := range lists {
		joined := ""
		for _, text := range texts {
			joined += handFramed(text)
		}
		for _, end := range ends {
			checkFrames(t, joined+end, texts, int64(len(joined)))
		}
	}
}

func TestFramesCutAtEachByte(t *testing.T) {
	for _, text := range frameTexts() {
		frame := handFramed(text)
		for cut := range len(frame) {
			checkFrameAt(t, frame[:cut], 0, "", impl.FrMore)
			checkFrameAt(t, "xy"+frame[:cut], 2, "", impl.FrMore)
			checkFrames(t, frame[:cut], nil, 0)
			checkFrames(t, handFramed("hi")+frame[:cut], []string{"hi"}, 6)
		}
	}
}

func TestFirstByteThatBeginsNoFrame(t *testing.T) {
	frame := handFramed("hi")
	for b := range 256 {
		first := string([]byte{byte(b)})
		want := int64(impl.FrBad)
		if b == 165 {
			want = impl.FrMore
		}
		checkFrameAt(t, first, 0, "", want)
		if b != 165 {
			checkFrameAt(t, first+frame[1:], 0, "", impl.FrBad)
			checkFrames(t, first+frame[1:]+frame, nil, 0)
		}
	}
}

func TestLengthBytes(t *testing.T) {
	for b := range 256 {
		head := "\xa5" + string([]byte{byte(b)})
		want := int64(impl.FrBad)
		if b <= 60 {
			want = impl.FrMore
		}
		checkFrameAt(t, head, 0, "", want)
		checkFrameAt(t, "x"+head, 1, "", want)
	}
	// A frame of 61 bytes with all else right about it is none, however long it is.
	long := handFramed(strings.Repeat("q", 61))
	for cut := 2; cut <= len(long); cut++ {
		checkFrameAt(t, long[:cut], 0, "", impl.FrBad)
	}
	checkFrames(t, handFramed("hi")+long, []string{"hi"}, 6)
}

// The first byte of the sum alone may show that there is no frame, whatever follows.
func TestFirstByteOfTheSum(t *testing.T) {
	for _, text := range frameTexts() {
		frame := handFramed(text)
		begun, first := frame[:len(frame)-2], frame[len(frame)-2]
		for b := range 256 {
			want := int64(impl.FrBad)
			if byte(b) == first {
				want = impl.FrMore
			}
			checkFrameAt(t, begun+string([]byte{byte(b)}), 0, "", want)
		}
	}
}

func TestOneSumAlone(t *testing.T) {
	for _, text := range []string{"", "hi", strings.Repeat("q", 60)} {
		frame := handFramed(text)
		begun, sum := frame[:len(frame)-2], frame[len(frame)-2:]
		for n := range 65536 {
			other := string([]byte{byte(n / 256), byte(n % 256)})
			if other == sum {
				continue
			}
			checkFrameAt(t, begun+other, 0, "", impl.FrBad)
			if taken, bytes := impl.Frames(begun + other + frame); len(taken) != 0 || bytes != 0 {
				t.Fatalf("with the sum %q Frames is %q, %d", other, taken, bytes)
			}
		}
	}
}

func TestEachByteTurned(t *testing.T) {
	for _, text := range []string{"", "a", "hi", "hand to hand", handFramed("in it"), strings.Repeat("q", 59), strings.Repeat("q", 60)} {
		frame := handFramed(text)
		for at := range len(frame) {
			for turn := 1; turn < 256; turn++ {
				bytes := []byte(frame)
				bytes[at] ^= byte(turn)
				turned := string(bytes)
				want, end := handFrameAt(turned, 0)
				checkFrameAt(t, turned, 0, want, end)
				// A length byte that is turned may ask for more; all else makes it none.
				if at != 1 {
					checkFrameAt(t, turned, 0, "", impl.FrBad)
					checkFrames(t, frame+turned+frame, []string{text}, int64(len(frame)))
				}
			}
		}
	}
}

func TestFrameAtOutOfRange(t *testing.T) {
	for _, s := range []string{"", "x", "\xa5", handFramed(""), handFramed("hi") + handFramed("hi"), strings.Repeat(handFramed("q"), 20)} {
		end := int64(len(s))
		checkFrameAt(t, s, end, "", impl.FrMore)
		for _, at := range []int64{end + 1, end + 2, 1000, math.MaxInt32, 1 << 32, math.MaxInt64 - 1, math.MaxInt64, -1, -2, -end - 1, math.MinInt32, -1 << 32, math.MinInt64 + 1, math.MinInt64} {
			checkFrameAt(t, s, at, "", impl.FrBad)
		}
	}
}

func sharesMemory(a string, b string) bool {
	if a == "" || b == "" {
		return false
	}
	aFrom, bFrom := uintptr(unsafe.Pointer(unsafe.StringData(a))), uintptr(unsafe.Pointer(unsafe.StringData(b)))
	return aFrom < bFrom+uintptr(len(b)) && bFrom < aFrom+uintptr(len(a))
}

func TestFramesAreNewMemory(t *testing.T) {
	s := handFramed("hand to hand") + handFramed("none is lost")
	if text, _ := impl.FrameAt(s, 0); sharesMemory(text, s) {
		t.Error("what FrameAt tells shares memory with its argument")
	}
	texts, _ := impl.Frames(s)
	for _, text := range texts {
		if sharesMemory(text, s) {
			t.Error("what Frames tells shares memory with its argument")
		}
	}
	clear(texts)
	checkFrames(t, s, []string{"hand to hand", "none is lost"}, int64(len(s)))
}

// Bytes without any order, but the same in each run: a small generator picks ones that often look like frames.
func TestFrameAnswersAtEveryArgument(t *testing.T) {
	state := uint32(7)
	next := func(below int) int {
		state = state*1664525 + 1013904223
		return int(state>>16) % below
	}
	pieces := []string{"\xa5", "\xa5\x00", "\xa5\x01", "\xa5\x02hi", "\x2c", "\x9c", "\x03\x96", "\x03", "x", "\xa5\x3c", "\xa5\x3d", handFramed(""), handFramed("hi"), handFramed(strings.Repeat("q", 60))}
	for range 4000 {
		s := ""
		for range next(7) {
			s += pieces[next(len(pieces))]
		}
		for at := int64(-1); at <= int64(len(s))+1; at++ {
			text, behind := handFrameAt(s, at)
			checkFrameAt(t, s, at, text, behind)
		}
		for _, at := range extremes {
			text, behind := handFrameAt(s, at)
			checkFrameAt(t, s, at, text, behind)
		}
		var texts []string
		taken := int64(0)
		for text, behind := handFrameAt(s, 0); behind >= 0; text, behind = handFrameAt(s, behind) {
			texts, taken = append(texts, text), behind
		}
		checkFrames(t, s, texts, taken)
	}
}
