package tests

import (
	"math"
	"math/big"
	"strings"
	"testing"

	"loop.example/g00372/impl"
)

// greatest holds, by width, the greatest number that goes into so many bytes.
var greatest = [5]int64{0, 255, 65535, 16777215, 4294967295}

// extremes are the arguments at which a careless sum or shift would wrap round, and the edges near them.
var extremes = []int64{math.MinInt64, math.MinInt64 + 1, math.MinInt32, -256, -5, -1, 0, 1, 2, 3, 4, 5, 8, 63, 64, 65, 255, 256, math.MaxInt32, math.MaxUint32, 1 << 61, math.MaxInt64 - 4, math.MaxInt64 - 1, math.MaxInt64}

func numbersOfWidth(width int64) []int64 {
	top := greatest[width]
	list := []int64{0, 1, 2, 127, 128, 165, 254, 255, top / 2, top/2 + 1, top / 3, top - 1, top}
	for n := int64(1); n <= top; n = n*7 + 3 {
		list = append(list, n)
	}
	for low := int64(1); low < width; low++ {
		list = append(list, greatest[low], greatest[low]+1)
	}
	return list
}

func checkReadBack(t *testing.T, n int64, width int64) {
	t.Helper()
	shown := impl.ShowNumber(n, width)
	if int64(len(shown)) != width {
		t.Fatalf("ShowNumber(%d, %d) is %q", n, width, shown)
	}
	rounds := []struct{ ahead, behind string }{{"", ""}, {"", "xyz"}, {"ab\xff", "\xffcd"}, {"abcde", ""}}
	for _, r := range rounds {
		s := r.ahead + shown + r.behind
		got, is := impl.ReadNumber(s, int64(len(r.ahead)), width)
		if !is || got != n {
			t.Fatalf("ReadNumber(%q, %d, %d) is %d, %v; wanted %d", s, len(r.ahead), width, got, is, n)
		}
	}
}

func TestNumbersAreReadBack(t *testing.T) {
	for width := int64(1); width <= 4; width++ {
		for _, n := range numbersOfWidth(width) {
			checkReadBack(t, n, width)
		}
	}
}

func TestAllShortNumbersAreReadBack(t *testing.T) {
	for width := int64(1); width <= 2; width++ {
		for n := int64(0); n <= greatest[width]; n++ {
			checkReadBack(t, n, width)
		}
	}
}

func TestHighestByteComesFirst(t *testing.T) {
	cases := []struct {
		n, width int64
		want     string
	}{
		{0, 1, "\x00"}, {0, 2, "\x00\x00"}, {0, 3, "\x00\x00\x00"}, {0, 4, "\x00\x00\x00\x00"},
		{1, 1, "\x01"}, {165, 1, "\xa5"}, {255, 1, "\xff"},
		{1, 2, "\x00\x01"}, {258, 2, "\x01\x02"}, {65280, 2, "\xff\x00"}, {65535, 2, "\xff\xff"},
		{66051, 3, "\x01\x02\x03"}, {65536, 3, "\x01\x00\x00"}, {16777215, 3, "\xff\xff\xff"},
		{16909060, 4, "\x01\x02\x03\x04"}, {16777216, 4, "\x01\x00\x00\x00"}, {2147483648, 4, "\x80\x00\x00\x00"}, {4294967295, 4, "\xff\xff\xff\xff"},
	}
	for _, c := range cases {
		if got := impl.ShowNumber(c.n, c.width); got != c.want {
			t.Errorf("ShowNumber(%d, %d) is %q; wanted %q", c.n, c.width, got, c.want)
		}
		if got, is := impl.ReadNumber(c.want, 0, c.width); !is || got != c.n {
			t.Errorf("ReadNumber(%q, 0, %d) is %d, %v; wanted %d", c.want, c.width, got, is, c.n)
		}
	}
}

func TestNumbersThatDoNotGoInAreNotShown(t *testing.T) {
	for width := int64(1); width <= 4; width++ {
		top := greatest[width]
		for _, n := range []int64{top + 1, top + 2, 2 * (top + 1), 1 << 32, 1<<32 + 1, 1 << 40, math.MaxInt64, -1, -2, -top, -top - 1, math.MinInt32, math.MinInt64 + 1, math.MinInt64} {
			if got := impl.ShowNumber(n, width); got != "" {
				t.Errorf("ShowNumber(%d, %d) is %q", n, width, got)
			}
		}
	}
}

func TestWidthsOutOfRange(t *testing.T) {
	text := strings.Repeat("\x00", 16)
	for _, width := range []int64{math.MinInt64, -64, -8, -4, -1, 0, 5, 6, 8, 64, math.MaxInt64} {
		for _, n := range []int64{0, 1, 255, 256, -1, math.MaxInt64, math.MinInt64} {
			if got := impl.ShowNumber(n, width); got != "" {
				t.Errorf("ShowNumber(%d, %d) is %q", n, width, got)
			}
		}
		for _, at := range []int64{0, 1, 8, 15, 16} {
			if got, is := impl.ReadNumber(text, at, width); is || got != 0 {
				t.Errorf("ReadNumber at %d of width %d is %d, %v", at, width, got, is)
			}
		}
	}
}

func TestLastPlaceThatIsThere(t *testing.T) {
	want := [5]int64{0, 9, 2057, 460809, 101124105}
	for width := int64(1); width <= 4; width++ {
		for length := width; length <= 9; length++ {
			text := "\x01\x02\x03\x04\x05\x06\x07\x08\x09"[9-length:]
			last := length - width
			if got, is := impl.ReadNumber(text, last, width); !is || got != want[width] {
				t.Errorf("ReadNumber(%q, %d, %d) is %d, %v; wanted %d", text, last, width, got, is, want[width])
			}
			if got, is := impl.ReadNumber(text, last+1, width); is || got != 0 {
				t.Errorf("ReadNumber(%q, %d, %d) is %d, %v", text, last+1, width, got, is)
			}
		}
	}
}

func TestBytesThatAreNotThere(t *testing.T) {
	for width := int64(1); width <= 4; width++ {
		for length := int64(0); length <= 6; length++ {
			text := strings.Repeat("\x07", int(length))
			places := []int64{math.MinInt64, math.MinInt64 + 4, -length - 1, -width, -2, -1, length, length + 1, length + width, 1 << 32, math.MaxInt64 - width, math.MaxInt64 - 1, math.MaxInt64}
			for at := max(0, length-width+1); at < length; at++ {
				places = append(places, at)
			}
			for _, at := range places {
				if got, is := impl.ReadNumber(text, at, width); is || got != 0 {
					t.Errorf("ReadNumber(%q, %d, %d) is %d, %v", text, at, width, got, is)
				}
			}
		}
	}
}

// sumByPowers works the sum out as a polynomial over whole numbers, with one division at the end.
func sumByPowers(s string) int64 {
	factor, total, power := big.NewInt(131), big.NewInt(0), big.NewInt(1)
	for i := len(s) - 1; i >= 0; i-- {
		total.Add(total, new(big.Int).Mul(power, big.NewInt(int64(s[i])+1)))
		power.Mul(power, factor)
	}
	total.Add(total, power.Mul(power, big.NewInt(7)))
	return total.Mod(total, big.NewInt(65521)).Int64()
}

func TestSumsWorkedByHand(t *testing.T) {
	cases := []struct {
		s    string
		want int64
	}{{"", 7}, {"a", 1015}, {"\x00", 918}, {"\xff", 1173}, {"ab", 2022}, {"\x00\x00", 54738}, {"\xff\xff", 22877}}
	for _, c := range cases {
		if got := impl.Sum(c.s); got != c.want {
			t.Errorf("Sum(%q) is %d; wanted %d", c.s, got, c.want)
		}
	}
}

func TestSumsByPowers(t *testing.T) {
	texts := []string{"", "hand to hand", "ba", "abc", "acb", "\xe9\x80\xa5", strings.Repeat("\x00", 300), strings.Repeat("\xff", 1000), strings.Repeat("none is lost\n", 80)}
	for a := 0; a < 256; a++ {
		texts = append(texts, string([]byte{byte(a)}))
		for b := 0; b < 256; b++ {
			texts = append(texts, string([]byte{byte(a), byte(b)}))
		}
	}
	for _, s := range texts {
		if got, want := impl.Sum(s), sumByPowers(s); got != want {
			t.Fatalf("Sum(%q) is %d; wanted %d", s, got, want)
		}
	}
}

func TestNames(t *testing.T) {
	for _, s := range []string{"a", "z", "m", "ab", "zz", "abc", "xyz", "abcd", "zzzz", "aaaa"} {
		if !impl.NameOk(s) {
			t.Errorf("%q is a name", s)
		}
	}
	for _, s := range []string{"", "abcde", "zzzzz", "abcdefgh", strings.Repeat("a", 256), strings.Repeat("a", 260), "A", "abcD", "a b", " ab", "ab ", "ab\n", "a1", "é", "aé", "\x00", "abc\x00", "`", "{", "a-b", "\xff"} {
		if impl.NameOk(s) {
			t.Errorf("%q is no name", s)
		}
	}
}

func TestEachByteAtEachPlaceOfAName(t *testing.T) {
	for length := 1; length <= 4; length++ {
		for at := range length {
			for b := range 256 {
				name := []byte("kmpq")[:length]
				name[at] = byte(b)
				want := strings.IndexByte("abcdefghijklmnopqrstuvwxyz", byte(b)) >= 0
				if got := impl.NameOk(string(name)); got != want {
					t.Errorf("NameOk(%q) is %v", name, got)
				}
			}
		}
	}
}

// A panic would end the test; what is answered beside false must be zero, and what is answered beside true must show as the bytes that were read.
func TestBytesAnswerAtEveryArgument(t *testing.T) {
	texts := []string{"", "a", "\x00\x00\x00\x00", "\xff\xff\xff\xff\xff", strings.Repeat("\xa5", 300)}
	for _, a := range extremes {
		for _, b := range extremes {
			if shown := impl.ShowNumber(a, b); shown != "" {
				if n, is := impl.ReadNumber(shown, 0, b); !is || n != a {
					t.Errorf("%d of width %d is read back as %d, %v", a, b, n, is)
				}
			}
			for _, s := range texts {
				n, is := impl.ReadNumber(s, a, b)
				if !is && n != 0 {
					t.Errorf("ReadNumber(%q, %d, %d) is %d and false", s, a, b, n)
				}
				if is && impl.ShowNumber(n, b) != s[a:a+b] {
					t.Errorf("ReadNumber(%q, %d, %d) is %d", s, a, b, n)
				}
			}
		}
	}
}
