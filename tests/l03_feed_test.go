package tests

import (
	"math"
	"slices"
	"strings"
	"testing"

	"loop.example/g00372/impl"
)

// handFed works a feed out without the program: by frames looked for by hand, over all bytes at once.
func handFed(f impl.Feed, bytes string) (impl.Feed, []string) {
	stream, skipped, texts := f.Rest+bytes, f.Skipped, []string{}
	for {
		text, behind := handFrameAt(stream, 0)
		switch {
		case behind == -2:
			return impl.Feed{Rest: stream, Skipped: skipped}, texts
		case behind == -1:
			stream = stream[1:]
			if skipped < 1000000 {
				skipped++
			}
		default:
			texts, stream = append(texts, text), stream[behind:]
		}
	}
}

func checkFed(t *testing.T, f impl.Feed, bytes string, want impl.Feed, texts []string) {
	t.Helper()
	got, told := impl.Fed(f, bytes)
	if got != want || !slices.Equal(told, texts) {
		t.Fatalf("Fed(%#v, %q) is %#v, %q; wanted %#v, %q", f, bytes, got, told, want, texts)
	}
	if !impl.FeedOk(got) {
		t.Fatalf("Fed(%#v, %q) is %#v, which is not FeedOk", f, bytes, got)
	}
}

func checkFedAll(t *testing.T, f impl.Feed, pieces []string, want impl.Feed, texts []string) {
	t.Helper()
	got, told := impl.FedAll(f, pieces)
	if got != want || !slices.Equal(told, texts) {
		t.Fatalf("FedAll(%#v, %q) is %#v, %q; wanted %#v, %q", f, pieces, got, told, want, texts)
	}
	if !impl.FeedOk(got) {
		t.Fatalf("FedAll(%#v, %q) is %#v, which is not FeedOk", f, pieces, got)
	}
}

// checkPieces feeds piece by piece, by Fed and, as far as FedAll takes so many, by that.
func checkPieces(t *testing.T, f impl.Feed, pieces []string, want impl.Feed, texts []string) {
	t.Helper()
	got, all := f, []string{}
	for _, piece := range pieces {
		next, told := impl.Fed(got, piece)
		got, all = next, append(all, told...)
	}
	if got != want || !slices.Equal(all, texts) {
		t.Fatalf("%#v Fed by each of %q is %#v, %q; wanted %#v, %q", f, pieces, got, all, want, texts)
	}
	if len(pieces) <= 50 {
		checkFedAll(t, f, pieces, want, texts)
	}
}

func cutEach(s string, length int) []string {
	pieces := []string{}
	for ; len(s) > length; s = s[length:] {
		pieces = append(pieces, s[:length])
	}
	return append(pieces, s)
}

// checkHoweverCut: at once, byte by byte, in pieces of some lengths, and cut in two at every place, with no byte between and with an empty piece.
func checkHoweverCut(t *testing.T, f impl.Feed, bytes string) {
	t.Helper()
	want, texts := handFed(f, bytes)
	checkFed(t, f, bytes, want, texts)
	for _, length := range []int{1, 2, 3, 7, 63, 64, 65} {
		checkPieces(t, f, cutEach(bytes, length), want, texts)
	}
	for cut := range len(bytes) + 1 {
		checkPieces(t, f, []string{bytes[:cut], bytes[cut:]}, want, texts)
		checkPieces(t, f, []string{"", bytes[:cut], "", bytes[cut:], ""}, want, texts)
	}
}

// fedStreams hold no frame, one and several, with bytes ahead, between and behind that begin none, that might, and that a cut makes look as if they did.
func fedStreams() []string {
	hi, none, long := handFramed("hi"), handFramed(""), handFramed(strings.Repeat("q", 60))
	turned := hi[:5] + "\x9d"
	return []string{
		"", "x", "xyz", "\x00\x00", "\xff", strings.Repeat("x", 200),
		hi, none, long, "x" + hi, hi + "x", "abc" + none + "def", handFramed(hi), handFramed(strings.Repeat("\xa5", 60)),
		hi + hi, hi + none + long, "ab" + hi + "cd" + none + "ef" + long + "gh", hi + "x" + hi + "\x00" + hi,
		"\xa5", "\xa5\xa5\xa5", "\xa5" + hi, "\xa5\xa5" + hi + "\xa5", "\xa5\x02" + hi, "\xa5\x3c" + hi + none, "\xa5\x3d" + hi, "\xa5\xff" + none,
		turned, turned + hi, hi + turned + hi, hi[:5] + hi, hi[:4] + long + hi[:3], none[:3] + none, "\xa5\x00\x00" + none,
		long[:63], long[:63] + hi, long[:63] + "\x00" + hi, long[:62] + long, hi + long[:63], "\xa5\x3c" + strings.Repeat(hi, 12),
		handFramed(strings.Repeat("q", 61)), "\xa5\x3c" + strings.Repeat("\xa5\x00\x03\x96", 20),
	}
}

func TestFedWorkedByHand(t *testing.T) {
	hi := "\xa5\x02hi\x2c\x9c"
	cases := []struct {
		f     impl.Feed
		bytes string
		want  impl.Feed
		texts []string
	}{
		{impl.Feed{}, "", impl.Feed{}, nil},
		{impl.Feed{}, "xyz", impl.Feed{Skipped: 3}, nil},
		{impl.Feed{}, hi, impl.Feed{}, []string{"hi"}},
		{impl.Feed{}, "\xa5\x00\x03\x96" + hi, impl.Feed{}, []string{"", "hi"}},
		{impl.Feed{}, "x" + hi + "yz" + hi + "\xa5", impl.Feed{Rest: "\xa5", Skipped: 3}, []string{"hi", "hi"}},
		{impl.Feed{}, hi[:5], impl.Feed{Rest: hi[:5]}, nil},
		{impl.Feed{Rest: hi[:5], Skipped: 7}, "\x9c", impl.Feed{Skipped: 7}, []string{"hi"}},
		{impl.Feed{Rest: hi[:5], Skipped: 7}, "\x9d", impl.Feed{Skipped: 13}, nil},
		{impl.Feed{Rest: hi[:4]}, "", impl.Feed{Rest: hi[:4]}, nil},
		{impl.Feed{Rest: hi[:4]}, hi, impl.Feed{Skipped: 4}, []string{"hi"}},
		{impl.Feed{Rest: "\xa5"}, hi, impl.Feed{Skipped: 1}, []string{"hi"}},
		{impl.Feed{Rest: "\xa5\x02"}, hi, impl.Feed{Skipped: 2}, []string{"hi"}},
		{impl.Feed{Rest: "\xa5\x3c"}, hi, impl.Feed{Rest: "\xa5\x3c" + hi}, nil},
		{impl.Feed{}, "\xa5\x02hi\x2d" + "\xa5", impl.Feed{Rest: "\xa5", Skipped: 5}, nil},
	}
	for _, c := range cases {
		checkFed(t, c.f, c.bytes, c.want, c.texts)
		checkFedAll(t, c.f, []string{c.bytes}, c.want, c.texts)
	}
}

func TestFedHoweverItIsCut(t *testing.T) {
	for _, bytes := range fedStreams() {
		checkHoweverCut(t, impl.Feed{}, bytes)
		checkHoweverCut(t, impl.Feed{Skipped: 41}, bytes)
	}
}

func TestFedBehindARestHoweverItIsCut(t *testing.T) {
	long := handFramed(strings.Repeat("q", 60))
	rests := []string{"\xa5", "\xa5\x00", "\xa5\x00\x03", "\xa5\x02h", handFramed("hi")[:5], "\xa5\x3c", long[:62], long[:63], "\xa5\x06" + handFramed("")[:3]}
	for _, rest := range rests {
		checkHoweverCut(t, impl.Feed{Rest: rest, Skipped: 5}, strings.TrimPrefix(long, rest)+"x")
		for _, bytes := range fedStreams() {
			checkHoweverCut(t, impl.Feed{Rest: rest}, bytes)
		}
	}
}

func TestFedCutAtEachTwoPlaces(t *testing.T) {
	for _, bytes := range []string{"x" + handFramed("hi") + "\xa5" + handFramed("") + "yz", handFramed("a")[:4] + handFramed("") + handFramed("")} {
		want, texts := handFed(impl.Feed{}, bytes)
		for first := range len(bytes) + 1 {
			for second := first; second <= len(bytes); second++ {
				checkPieces(t, impl.Feed{}, []string{bytes[:first], bytes[first:second], bytes[second:]}, want, texts)
			}
		}
	}
}

func TestFedAllOfFewPieces(t *testing.T) {
	hi := handFramed("hi")
	f := impl.Feed{Rest: hi[:3], Skipped: 9}
	for _, none := range [][]string{nil, {}, {""}, {"", "", ""}, slices.Repeat([]string{""}, 50)} {
		checkFedAll(t, impl.Feed{}, none, impl.Feed{}, nil)
		checkFedAll(t, f, none, f, nil)
	}
	checkFedAll(t, f, []string{hi[3:]}, impl.Feed{Skipped: 9}, []string{"hi"})
	checkFedAll(t, f, []string{hi[3:] + "x", "", hi + "y", hi[:2], hi[2:] + "\xa5"}, impl.Feed{Rest: "\xa5", Skipped: 11}, []string{"hi", "hi", "hi"})
}

func TestRightFeeds(t *testing.T) {
	long := handFramed(strings.Repeat("q", 60))
	for _, skipped := range []int64{0, 1, 999999, 1000000} {
		for length := 0; length <= 63; length++ {
			if f := (impl.Feed{Rest: long[:length], Skipped: skipped}); !impl.FeedOk(f) {
				t.Errorf("%#v is right", f)
			}
		}
		for _, rest := range []string{"\xa5\x00", "\xa5\x00\x03", "\xa5\x02h", "\xa5\x02hi\x2c", "\xa5\x3b", "\xa5\x04\xa5\x00\x03\x96"} {
			if f := (impl.Feed{Rest: rest, Skipped: skipped}); !impl.FeedOk(f) {
				t.Errorf("%#v is right", f)
			}
		}
	}
}

// wrongRests can't begin a frame, hold one already, or are too long.
func wrongRests() []string {
	long := handFramed(strings.Repeat("q", 60))
	return []string{
		"a", "\x00", "\xa4", "x\xa5", "\xa5\x3d", "\xa5\xa5", "\xa5\xff", "\xa5\x00\x00", "\xa5\x00\x04", "\xa5\x02hi\x2d", "\xa5\x02hi\x2c\x9d", long[:62] + "\x00",
		handFramed(""), handFramed("hi"), handFramed("hi") + "x", handFramed("") + "\xa5", handFramed(strings.Repeat("q", 59)), handFramed("")[:3] + "\x96\xa5\x00\x03",
		long, long[:63] + "\x00", long[:62] + "\x00\x00", "\xa5\x3c" + strings.Repeat("\xa5", 62), strings.Repeat("\xa5", 64), long + "\xa5", long + long, strings.Repeat("\xa5\x3c", 40), strings.Repeat("x", 64), strings.Repeat("x", 70000),
	}
}

func wrongFeeds() []impl.Feed {
	feeds := []impl.Feed{}
	for _, rest := range wrongRests() {
		feeds = append(feeds, impl.Feed{Rest: rest}, impl.Feed{Rest: rest, Skipped: 1000000})
	}
	for _, skipped := range []int64{-1, -2, -1000000, math.MinInt32, math.MinInt64, math.MinInt64 + 1, 1000001, 1000002, 2000000, math.MaxInt32, 1 << 32, 1<<32 + 1, math.MaxInt64 - 1, math.MaxInt64} {
		feeds = append(feeds, impl.Feed{Skipped: skipped}, impl.Feed{Rest: "\xa5", Skipped: skipped}, impl.Feed{Rest: "x", Skipped: skipped})
	}
	return feeds
}

func checkRefused(t *testing.T, what string, got impl.Feed, told []string) {
	t.Helper()
	if got != (impl.Feed{}) || len(told) != 0 {
		t.Fatalf("%s: %#v, %q; wanted the zero Feed and nothing", what, got, told)
	}
}

func TestWrongFeeds(t *testing.T) {
	hi := handFramed("hi")
	for _, f := range wrongFeeds() {
		if impl.FeedOk(f) {
			t.Errorf("%#v is not right", f)
		}
		for _, bytes := range []string{"", "x", "\xa5", hi, "x" + hi + hi[:3], strings.Repeat("x", 1000), strings.Repeat("x", 1001)} {
			got, told := impl.Fed(f, bytes)
			checkRefused(t, "Fed of a wrong Feed", got, told)
			for _, pieces := range [][]string{{bytes}, {"", bytes, hi}, slices.Repeat([]string{bytes}, 51)} {
				got, told = impl.FedAll(f, pieces)
				checkRefused(t, "FedAll of a wrong Feed", got, told)
			}
		}
		got, told := impl.FedAll(f, nil)
		checkRefused(t, "FedAll of a wrong Feed and no piece", got, told)
	}
}

func TestSkippedStopsAtItsLimit(t *testing.T) {
	hi := handFramed("hi")
	cases := []struct {
		before int64
		bytes  string
		after  int64
	}{
		{0, "", 0}, {0, "x", 1}, {0, strings.Repeat("x", 1000), 1000},
		{999999, "", 999999}, {999999, hi, 999999}, {999999, "x", 1000000}, {999999, "xy", 1000000}, {999999, "x" + hi + "y", 1000000}, {999999, strings.Repeat("x", 1000), 1000000},
		{999998, "x", 999999}, {999998, "xy", 1000000}, {999000, strings.Repeat("x", 999), 999999}, {999000, strings.Repeat("x", 1000), 1000000}, {999001, strings.Repeat("x", 1000), 1000000},
		{1000000, "", 1000000}, {1000000, hi, 1000000}, {1000000, "x", 1000000}, {1000000, "xy" + hi + "z", 1000000}, {1000000, strings.Repeat("x", 1000), 1000000},
	}
	for _, c := range cases {
		_, texts := handFed(impl.Feed{}, c.bytes)
		checkFed(t, impl.Feed{Skipped: c.before}, c.bytes, impl.Feed{Skipped: c.after}, texts)
		checkFedAll(t, impl.Feed{Skipped: c.before}, cutEach(c.bytes, 20), impl.Feed{Skipped: c.after}, texts)
	}
	for _, before := range []int64{0, 999990, 999998, 999999, 1000000} {
		for _, bytes := range fedStreams() {
			checkHoweverCut(t, impl.Feed{Skipped: before}, bytes)
		}
	}
}

func TestAThousandBytesAndOneMore(t *testing.T) {
	long := handFramed(strings.Repeat("q", 60))
	rest63, rest1 := impl.Feed{Rest: long[:63], Skipped: 2}, impl.Feed{Rest: "\xa5", Skipped: 2}
	streams := []string{strings.Repeat("x", 1000), strings.Repeat("\xa5", 1000), strings.Repeat(handFramed(""), 250), strings.Repeat(long, 15) + strings.Repeat("x", 40), strings.Repeat("\xa5\x3c", 500), long[63:] + strings.Repeat("x", 999)}
	for _, bytes := range streams {
		for _, f := range []impl.Feed{{}, {Skipped: 3}, rest1, rest63} {
			want, texts := handFed(f, bytes)
			checkFed(t, f, bytes, want, texts)
			checkPieces(t, f, cutEach(bytes, 1), want, texts)
			checkPieces(t, f, cutEach(bytes, 20), want, texts)
			for _, more := range []string{"x", "\xa5", bytes} {
				got, told := impl.Fed(f, bytes+more)
				checkRefused(t, "Fed of more than 1000 bytes", got, told)
			}
		}
	}
}

func TestFiftyPiecesAndOneMore(t *testing.T) {
	hi := handFramed("hi")
	for _, piece := range []string{"", "x", hi, "x" + hi, hi[:5] + hi + hi[:1], strings.Repeat("x", 1000), strings.Repeat(hi, 166)} {
		for _, f := range []impl.Feed{{}, {Rest: hi[:2], Skipped: 4}} {
			for _, count := range []int{49, 50} {
				want, texts := handFed(f, strings.Repeat(piece, count))
				checkFedAll(t, f, slices.Repeat([]string{piece}, count), want, texts)
			}
			for _, count := range []int{51, 52, 306, 1000} {
				got, told := impl.FedAll(f, slices.Repeat([]string{piece}, count))
				checkRefused(t, "FedAll of more than 50 pieces", got, told)
			}
		}
	}
}

func TestAPieceTooLongAmongOthers(t *testing.T) {
	hi := handFramed("hi")
	for _, long := range []string{strings.Repeat("x", 1001), strings.Repeat(hi, 167), strings.Repeat("\xa5", 2000)} {
		for _, f := range []impl.Feed{{}, {Rest: hi[:5]}, {Skipped: 1000000}} {
			for at := range 5 {
				pieces := slices.Insert([]string{hi, "x", hi[:3], "\x9c"}, at, long)
				got, told := impl.FedAll(f, pieces)
				checkRefused(t, "FedAll of a piece of more than 1000 bytes", got, told)
			}
			got, told := impl.FedAll(f, []string{long})
			checkRefused(t, "FedAll of a piece of more than 1000 bytes alone", got, told)
		}
	}
	full := strings.Repeat("x", 994) + hi
	checkFedAll(t, impl.Feed{}, []string{hi, full, hi, full}, impl.Feed{Skipped: 1988}, []string{"hi", "hi", "hi", "hi"})
}

func checkApart(t *testing.T, f impl.Feed, texts []string, given []string) {
	t.Helper()
	told := append([]string{f.Rest}, texts...)
	for i, a := range told {
		for _, b := range append(slices.Clone(told[i+1:]), given...) {
			if sharesMemory(a, b) {
				t.Fatalf("%q and %q share memory", a, b)
			}
		}
	}
}

func TestFedIsNewMemory(t *testing.T) {
	hand := handFramed("hand to hand")
	begun := impl.Feed{Rest: strings.Clone(hand[:9])}
	for _, bytes := range []string{"", hand[9:], hand[9:] + "xx" + hand + hand[:7], hand + hand[:5], hand[:5]} {
		for _, f := range []impl.Feed{{}, begun} {
			got, texts := impl.Fed(f, bytes)
			checkApart(t, got, texts, []string{f.Rest, bytes})
			for _, pieces := range [][]string{nil, {bytes}, {bytes, ""}, {"", bytes, hand}} {
				got, texts = impl.FedAll(f, pieces)
				checkApart(t, got, texts, append([]string{f.Rest}, pieces...))
			}
		}
	}
}

func TestFedLeavesItsArguments(t *testing.T) {
	hi := handFramed("hi")
	all := []string{hi, "x" + hi, hi[:3], hi[3:], "spare", "room"}
	kept := slices.Clone(all)
	_, texts := impl.FedAll(impl.Feed{}, all[:4])
	clear(texts[:cap(texts)])
	if !slices.Equal(all, kept) {
		t.Fatalf("the pieces became %q", all)
	}
	// Nothing is kept from call to call: what was cleared comes again.
	checkFedAll(t, impl.Feed{}, all[:4], impl.Feed{Skipped: 1}, []string{"hi", "hi", "hi"})
}

// Feeds and bytes without any order, but the same in each run, cut without any order, too.
func TestFeedAnswersAtEveryArgument(t *testing.T) {
	state := uint32(11)
	next := func(below int) int {
		state = state*1664525 + 1013904223
		return int(state>>16) % below
	}
	parts := []string{"\xa5", "\xa5\x00", "\xa5\x01", "\xa5\x02hi", "\x2c", "\x9c", "\x03\x96", "\x03", "x", "\xa5\x3c", "\xa5\x3d", handFramed(""), handFramed("hi"), handFramed("\xa5\x3c"), handFramed(strings.Repeat("q", 60)), handFramed(strings.Repeat("q", 60))[:63]}
	some := func(count int) string {
		s := ""
		for range next(count) {
			s += parts[next(len(parts))]
		}
		return s
	}
	skips := append([]int64{999998, 999999, 1000000, 1000001}, extremes...)
	for range 20000 {
		f := impl.Feed{Rest: some(3), Skipped: skips[next(len(skips))]}
		_, behind := handFrameAt(f.Rest, 0)
		right := behind == -2 && len(f.Rest) <= 63 && f.Skipped >= 0 && f.Skipped <= 1000000
		if got := impl.FeedOk(f); got != right {
			t.Fatalf("FeedOk(%#v) is %v", f, got)
		}
		pieces := []string{}
		for range next(6) {
			pieces = append(pieces, some(4))
		}
		if !right {
			got, told := impl.FedAll(f, pieces)
			checkRefused(t, "FedAll of a wrong Feed", got, told)
			got, told = impl.Fed(f, strings.Join(pieces, ""))
			checkRefused(t, "Fed of a wrong Feed", got, told)
			continue
		}
		want, texts := handFed(f, strings.Join(pieces, ""))
		checkPieces(t, f, pieces, want, texts)
		if bytes := strings.Join(pieces, ""); len(bytes) <= 1000 {
			checkFed(t, f, bytes, want, texts)
		}
	}
}
