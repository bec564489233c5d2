package tests

import (
	"math"
	"slices"
	"strings"
	"testing"

	"loop.example/g00372/impl"
)

// handRow is a right View as a text: a letter a Member, the first one first.
type handRow struct {
	number int64
	text   string
}

const houseLetters = "ABCD"

// handRowOf tells as well whether the View is right.
func handRowOf(v impl.View) (handRow, bool) {
	if v.Number < 1 || v.Number > 1000 || len(v.Members) == 0 || len(v.Members) > 4 {
		return handRow{}, false
	}
	text := ""
	for _, house := range v.Members {
		if house < 0 || house > 3 || strings.Contains(text, houseLetters[house:house+1]) {
			return handRow{}, false
		}
		text += houseLetters[house : house+1]
	}
	return handRow{v.Number, text}, true
}

func (h handRow) view() impl.View {
	v := impl.View{Number: h.number}
	for _, letter := range []byte(h.text) {
		v.Members = append(v.Members, int64(letter-'A'))
	}
	return v
}

// houseAt is -1 before the first and behind the last.
func (h handRow) houseAt(place int) int64 {
	if place < 0 || place >= len(h.text) {
		return -1
	}
	return int64(h.text[place] - 'A')
}

func (h handRow) placeOf(house int64) int {
	if house < 0 || house > 3 {
		return -1
	}
	return strings.Index(h.text, houseLetters[house:house+1])
}

func (h handRow) next(house int64) int64 {
	place := h.placeOf(house)
	if place < 0 {
		return -1
	}
	return h.houseAt(place + 1)
}

func (h handRow) prev(house int64) int64 {
	return h.houseAt(max(h.placeOf(house), 0) - 1)
}

func (h handRow) without(house int64) (handRow, bool) {
	if h.placeOf(house) < 0 || len(h.text) == 1 || h.number == 1000 {
		return h, false
	}
	return handRow{h.number + 1, strings.ReplaceAll(h.text, houseLetters[house:house+1], "")}, true
}

func (h handRow) joined(house int64) (handRow, bool) {
	if house < 0 || house > 3 || h.placeOf(house) >= 0 || h.number == 1000 {
		return h, false
	}
	return handRow{h.number + 1, h.text + houseLetters[house:house+1]}, true
}

func sameView(a impl.View, b impl.View) bool {
	return a.Number == b.Number && slices.Equal(a.Members, b.Members)
}

func cloneView(v impl.View) impl.View {
	return impl.View{Number: v.Number, Members: slices.Clone(v.Members)}
}

func viewOf(number int64, members ...int64) impl.View {
	return impl.View{Number: number, Members: members}
}

// layMembers lays around the list who could well join, and who could not.
func layMembers(members []int64) []laidList[int64] {
	return layList(members, 3, 0, 1, 2, -501)
}

func askedOfView[T comparable](t *testing.T, what string, v impl.View, want T, call func(impl.View) T) {
	t.Helper()
	for _, given := range layMembers(v.Members) {
		kept := slices.Clone(given.memory)
		if got := call(impl.View{Number: v.Number, Members: given.list}); got != want {
			t.Fatalf("%s of %v is %v; wanted %v", what, v, got, want)
		}
		if !slices.Equal(given.memory, kept) {
			t.Fatalf("%s of %v: the memory handed in became %v; it was %v", what, v, given.memory, kept)
		}
	}
}

// checkMembersApart writes over all of the one, looks at the other, and the other way round.
func checkMembersApart(t *testing.T, what string, answer []int64, memory []int64) {
	t.Helper()
	if spanOf(answer).meets(spanOf(memory)) {
		t.Fatalf("%s: what is answered shares memory with what was handed in", what)
	}
	told, kept := slices.Clone(answer), slices.Clone(memory)
	fill(answer[:cap(answer)], -701)
	if !slices.Equal(memory, kept) {
		t.Fatalf("%s: written into the answer, what was handed in became %v; it was %v", what, memory, kept)
	}
	copy(answer, told)
	fill(memory, -702)
	if !slices.Equal(answer, told) {
		t.Fatalf("%s: written into what was handed in, the answer became %v; it was %v", what, answer, told)
	}
	copy(memory, kept)
}

func checkNextView(t *testing.T, what string, v impl.View, house int64, want impl.View, is bool, call func(impl.View, int64) (impl.View, bool)) {
	t.Helper()
	want = cloneView(want)
	for _, given := range layMembers(v.Members) {
		kept := slices.Clone(given.memory)
		got, told := call(impl.View{Number: v.Number, Members: given.list}, house)
		if !slices.Equal(given.memory, kept) {
			t.Fatalf("%s(%v, %d): the memory handed in became %v; it was %v", what, v, house, given.memory, kept)
		}
		if !sameView(got, want) || told != is {
			t.Fatalf("%s(%v, %d) is %v, %v; wanted %v, %v", what, v, house, got, told, want, is)
		}
		checkMembersApart(t, what, got.Members, given.memory)
	}
}

func checkWithout(t *testing.T, v impl.View, house int64, want impl.View, is bool) {
	t.Helper()
	checkNextView(t, "Without", v, house, want, is, impl.Without)
}

func checkJoined(t *testing.T, v impl.View, house int64, want impl.View, is bool) {
	t.Helper()
	checkNextView(t, "Joined", v, house, want, is, impl.Joined)
}

func checkNext(t *testing.T, v impl.View, house int64, want int64) {
	t.Helper()
	askedOfView(t, "NextOf", v, want, func(given impl.View) int64 { return impl.NextOf(given, house) })
}

func checkPrev(t *testing.T, v impl.View, house int64, want int64) {
	t.Helper()
	askedOfView(t, "PrevOf", v, want, func(given impl.View) int64 { return impl.PrevOf(given, house) })
}

// checkRow asks what hangs on the View alone.
func checkRow(t *testing.T, v impl.View, right bool, head int64, tail int64) {
	t.Helper()
	if _, is := handRowOf(v); is != right {
		t.Fatalf("the test itself takes %v for %v", v, is)
	}
	askedOfView(t, "ViewOk", v, right, impl.ViewOk)
	askedOfView(t, "HeadOf", v, head, impl.HeadOf)
	askedOfView(t, "TailOf", v, tail, impl.TailOf)
}

// checkView holds what is asked of any View, right or not, against what was worked out by hand.
func checkView(t *testing.T, v impl.View, houses ...int64) {
	t.Helper()
	h, right := handRowOf(v)
	if !right {
		checkWrongView(t, v, houses...)
		return
	}
	checkRow(t, v, true, h.houseAt(0), h.houseAt(len(h.text)-1))
	for _, house := range houses {
		checkNext(t, v, house, h.next(house))
		checkPrev(t, v, house, h.prev(house))
		without, left := h.without(house)
		checkWithout(t, v, house, without.view(), left)
		joined, came := h.joined(house)
		checkJoined(t, v, house, joined.view(), came)
	}
}

func checkWrongView(t *testing.T, v impl.View, houses ...int64) {
	t.Helper()
	checkRow(t, v, false, -1, -1)
	for _, house := range houses {
		checkNext(t, v, house, -1)
		checkPrev(t, v, house, -1)
		checkWithout(t, v, house, impl.View{}, false)
		checkJoined(t, v, house, impl.View{}, false)
	}
}

// listsOf are all lists of so many out of these numbers.
func listsOf(numbers []int64, count int) [][]int64 {
	lists := [][]int64{{}}
	for range count {
		longer := [][]int64{}
		for _, list := range lists {
			for _, n := range numbers {
				longer = append(longer, append(slices.Clone(list), n))
			}
		}
		lists = longer
	}
	return lists
}

// allRows are 1 to 4 unlike Members in every order.
func allRows() [][]int64 {
	rows := [][]int64{}
	for count := 1; count <= 4; count++ {
		for _, list := range listsOf([]int64{0, 1, 2, 3}, count) {
			if _, right := handRowOf(impl.View{Number: 1, Members: list}); right {
				rows = append(rows, list)
			}
		}
	}
	return rows
}

var nearHouses = []int64{-2, -1, 0, 1, 2, 3, 4, 5}

var nearViewNumbers = []int64{1, 2, 3, 499, 500, 998, 999, 1000}

func TestLimitOfViews(t *testing.T) {
	if impl.MaxView != 1000 {
		t.Fatalf("MaxView is %d", impl.MaxView)
	}
	if count := len(allRows()); count != 4+12+24+24 {
		t.Fatalf("there are %d rows", count)
	}
}

func TestViewsWorkedByHand(t *testing.T) {
	v := viewOf(7, 3, 1, 0)
	checkRow(t, v, true, 3, 0)
	for house, want := range map[int64][2]int64{3: {1, -1}, 1: {0, 3}, 0: {-1, 1}, 2: {-1, -1}, -1: {-1, -1}, 4: {-1, -1}} {
		checkNext(t, v, house, want[0])
		checkPrev(t, v, house, want[1])
	}
	checkWithout(t, v, 3, viewOf(8, 1, 0), true)
	checkWithout(t, v, 1, viewOf(8, 3, 0), true)
	checkWithout(t, v, 0, viewOf(8, 3, 1), true)
	checkWithout(t, v, 2, v, false)
	checkJoined(t, v, 2, viewOf(8, 3, 1, 0, 2), true)
	for _, house := range []int64{3, 1, 0, -1, 4} {
		checkJoined(t, v, house, v, false)
	}
	checkRow(t, viewOf(1, 2), true, 2, 2)
	checkNext(t, viewOf(1, 2), 2, -1)
	checkPrev(t, viewOf(1, 2), 2, -1)
	checkJoined(t, viewOf(1, 2), 0, viewOf(2, 2, 0), true)
}

func TestRowsInEveryOrder(t *testing.T) {
	for _, members := range allRows() {
		for _, number := range nearViewNumbers {
			checkView(t, viewOf(number, members...), nearHouses...)
		}
	}
}

func TestEveryNumberOfAView(t *testing.T) {
	for number := int64(-1100); number <= 2100; number++ {
		v := viewOf(number, 2, 0, 3)
		if right := impl.ViewOk(v); right != (number >= 1 && number <= 1000) {
			t.Fatalf("ViewOk of %v is %v", v, right)
		}
		checkView(t, v, 0, 1)
	}
}

// From the head by NextOf to the tail, and back by PrevOf: each Member once, in order.
func TestOneGoesToTheTailAndBack(t *testing.T) {
	for _, members := range allRows() {
		v, there, back := viewOf(9, members...), []int64{}, []int64{}
		for house := impl.HeadOf(v); house != -1 && len(there) <= 4; house = impl.NextOf(v, house) {
			there = append(there, house)
		}
		for house := impl.TailOf(v); house != -1 && len(back) <= 4; house = impl.PrevOf(v, house) {
			back = append(back, house)
		}
		if !slices.Equal(there, members) || there[len(there)-1] != impl.TailOf(v) {
			t.Fatalf("from the head of %v one comes by %v", v, there)
		}
		slices.Reverse(back)
		if !slices.Equal(back, members) || back[0] != impl.HeadOf(v) {
			t.Fatalf("from the tail of %v one comes back by %v", v, back)
		}
	}
}

func TestNextAndPrevAreOneAnothers(t *testing.T) {
	for _, members := range allRows() {
		v, pairs := viewOf(1000, members...), 0
		for house := int64(-3); house <= 6; house++ {
			if next := impl.NextOf(v, house); next != -1 {
				pairs++
				if prev := impl.PrevOf(v, next); prev != house {
					t.Fatalf("in %v behind %d is %d, but ahead of that is %d", v, house, next, prev)
				}
			}
			if prev := impl.PrevOf(v, house); prev != -1 {
				if next := impl.NextOf(v, prev); next != house {
					t.Fatalf("in %v ahead of %d is %d, but behind that is %d", v, house, prev, next)
				}
			}
		}
		if pairs != len(members)-1 {
			t.Fatalf("in %v are %d pairs", v, pairs)
		}
	}
}

func TestNobodyBehindTheTailOrAheadOfTheHead(t *testing.T) {
	for _, members := range allRows() {
		v := viewOf(3, members...)
		checkNext(t, v, members[len(members)-1], -1)
		checkPrev(t, v, members[0], -1)
		// -1 is told where there is nobody, but it stands nowhere.
		checkNext(t, v, -1, -1)
		checkPrev(t, v, -1, -1)
	}
}

func TestHousesThatAreNoMembers(t *testing.T) {
	for _, members := range allRows() {
		for _, house := range slices.Concat(nearHouses, farNumbers, wrongNumbers) {
			if slices.Contains(members, house) {
				continue
			}
			v := viewOf(4, members...)
			checkNext(t, v, house, -1)
			checkPrev(t, v, house, -1)
			checkWithout(t, v, house, v, false)
		}
	}
}

func TestWhoJoinsIsTheTail(t *testing.T) {
	for _, members := range allRows() {
		for house := range int64(4) {
			v := viewOf(12, members...)
			if slices.Contains(members, house) {
				checkJoined(t, v, house, v, false)
				continue
			}
			checkJoined(t, v, house, viewOf(13, append(slices.Clone(members), house)...), true)
			joined, _ := impl.Joined(v, house)
			tail, head, ahead := impl.TailOf(joined), impl.HeadOf(joined), impl.PrevOf(joined, house)
			if tail != house || head != impl.HeadOf(v) || ahead != impl.TailOf(v) || impl.NextOf(joined, ahead) != house {
				t.Fatalf("%d joined %v: its tail is %d, its head %d, and ahead of the tail is %d", house, v, tail, head, ahead)
			}
			checkWithout(t, joined, house, viewOf(14, members...), true)
		}
	}
}

func TestWithoutEachMember(t *testing.T) {
	for _, members := range allRows() {
		for at, house := range members {
			v, others := viewOf(998, members...), slices.Delete(slices.Clone(members), at, at+1)
			if len(others) == 0 {
				checkWithout(t, v, house, v, false)
				continue
			}
			checkWithout(t, v, house, viewOf(999, others...), true)
			without, _ := impl.Without(v, house)
			if impl.NextOf(without, house) != -1 || impl.PrevOf(without, house) != -1 {
				t.Fatalf("%d stands in %v still", house, without)
			}
			if at > 0 && impl.NextOf(without, members[at-1]) != impl.NextOf(v, house) {
				t.Fatalf("without %d in %v behind %d is %d", house, v, members[at-1], impl.NextOf(without, members[at-1]))
			}
			// Who was gone comes back at the end, wherever it stood.
			checkJoined(t, without, house, viewOf(1000, append(others, house)...), true)
		}
	}
}

func TestTheOnlyMemberStays(t *testing.T) {
	for house := range int64(4) {
		for _, number := range nearViewNumbers {
			v := viewOf(number, house)
			checkWithout(t, v, house, v, false)
		}
	}
}

func TestNobodyGoesOrComesAtTheLastNumber(t *testing.T) {
	for _, members := range allRows() {
		last, before := viewOf(1000, members...), viewOf(999, members...)
		for _, house := range nearHouses {
			checkWithout(t, last, house, last, false)
			checkJoined(t, last, house, last, false)
			checkView(t, before, house)
		}
	}
	checkWithout(t, viewOf(999, 1, 2), 1, viewOf(1000, 2), true)
	checkJoined(t, viewOf(999, 1, 2), 3, viewOf(1000, 1, 2, 3), true)
}

func TestNumbersOutOfRangeOfAView(t *testing.T) {
	checkRow(t, viewOf(1, 0, 1), true, 0, 1)
	checkRow(t, viewOf(1000, 0, 1), true, 0, 1)
	for _, members := range allRows() {
		for _, number := range slices.Concat([]int64{0, 1001, 1002, 2000, -1000}, wrongNumbers) {
			checkWrongView(t, viewOf(number, members...), 0, 1, 2, 3, 4)
		}
	}
}

// Every list of up to 5 out of -1 to 4: too few, too many, out of range, alike, and all that are right.
func TestEveryShortListOfMembers(t *testing.T) {
	rights := 0
	for count := range 6 {
		for _, members := range listsOf([]int64{-1, 0, 1, 2, 3, 4}, count) {
			v := viewOf(5, members...)
			if impl.ViewOk(v) {
				rights++
			}
			checkView(t, v, 0, 3)
		}
	}
	if rights != len(allRows()) {
		t.Fatalf("%d are right", rights)
	}
}

func TestHowManyMembers(t *testing.T) {
	checkWrongView(t, viewOf(1), nearHouses...)
	checkWrongView(t, impl.View{}, nearHouses...)
	checkWrongView(t, impl.View{Number: 1, Members: []int64{}}, nearHouses...)
	checkView(t, viewOf(1, 3), nearHouses...)
	checkView(t, viewOf(1, 3, 2, 1, 0), nearHouses...)
	checkWrongView(t, viewOf(1, 3, 2, 1, 0, 4), nearHouses...)
	checkWrongView(t, viewOf(1, 3, 2, 1, 0, 3), nearHouses...)
	for _, count := range []int{6, 8, 255, 256, 257, 260, 5000} {
		for house := range int64(4) {
			checkWrongView(t, viewOf(1, slices.Repeat([]int64{house}, count)...), 0, house)
		}
		checkWrongView(t, viewOf(1, slices.Repeat([]int64{0, 1, 2, 3}, count)...), 0, 3)
	}
}

func TestAlikeMembers(t *testing.T) {
	for _, members := range allRows() {
		for to := range members {
			for from := range members {
				if from == to {
					continue
				}
				alike := slices.Clone(members)
				alike[to] = alike[from]
				checkWrongView(t, viewOf(2, alike...), nearHouses...)
			}
		}
	}
}

func TestVeryGreatAndVerySmallOnesOfAView(t *testing.T) {
	far := slices.Concat(wrongNumbers, []int64{4, 5, 1 << 8, 1 << 32, 1<<32 + 1, -1 << 32, -1<<32 + 2, math.MaxInt64 - 3})
	for _, members := range [][]int64{{0}, {3}, {1, 2}, {2, 0, 3}, {3, 1, 0, 2}} {
		for _, n := range far {
			checkView(t, viewOf(6, members...), n)
			checkView(t, viewOf(1000, members...), n)
			checkView(t, viewOf(n, members...), 0, 3, n)
			for at := range members {
				wrong := slices.Clone(members)
				wrong[at] = n
				checkWrongView(t, viewOf(6, wrong...), 0, 3, n)
				checkWrongView(t, viewOf(n, wrong...), 0, n)
			}
		}
	}
}

// Two that go on from one View have nothing of each other, and the one stays.
func TestViewsThatGoOnFromOne(t *testing.T) {
	calls := map[string]func(impl.View, int64) (impl.View, bool){"Without": impl.Without, "Joined": impl.Joined}
	for _, members := range allRows() {
		for what, call := range calls {
			for _, house := range nearHouses {
				v := viewOf(20, slices.Concat(members, []int64{-1, -2, -3})[:len(members)]...)
				first, _ := call(v, house)
				second, is := call(v, house)
				checkMembersApart(t, what, first.Members, second.Members)
				checkMembersApart(t, what, first.Members, v.Members[:cap(v.Members)])
				fill(first.Members[:cap(first.Members)], -1)
				checkView(t, v, house)
				checkNextView(t, what, v, house, second, is, call)
			}
		}
	}
}

// Long rows of goings and comings without any order, but the same in each run: the View stays right, and its Number counts what was done.
func TestRowsStayRightWhoeverGoesAndComes(t *testing.T) {
	for seed := range uint32(10) {
		next := picked(140 + seed)
		v := viewOf(1, pickOf(next, allRows())...)
		h, _ := handRowOf(v)
		done := int64(0)
		for range 2600 {
			house, is := next(6)-1, false
			if next(2) == 0 {
				v, is = impl.Without(v, house)
				h, _ = h.without(house)
			} else {
				v, is = impl.Joined(v, house)
				h, _ = h.joined(house)
			}
			done += asNumber(is)
			if !impl.ViewOk(v) || v.Number != 1+done || !sameView(v, h.view()) {
				t.Fatalf("after %d that were done it is %v; wanted %v", done, v, h.view())
			}
		}
		if done < 500 {
			t.Fatalf("only %d were done", done)
		}
		checkView(t, v, nearHouses...)
	}
}

// spoilView changes one number, or how many there are.
func spoilView(next func(int64) int64, v impl.View, numbers []int64) impl.View {
	v = cloneView(v)
	switch at := next(int64(len(v.Members))); next(4) {
	case 0:
		v.Number = pickOf(next, numbers)
	case 1:
		v.Members[at] = pickOf(next, numbers)
	case 2:
		v.Members[at] = next(4)
	case 3:
		v.Members = slices.Repeat(v.Members, 5)[:next(6)]
	}
	return v
}

// Views without any order, but the same in each run, mostly near to right ones.
func TestViewsAnswerAtEveryArgument(t *testing.T) {
	next, rows := picked(1400), allRows()
	numbers := slices.Concat(extremes, farNumbers, wrongNumbers, []int64{0, 1, 2, 3, 4, 999, 1000, 1001})
	rights, taken := 0, 0
	for range 8000 {
		v := viewOf(1+next(1000), pickOf(next, rows)...)
		if next(2) == 0 {
			v = spoilView(next, v, numbers)
		}
		house := next(4)
		if next(4) == 0 {
			house = pickOf(next, numbers)
		}
		checkView(t, v, house)
		_, right := handRowOf(v)
		_, left := impl.Without(v, house)
		_, came := impl.Joined(v, house)
		if left && came {
			t.Fatalf("%d both went and came in %v", house, v)
		}
		rights, taken = rights+int(asNumber(right)), taken+int(asNumber(left || came))
	}
	if rights < 4000 || rights > 7500 || taken < 2000 || taken > 7000 {
		t.Fatalf("of 8000 views %d were right, and in %d somebody went or came", rights, taken)
	}
}
