package tests

import (
	"math"
	"slices"
	"testing"

	"loop.example/g00372/impl"
)

func samePool(a impl.Pool, b impl.Pool) bool {
	return slices.Equal(a.Counts, b.Counts) && slices.Equal(a.Pages, b.Pages)
}

func clonePool(p impl.Pool) impl.Pool {
	return impl.Pool{Counts: slices.Clone(p.Counts), Pages: slices.Clone(p.Pages)}
}

func cloneLists(lists [][]int64) [][]int64 {
	kept := [][]int64{}
	for _, list := range lists {
		kept = append(kept, slices.Clone(list))
	}
	return kept
}

// laidPool is a Pool and all memory that it lies in, the room behind its lists among it.
type laidPool struct {
	pool   impl.Pool
	memory [][]int64
}

func roomy(list []int64) []int64 {
	return append(slices.Clone(list), 501, -502, 0)[:len(list)]
}

// laidOut lays one Pool in memory in several ways: with room behind each list, and with each list in the room behind the other.
func laidOut(p impl.Pool) []laidPool {
	counts, pages := roomy(p.Counts), roomy(p.Pages)
	n, m := len(p.Counts), len(p.Pages)
	behind := slices.Concat(p.Counts, p.Pages, []int64{503, 0})
	ahead := slices.Concat(p.Pages, p.Counts, []int64{504, 0})
	return []laidPool{
		{p, [][]int64{p.Counts[:cap(p.Counts)], p.Pages[:cap(p.Pages)]}},
		{impl.Pool{Counts: counts, Pages: pages}, [][]int64{counts[:cap(counts)], pages[:cap(pages)]}},
		{impl.Pool{Counts: behind[:n], Pages: behind[n : n+m]}, [][]int64{behind}},
		{impl.Pool{Counts: ahead[m : m+n], Pages: ahead[:m]}, [][]int64{ahead}},
	}
}

func fill(list []int64, n int64) {
	for i := range list {
		list[i] = n
	}
}

// checkPoolApart writes over all of what was answered, and looks for it elsewhere.
func checkPoolApart(t *testing.T, answer impl.Pool, given laidPool, kept [][]int64) {
	t.Helper()
	pages := slices.Clone(answer.Pages)
	fill(answer.Counts[:cap(answer.Counts)], -701)
	if !slices.Equal(answer.Pages, pages) {
		t.Fatal("Counts and Pages of one answer share memory")
	}
	fill(answer.Pages[:cap(answer.Pages)], -702)
	for _, count := range answer.Counts {
		if count != -701 {
			t.Fatal("Pages and Counts of one answer share memory")
		}
	}
	if !slices.EqualFunc(given.memory, kept, slices.Equal) {
		t.Fatalf("what is answered shares memory with what was handed in: %v; it was %v", given.memory, kept)
	}
}

// answered asks with one Pool laid out in several ways: the answer must be the same, new memory each time, and what was handed in must stay.
func answered(t *testing.T, p impl.Pool, call func(impl.Pool) (impl.Pool, int64)) (impl.Pool, int64) {
	t.Helper()
	first, told := call(clonePool(p))
	first = clonePool(first)
	for _, given := range laidOut(p) {
		kept := cloneLists(given.memory)
		got, which := call(given.pool)
		if !slices.EqualFunc(given.memory, kept, slices.Equal) {
			t.Fatalf("the memory handed in became %v; it was %v", given.memory, kept)
		}
		if !samePool(got, first) || which != told {
			t.Fatalf("of %v it is %v, %d, and in other memory %v, %d", p, first, told, got, which)
		}
		checkPoolApart(t, got, given, kept)
	}
	return first, told
}

func asNumber(is bool) int64 {
	if is {
		return 1
	}
	return 0
}

func checkTaken(t *testing.T, p impl.Pool, value int64, want impl.Pool, which int64) {
	t.Helper()
	got, at := answered(t, p, func(p impl.Pool) (impl.Pool, int64) { return impl.TakenPage(p, value) })
	if !samePool(got, want) || at != which {
		t.Fatalf("TakenPage(%v, %d) is %v, %d; wanted %v, %d", p, value, got, at, want, which)
	}
}

func checkShared(t *testing.T, p impl.Pool, at int64, want impl.Pool, is bool) {
	t.Helper()
	got, told := answered(t, p, func(p impl.Pool) (impl.Pool, int64) {
		shared, is := impl.Shared(p, at)
		return shared, asNumber(is)
	})
	if !samePool(got, want) || told != asNumber(is) {
		t.Fatalf("Shared(%v, %d) is %v, %d; wanted %v, %v", p, at, got, told, want, is)
	}
}

func checkDropped(t *testing.T, p impl.Pool, at int64, want impl.Pool, is bool) {
	t.Helper()
	got, told := answered(t, p, func(p impl.Pool) (impl.Pool, int64) {
		dropped, is := impl.Dropped(p, at)
		return dropped, asNumber(is)
	})
	if !samePool(got, want) || told != asNumber(is) {
		t.Fatalf("Dropped(%v, %d) is %v, %d; wanted %v, %v", p, at, got, told, want, is)
	}
}

// checkLooks asks what does not answer with a Pool; it, too, must leave what was handed in.
func checkLooks(t *testing.T, p impl.Pool, right bool, spare int64) {
	t.Helper()
	for _, given := range laidOut(p) {
		kept := cloneLists(given.memory)
		if got := impl.PoolOk(given.pool); got != right {
			t.Fatalf("PoolOk(%v) is %v", p, got)
		}
		if got := impl.Spare(given.pool); got != spare {
			t.Fatalf("Spare(%v) is %d; wanted %d", p, got, spare)
		}
		if !slices.EqualFunc(given.memory, kept, slices.Equal) {
			t.Fatalf("the memory handed in became %v; it was %v", given.memory, kept)
		}
	}
}

func poolOf(counts []int64, pages []int64) impl.Pool {
	return impl.Pool{Counts: counts, Pages: pages}
}

func with(list []int64, at int, n int64) []int64 {
	list = slices.Clone(list)
	list[at] = n
	return list
}

func TestNewPools(t *testing.T) {
	for n := int64(1); n <= 24; n++ {
		p, is := impl.NewPool(n)
		if !is || !samePool(p, poolOf(make([]int64, n), make([]int64, n))) {
			t.Fatalf("NewPool(%d) is %v, %v", n, p, is)
		}
		checkLooks(t, p, true, n)
		checkPoolApart(t, p, laidPool{}, nil)
		// What was written into the first one is not in the next one.
		if p, _ = impl.NewPool(n); impl.Spare(p) != n {
			t.Fatalf("NewPool(%d) once more is %v", n, p)
		}
	}
}

func TestNewPoolsOutOfRange(t *testing.T) {
	for _, n := range []int64{0, -1, -2, -24, 25, 26, 100, 256 + 1, 1<<32 + 1, math.MaxInt32, math.MinInt32, math.MinInt64, math.MinInt64 + 1, math.MaxInt64 - 1, math.MaxInt64} {
		if p, is := impl.NewPool(n); is || !samePool(p, impl.Pool{}) {
			t.Errorf("NewPool(%d) is %v, %v", n, p, is)
		}
	}
}

func TestPagesAreTakenTillThereIsNone(t *testing.T) {
	for _, n := range []int{1, 2, 3, 7, 23, 24} {
		p, _ := impl.NewPool(int64(n))
		counts, pages := make([]int64, n), make([]int64, n)
		for at := range n {
			value := int64(at*37+5) % 1000
			counts, pages = with(counts, at, 1), with(pages, at, value)
			checkTaken(t, p, value, poolOf(counts, pages), int64(at))
			p, _ = impl.TakenPage(p, value)
			checkLooks(t, p, true, int64(n-at-1))
		}
		for _, value := range []int64{0, 7, 999, 1000, -1} {
			checkTaken(t, p, value, p, -1)
		}
	}
}

func TestTheFirstFreePageIsTaken(t *testing.T) {
	for used := range 1 << 7 {
		counts, pages, first, spare := make([]int64, 7), make([]int64, 7), -1, int64(0)
		for at := 6; at >= 0; at-- {
			if used>>at&1 == 1 {
				counts[at], pages[at] = int64(at)*60+1, int64(at)*11
			} else {
				first, spare = at, spare+1
			}
		}
		p := poolOf(counts, pages)
		checkLooks(t, p, true, spare)
		if first < 0 {
			checkTaken(t, p, 321, p, -1)
			continue
		}
		checkTaken(t, p, 321, poolOf(with(counts, first, 1), with(pages, first, 321)), int64(first))
	}
}

func TestValuesAtTheirLimits(t *testing.T) {
	p := poolOf([]int64{2, 0, 0}, []int64{5, 0, 0})
	for _, value := range []int64{0, 1, 500, 998, 999} {
		checkTaken(t, p, value, poolOf([]int64{2, 1, 0}, []int64{5, value, 0}), 1)
	}
	for _, value := range []int64{-1, -2, -999, 1000, 1001, 1256, 1 << 16, 1 << 32, 1<<32 + 7, math.MaxInt32, math.MinInt32, math.MinInt64, math.MinInt64 + 1, math.MaxInt64 - 1, math.MaxInt64} {
		checkTaken(t, p, value, p, -1)
	}
}

// A page with the value 0 is taken as any other one is: its Count tells, not its Page.
func TestAPageOfZeroIsTaken(t *testing.T) {
	p, _ := impl.NewPool(2)
	p, _ = impl.TakenPage(p, 0)
	checkLooks(t, p, true, 1)
	checkTaken(t, p, 0, poolOf([]int64{1, 1}, []int64{0, 0}), 1)
	checkShared(t, p, 0, poolOf([]int64{2, 0}, []int64{0, 0}), true)
	checkDropped(t, p, 0, poolOf([]int64{0, 0}, []int64{0, 0}), true)
}

func TestAPageStaysTillAllHaveDroppedIt(t *testing.T) {
	for _, at := range []int64{0, 1, 2} {
		for _, more := range []int64{0, 1, 2, 5, 399} {
			p := poolOf([]int64{1, 1, 1}, []int64{11, 999, 33})
			for count := int64(1); count <= more; count++ {
				checkShared(t, p, at, poolOf(with(p.Counts, int(at), count+1), p.Pages), true)
				p, _ = impl.Shared(p, at)
				checkLooks(t, p, true, 0)
			}
			for count := more + 1; count > 1; count-- {
				checkTaken(t, p, 8, p, -1)
				checkDropped(t, p, at, poolOf(with(p.Counts, int(at), count-1), p.Pages), true)
				p, _ = impl.Dropped(p, at)
				checkLooks(t, p, true, 0)
			}
			free := poolOf(with(p.Counts, int(at), 0), with(p.Pages, int(at), 0))
			checkDropped(t, p, at, free, true)
			checkLooks(t, free, true, 1)
			checkDropped(t, free, at, free, false)
			checkShared(t, free, at, free, false)
			checkTaken(t, free, 8, poolOf(p.Counts, with(p.Pages, int(at), 8)), at)
		}
	}
}

func TestCountsAtTheirLimits(t *testing.T) {
	for at := range 3 {
		pool := func(count int64, page int64) impl.Pool {
			return poolOf(with([]int64{3, 3, 3}, at, count), with([]int64{6, 6, 6}, at, page))
		}
		for _, count := range []int64{1, 2, 3, 127, 128, 255, 256, 398, 399} {
			checkShared(t, pool(count, 999), int64(at), pool(count+1, 999), true)
		}
		checkShared(t, pool(0, 0), int64(at), pool(0, 0), false)
		checkShared(t, pool(400, 999), int64(at), pool(400, 999), false)
		for _, count := range []int64{2, 3, 128, 129, 256, 257, 399, 400} {
			checkDropped(t, pool(count, 999), int64(at), pool(count-1, 999), true)
		}
		checkDropped(t, pool(1, 999), int64(at), pool(0, 0), true)
		checkDropped(t, pool(0, 0), int64(at), pool(0, 0), false)
	}
}

func TestPlacesAtTheirLimits(t *testing.T) {
	for _, n := range []int{1, 2, 5, 23, 24} {
		p := poolOf(slices.Repeat([]int64{2}, n), slices.Repeat([]int64{9}, n))
		for at := range n {
			checkShared(t, p, int64(at), poolOf(with(p.Counts, at, 3), p.Pages), true)
			checkDropped(t, p, int64(at), poolOf(with(p.Counts, at, 1), p.Pages), true)
		}
		past := int64(n)
		for _, at := range []int64{-1, -2, -past, -past - 1, past, past + 1, past + 24, 1 << 32, math.MaxInt32, math.MinInt32, -1 << 32, math.MinInt64, math.MinInt64 + 1, math.MaxInt64 - 1, math.MaxInt64} {
			checkShared(t, p, at, p, false)
			checkDropped(t, p, at, p, false)
		}
	}
}

func TestRightPools(t *testing.T) {
	for _, n := range []int{1, 2, 23, 24} {
		for at := range n {
			for _, count := range []int64{1, 2, 399, 400} {
				for _, page := range []int64{0, 1, 998, 999} {
					p := poolOf(with(make([]int64, n), at, count), with(make([]int64, n), at, page))
					checkLooks(t, p, true, int64(n-1))
				}
			}
		}
		checkLooks(t, poolOf(slices.Repeat([]int64{400}, n), slices.Repeat([]int64{999}, n)), true, 0)
		checkLooks(t, poolOf(make([]int64, n), make([]int64, n)), true, int64(n))
	}
}

// wrongCells are pools with one wrong Count or Page, at the first, at a middle and at the last place.
func wrongCells() []impl.Pool {
	pools := []impl.Pool{}
	for _, n := range []int{1, 3, 24} {
		counts, pages := slices.Repeat([]int64{1}, n), slices.Repeat([]int64{4}, n)
		for _, at := range []int{0, n / 2, n - 1} {
			for _, count := range []int64{-1, -2, -400, 401, 402, 656, 1<<32 + 1, math.MinInt64, math.MinInt64 + 1, math.MaxInt64} {
				pools = append(pools, poolOf(with(counts, at, count), pages), poolOf(with(counts, at, count), with(pages, at, 0)))
			}
			for _, page := range []int64{-1, -2, -999, 1000, 1001, 1<<32 + 1, math.MinInt64, math.MinInt64 + 1, math.MaxInt64} {
				pools = append(pools, poolOf(counts, with(pages, at, page)), poolOf(with(counts, at, 0), with(pages, at, page)))
			}
			for _, page := range []int64{1, 4, 999} {
				pools = append(pools, poolOf(with(counts, at, 0), with(pages, at, page)))
			}
		}
	}
	return pools
}

// wrongLengths are pools of right Counts and Pages, free or taken, of which there are none, too many, or not as many.
func wrongLengths() []impl.Pool {
	pools := []impl.Pool{{}, poolOf(nil, []int64{}), poolOf([]int64{}, nil), poolOf([]int64{}, []int64{})}
	for _, lengths := range [][2]int{{0, 1}, {1, 0}, {1, 2}, {2, 1}, {3, 5}, {5, 3}, {0, 24}, {24, 0}, {23, 24}, {24, 23}, {24, 25}, {25, 24}, {25, 25}, {26, 26}, {48, 48}, {257, 257}, {5000, 5000}} {
		for _, count := range []int64{0, 1} {
			counts, pages := slices.Repeat([]int64{count}, lengths[0]), slices.Repeat([]int64{5 * count}, lengths[1])
			pools = append(pools, poolOf(counts, pages))
			if lengths[0] == 0 {
				pools = append(pools, poolOf(nil, pages))
			}
			if lengths[1] == 0 {
				pools = append(pools, poolOf(counts, nil))
			}
		}
	}
	return pools
}

func TestWrongPools(t *testing.T) {
	for _, p := range append(wrongCells(), wrongLengths()...) {
		checkLooks(t, p, false, -1)
		for _, n := range []int64{0, 7, 999, 1000, -1, math.MinInt64, math.MaxInt64} {
			checkTaken(t, p, n, impl.Pool{}, -1)
		}
		for _, at := range []int64{0, 1, 2, 23, 24, -1, int64(len(p.Counts)) - 1, int64(len(p.Pages)) - 1, int64(len(p.Counts)), math.MinInt64, math.MaxInt64} {
			checkShared(t, p, at, impl.Pool{}, false)
			checkDropped(t, p, at, impl.Pool{}, false)
		}
	}
}

// One list may stand as Counts and as Pages at once; the answer's lists are apart all the same.
func TestOneListAsCountsAndPages(t *testing.T) {
	list := []int64{2, 0, 1, 0, 77}
	p := poolOf(list[:4], list[:4])
	calls := []func() impl.Pool{
		func() impl.Pool { got, _ := impl.TakenPage(p, 9); return got },
		func() impl.Pool { got, _ := impl.TakenPage(p, 1000); return got },
		func() impl.Pool { got, _ := impl.Shared(p, 0); return got },
		func() impl.Pool { got, _ := impl.Shared(p, 1); return got },
		func() impl.Pool { got, _ := impl.Dropped(p, 2); return got },
		func() impl.Pool { got, _ := impl.Dropped(p, 4); return got },
	}
	wanted := []impl.Pool{
		poolOf([]int64{2, 1, 1, 0}, []int64{2, 9, 1, 0}),
		poolOf([]int64{2, 0, 1, 0}, []int64{2, 0, 1, 0}),
		poolOf([]int64{3, 0, 1, 0}, []int64{2, 0, 1, 0}),
		poolOf([]int64{2, 0, 1, 0}, []int64{2, 0, 1, 0}),
		poolOf([]int64{2, 0, 0, 0}, []int64{2, 0, 0, 0}),
		poolOf([]int64{2, 0, 1, 0}, []int64{2, 0, 1, 0}),
	}
	kept := [][]int64{slices.Clone(list)}
	for i, call := range calls {
		got := call()
		if !samePool(got, wanted[i]) {
			t.Fatalf("call %d is %v; wanted %v", i, got, wanted[i])
		}
		checkPoolApart(t, got, laidPool{p, [][]int64{list}}, kept)
	}
}

// holder is one who has a page, and the value that was taken for it.
type holder struct{ at, value int64 }

// heldPool is the Pool that these holders make: each page as they say, with as many as hold it.
func heldPool(n int, holders []holder) impl.Pool {
	p := poolOf(make([]int64, n), make([]int64, n))
	for _, h := range holders {
		p.Counts[h.at]++
		p.Pages[h.at] = h.value
	}
	return p
}

func firstUnheld(n int, holders []holder) int64 {
	for at := range int64(n) {
		if !slices.ContainsFunc(holders, func(h holder) bool { return h.at == at }) {
			return at
		}
	}
	return -1
}

// walkPool takes, shares and drops without any order, but the same in each run, and holds the Pool against those who have its pages.
func walkPool(t *testing.T, n int, steps int, next func(int) int) {
	t.Helper()
	p, _ := impl.NewPool(int64(n))
	holders := []holder{}
	for range steps {
		is := true
		switch kind := next(5); {
		case kind < 2 || len(holders) == 0:
			want, value, which := firstUnheld(n, holders), int64(next(1000)), int64(0)
			p, which = impl.TakenPage(p, value)
			if which != want {
				t.Fatalf("of %v the page %d was taken; wanted %d", p, which, want)
			}
			if which >= 0 {
				holders = append(holders, holder{which, value})
			}
		case kind == 2:
			h := holders[next(len(holders))]
			p, is = impl.Shared(p, h.at)
			holders = append(holders, h)
		default:
			i := next(len(holders))
			p, is = impl.Dropped(p, holders[i].at)
			holders = slices.Delete(holders, i, i+1)
		}
		if want := heldPool(n, holders); !is || !samePool(p, want) || !impl.PoolOk(p) {
			t.Fatalf("it is %v, %v; wanted %v", p, is, want)
		}
	}
}

func TestPagesBelongToThoseWhoHoldThem(t *testing.T) {
	state := uint32(4)
	next := func(below int) int {
		state = state*1664525 + 1013904223
		return int(state>>16) % below
	}
	for n := 1; n <= 24; n++ {
		walkPool(t, n, 350, next)
	}
}

// handRight says by counting what PoolOk must say.
func handRight(p impl.Pool) bool {
	right := 0
	for at := 0; at < len(p.Counts) && at < len(p.Pages); at++ {
		free := p.Counts[at] == 0 && p.Pages[at] == 0
		used := p.Counts[at] >= 1 && p.Counts[at] <= 400 && p.Pages[at] >= 0 && p.Pages[at] <= 999
		if free || used {
			right++
		}
	}
	return right > 0 && right < 25 && right == len(p.Counts) && right == len(p.Pages)
}

// Pools without any order, but the same in each run, mostly near to right ones, with places and values near and far.
func TestPoolAnswersAtEveryArgument(t *testing.T) {
	state := uint32(13)
	next := func(below int) int {
		state = state*1664525 + 1013904223
		return int(state>>16) % below
	}
	arguments := append([]int64{6, 22, 23, 24, 25, 399, 400, 401, 998, 999, 1000}, extremes...)
	argument := func() int64 { return arguments[next(len(arguments))] }
	for range 6000 {
		p := impl.Pool{}
		for range next(27) {
			count := int64(next(4) * next(134))
			p.Counts, p.Pages = append(p.Counts, count), append(p.Pages, min(count, 1)*int64(next(1000)))
		}
		if n := len(p.Counts); n > 0 && next(3) == 0 {
			p.Counts[next(n)] = argument()
			p.Pages[next(n)] = argument()
			p.Pages = p.Pages[:n-next(2)]
		}
		right, spare := handRight(p), int64(-1)
		if right {
			spare = int64(len(p.Counts) - len(slices.DeleteFunc(slices.Clone(p.Counts), func(n int64) bool { return n == 0 })))
		}
		checkLooks(t, p, right, spare)
		checkAnyTaken(t, p, right, argument())
		checkAnyShared(t, p, right, argument())
		checkAnyDropped(t, p, right, argument())
	}
}

func checkAnyTaken(t *testing.T, p impl.Pool, right bool, value int64) {
	t.Helper()
	free := slices.Index(p.Counts, 0)
	switch {
	case !right:
		checkTaken(t, p, value, impl.Pool{}, -1)
	case free < 0 || value < 0 || value > 999:
		checkTaken(t, p, value, p, -1)
	default:
		checkTaken(t, p, value, poolOf(with(p.Counts, free, 1), with(p.Pages, free, value)), int64(free))
	}
}

func checkAnyShared(t *testing.T, p impl.Pool, right bool, at int64) {
	t.Helper()
	switch {
	case !right:
		checkShared(t, p, at, impl.Pool{}, false)
	case at < 0 || at >= int64(len(p.Counts)) || p.Counts[at] == 0 || p.Counts[at] == 400:
		checkShared(t, p, at, p, false)
	default:
		checkShared(t, p, at, poolOf(with(p.Counts, int(at), p.Counts[at]+1), p.Pages), true)
	}
}

func checkAnyDropped(t *testing.T, p impl.Pool, right bool, at int64) {
	t.Helper()
	switch {
	case !right:
		checkDropped(t, p, at, impl.Pool{}, false)
	case at < 0 || at >= int64(len(p.Counts)) || p.Counts[at] == 0:
		checkDropped(t, p, at, p, false)
	case p.Counts[at] == 1:
		checkDropped(t, p, at, poolOf(with(p.Counts, int(at), 0), with(p.Pages, int(at), 0)), true)
	default:
		checkDropped(t, p, at, poolOf(with(p.Counts, int(at), p.Counts[at]-1), p.Pages), true)
	}
}
