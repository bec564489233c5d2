package tests

import (
	"math"
	"slices"
	"testing"

	"loop.example/g00372/impl"
)

// placed tells of each of the 16 places its page, -1 where there is none.
type placed [16]int64

func nonePlaced() placed {
	p := placed{}
	fill(p[:], -1)
	return p
}

func (p placed) pageOf(place int64) int64 {
	if place < 0 || place > 15 {
		return -1
	}
	return p[place]
}

func (p placed) with(place int64, page int64) placed {
	p[place] = page
	return p
}

func (p placed) below(size int64) placed {
	for place := range p {
		if int64(place) >= size {
			p[place] = -1
		}
	}
	return p
}

func (p placed) pages() []int64 {
	return slices.DeleteFunc(slices.Clone(p[:]), func(page int64) bool { return page == -1 })
}

// written is the one way to write it: a Run from each place that does not go on from the place ahead, up to the first that does not go on.
func (p placed) written() []impl.Run {
	list := []impl.Run{}
	for place := 0; place < 16; {
		end := place + 1
		for end < 16 && p[place] >= 0 && p[end] == p[end-1]+1 {
			end++
		}
		if p[place] >= 0 {
			list = append(list, impl.Run{From: int64(place), Count: int64(end - place), Page: p[place]})
		}
		place = end
	}
	return list
}

// handPlaced lays the Runs out place by place; it is false where they can't be, or where that would be written in another way.
func handPlaced(m []impl.Run) (placed, bool) {
	p := nonePlaced()
	for _, r := range m {
		if min(r.From, r.Count, r.Page) < 0 || max(r.From, r.Count, r.Page) > 24 {
			return p, false
		}
		for step := range r.Count {
			if r.From+step > 15 || r.Page+step > 23 || p[r.From+step] != -1 {
				return p, false
			}
			p[r.From+step] = r.Page + step
		}
	}
	return p, slices.Equal(p.written(), m)
}

// run is shorter to write, and to read in a long list.
func run(from int64, count int64, page int64) impl.Run {
	return impl.Run{From: from, Count: count, Page: page}
}

// laidRuns is a list of Runs and all memory that it lies in.
type laidRuns struct {
	list   []impl.Run
	memory []impl.Run
}

// layRuns lays one list in memory in several ways: as it is, without any room behind it, with room that goes on where it ends, and as the middle of a longer one.
func layRuns(m []impl.Run) []laidRuns {
	exact := append(make([]impl.Run, 0, len(m)), m...)
	next := run(0, 1, 0)
	if len(m) > 0 {
		last := m[len(m)-1]
		next = run(last.From+last.Count, 1, last.Page+last.Count)
	}
	roomy := append(slices.Clone(m), next, run(-501, -502, -503), run(15, 1, 23))
	middle := slices.Concat([]impl.Run{run(0, 1, 0)}, m, []impl.Run{run(15, 1, 7), {}})
	laid := []laidRuns{
		{m, m[:cap(m)]},
		{exact, exact},
		{roomy[:len(m)], roomy},
		{middle[1 : 1+len(m)], middle},
	}
	if len(m) == 0 {
		laid = append(laid, laidRuns{nil, nil}, laidRuns{[]impl.Run{}, nil})
	}
	return laid
}

// askedOfRuns asks with one list laid out in several ways: the answer must be as wanted each time, new memory, and what was handed in must stay.
func askedOfRuns(t *testing.T, what string, m []impl.Run, want []impl.Run, call func([]impl.Run) []impl.Run) {
	t.Helper()
	for _, given := range layRuns(m) {
		kept := slices.Clone(given.memory)
		got := call(given.list)
		if !slices.Equal(given.memory, kept) {
			t.Fatalf("%s of %v: the memory handed in became %v; it was %v", what, m, given.memory, kept)
		}
		if !slices.Equal(got, want) {
			t.Fatalf("%s of %v is %v; wanted %v", what, m, got, want)
		}
		got = got[:cap(got)]
		for i := range got {
			got[i] = run(-701, -702, -703)
		}
		if !slices.Equal(given.memory, kept) {
			t.Fatalf("%s of %v: what is answered shares memory with what was handed in", what, m)
		}
	}
}

func checkMapped(t *testing.T, m []impl.Run, place int64, page int64, want []impl.Run, is bool) {
	t.Helper()
	askedOfRuns(t, "Mapped", m, want, func(m []impl.Run) []impl.Run {
		got, told := impl.Mapped(m, place, page)
		if told != is {
			t.Fatalf("Mapped(%v, %d, %d) is %v, %v", m, place, page, got, told)
		}
		return got
	})
}

func checkBelow(t *testing.T, m []impl.Run, size int64, want []impl.Run) {
	t.Helper()
	askedOfRuns(t, "Below", m, want, func(m []impl.Run) []impl.Run { return impl.Below(m, size) })
}

// checkMapLooks asks what does not answer with Runs; it, too, must leave what was handed in.
func checkMapLooks(t *testing.T, m []impl.Run, right bool, p placed, places []int64) {
	t.Helper()
	for _, given := range layRuns(m) {
		kept := slices.Clone(given.memory)
		if got := impl.MapOk(given.list); got != right {
			t.Fatalf("MapOk(%v) is %v", m, got)
		}
		for _, place := range places {
			if got := impl.PageOf(given.list, place); got != p.pageOf(place) {
				t.Fatalf("PageOf(%v, %d) is %d; wanted %d", m, place, got, p.pageOf(place))
			}
		}
		for range 2 {
			got := impl.PagesOf(given.list)
			if !slices.Equal(got, p.pages()) {
				t.Fatalf("PagesOf(%v) is %v; wanted %v", m, got, p.pages())
			}
			fill(got[:cap(got)], -704) // what is written there is not in the next answer
		}
		if !slices.Equal(given.memory, kept) {
			t.Fatalf("the memory handed in became %v; it was %v", given.memory, kept)
		}
	}
}

var farNumbers = []int64{math.MinInt64, math.MinInt64 + 1, math.MinInt32, -256, -16, -2, -1, 17, 24, 25, 256, 256 + 3, 1<<32 + 3, math.MaxInt32, math.MaxInt64 - 15, math.MaxInt64 - 1, math.MaxInt64}

func nearPlaces() []int64 {
	places := []int64{}
	for place := int64(-1); place <= 17; place++ {
		places = append(places, place)
	}
	return places
}

// checkMap holds all that a right map tells against its places.
func checkMap(t *testing.T, m []impl.Run, p placed) {
	t.Helper()
	if !slices.Equal(m, p.written()) {
		t.Fatalf("it is %v; wanted %v", m, p.written())
	}
	sizes := append(nearPlaces(), farNumbers...)
	checkMapLooks(t, m, true, p, sizes)
	for _, size := range sizes {
		checkBelow(t, m, size, p.below(size).written())
	}
}

// checkSteps maps one place of a right map, and holds what came of it against its places.
func checkSteps(t *testing.T, p placed, place int64, page int64) placed {
	t.Helper()
	next := p.with(place, page)
	checkMapped(t, p.written(), place, page, next.written(), true)
	checkMap(t, next.written(), next)
	return next
}

// someMaps are right ones: of none, of one and of several Runs, at the edges, and such as share pages.
func someMaps() [][]impl.Run {
	down, alike, odd := []impl.Run{}, []impl.Run{}, []impl.Run{}
	for place := range int64(16) {
		down, alike = append(down, run(place, 1, 23-place)), append(alike, run(place, 1, 5))
		if place%2 == 1 {
			odd = append(odd, run(place, 1, place))
		}
	}
	return [][]impl.Run{
		nil,
		{run(0, 1, 0)}, {run(15, 1, 23)}, {run(0, 16, 0)}, {run(0, 16, 8)}, {run(3, 3, 5)}, {run(0, 15, 9)}, {run(1, 15, 0)},
		{run(0, 2, 0), run(3, 2, 3)}, {run(0, 2, 4), run(2, 2, 4)}, {run(0, 2, 4), run(2, 2, 5)}, {run(0, 2, 4), run(2, 2, 7)}, {run(0, 2, 4), run(3, 2, 6)},
		{run(2, 3, 20), run(5, 1, 0), run(7, 9, 15)}, {run(0, 1, 23), run(1, 14, 0), run(15, 1, 0)}, {run(1, 1, 2), run(4, 5, 0), run(10, 4, 6)},
		down, alike, odd,
	}
}

func TestMapsWorkedByHand(t *testing.T) {
	three := []impl.Run{run(3, 3, 5)}
	two := []impl.Run{run(0, 2, 1), run(4, 2, 9)}
	cases := []struct {
		m           []impl.Run
		place, page int64
		want        []impl.Run
	}{
		{nil, 3, 5, []impl.Run{run(3, 1, 5)}},
		{nil, 3, -1, nil},
		{[]impl.Run{run(3, 1, 5)}, 3, -1, nil},
		{[]impl.Run{run(3, 1, 5)}, 3, 6, []impl.Run{run(3, 1, 6)}},
		{[]impl.Run{run(3, 1, 5)}, 4, 6, []impl.Run{run(3, 2, 5)}},
		{[]impl.Run{run(3, 1, 5)}, 2, 4, []impl.Run{run(2, 2, 4)}},
		{[]impl.Run{run(3, 1, 5)}, 4, 5, []impl.Run{run(3, 1, 5), run(4, 1, 5)}},
		{[]impl.Run{run(3, 1, 5)}, 5, 7, []impl.Run{run(3, 1, 5), run(5, 1, 7)}},
		{three, 3, 5, three}, {three, 4, 6, three}, {three, 5, 7, three},
		{three, 3, -1, []impl.Run{run(4, 2, 6)}},
		{three, 4, -1, []impl.Run{run(3, 1, 5), run(5, 1, 7)}},
		{three, 5, -1, []impl.Run{run(3, 2, 5)}},
		{three, 2, -1, three}, {three, 6, -1, three},
		{three, 3, 0, []impl.Run{run(3, 1, 0), run(4, 2, 6)}},
		{three, 4, 0, []impl.Run{run(3, 1, 5), run(4, 1, 0), run(5, 1, 7)}},
		{three, 5, 0, []impl.Run{run(3, 2, 5), run(5, 1, 0)}},
		{two, 2, 3, []impl.Run{run(0, 3, 1), run(4, 2, 9)}},
		{two, 3, 8, []impl.Run{run(0, 2, 1), run(3, 3, 8)}},
		{two, 2, 8, []impl.Run{run(0, 2, 1), run(2, 1, 8), run(4, 2, 9)}},
		{[]impl.Run{run(3, 1, 5), run(5, 1, 7)}, 4, 6, three},
		{[]impl.Run{run(0, 4, 2), run(5, 4, 7)}, 4, 6, []impl.Run{run(0, 9, 2)}},
		{[]impl.Run{run(0, 4, 2), run(4, 1, 0), run(5, 4, 7)}, 4, 6, []impl.Run{run(0, 9, 2)}},
		{[]impl.Run{run(0, 4, 2), run(5, 4, 8)}, 4, 6, []impl.Run{run(0, 5, 2), run(5, 4, 8)}},
		{[]impl.Run{run(0, 4, 2), run(5, 4, 8)}, 4, 7, []impl.Run{run(0, 4, 2), run(4, 5, 7)}},
	}
	for _, c := range cases {
		checkMapped(t, c.m, c.place, c.page, c.want, true)
		p, _ := handPlaced(c.want)
		checkMap(t, c.want, p)
	}
	checkMapLooks(t, three, true, nonePlaced().with(3, 5).with(4, 6).with(5, 7), nearPlaces())
	checkBelow(t, three, 5, []impl.Run{run(3, 2, 5)})
	checkBelow(t, three, 3, nil)
	checkBelow(t, two, 5, []impl.Run{run(0, 2, 1), run(4, 1, 9)})
	checkBelow(t, two, 4, []impl.Run{run(0, 2, 1)})
}

func TestEachPlaceWithEachPage(t *testing.T) {
	for _, m := range someMaps() {
		p, right := handPlaced(m)
		if !right {
			t.Fatalf("%v is no map", m)
		}
		checkMap(t, m, p)
		for place := range int64(16) {
			for page := int64(-1); page < 24; page++ {
				want := p.with(place, page)
				checkMapped(t, m, place, page, want.written(), true)
				got, _ := impl.Mapped(m, place, page)
				checkMapLooks(t, got, true, want, nearPlaces())
			}
		}
	}
}

// placeOrders are ways through all places: upwards, downwards, and in leaps that come to each place once.
func placeOrders() [][]int64 {
	orders := [][]int64{}
	for _, leap := range []int64{1, 15, 3, 5, 7, 11} {
		order := []int64{}
		for i := range int64(16) {
			order = append(order, (i*leap+leap/2)%16)
		}
		orders = append(orders, order)
	}
	up := slices.Sorted(slices.Values(orders[0]))
	down := slices.Clone(up)
	slices.Reverse(down)
	return append(orders, up, down)
}

func TestAllPlacesInAnyOrder(t *testing.T) {
	for _, m := range append(someMaps(), []impl.Run{run(0, 7, 3), run(7, 2, 0), run(9, 7, 12)}) {
		want, _ := handPlaced(m)
		for _, order := range placeOrders() {
			p := nonePlaced()
			for _, place := range order {
				p = checkSteps(t, p, place, want[place])
			}
			got := []impl.Run(nil)
			for _, place := range order {
				got, _ = impl.Mapped(got, place, want[place])
			}
			if !slices.Equal(got, m) {
				t.Fatalf("in the order %v it is %v; wanted %v", order, got, m)
			}
			for _, place := range order {
				p = checkSteps(t, p, place, -1)
			}
		}
	}
}

func TestPlacesAndPagesOutOfRange(t *testing.T) {
	farPages := slices.DeleteFunc(append([]int64{-2, 24}, farNumbers...), func(page int64) bool { return page >= -1 && page < 24 })
	for _, m := range someMaps() {
		for _, page := range append([]int64{-2, -1, 0, 7, 23, 24}, farPages...) {
			for _, place := range append([]int64{-1, 16}, farNumbers...) {
				checkMapped(t, m, place, page, m, false)
			}
		}
		for _, page := range farPages {
			for place := int64(-1); place <= 16; place++ {
				checkMapped(t, m, place, page, m, false)
			}
		}
	}
}

func TestOneRunWithEachField(t *testing.T) {
	fields := append([]int64{0, 1, 2, 7, 8, 9, 14, 15, 16, 22, 23}, farNumbers...)
	for _, from := range fields {
		for _, count := range fields {
			for _, page := range fields {
				m := []impl.Run{run(from, count, page)}
				right := from >= 0 && from <= 15 && count >= 1 && count <= 16 && from+count <= 16 && page >= 0 && page <= 23 && page+count <= 24
				if got := impl.MapOk(m); got != right {
					t.Fatalf("MapOk(%v) is %v", m, got)
				}
				if !right {
					checkWrongMap(t, m)
				}
			}
		}
	}
}

// wrongMaps break one rule each, by as little as can be, and some by very much.
func wrongMaps() [][]impl.Run {
	sixteen := []impl.Run{}
	for place := range int64(16) {
		sixteen = append(sixteen, run(place, 1, 5))
	}
	list := [][]impl.Run{
		{{}}, {run(0, 0, 0)}, {run(3, -1, 5)}, {run(-1, 1, 5)}, {run(-1, 2, 5)}, {run(3, 1, -1)}, {run(3, 2, -1)},
		{run(15, 2, 0)}, {run(16, 1, 0)}, {run(0, 17, 0)}, {run(1, 16, 0)}, {run(0, 2, 23)}, {run(0, 1, 24)}, {run(0, 16, 9)},
		{run(0, 1, 2), run(1, 1, 3)}, {run(0, 4, 2), run(4, 4, 6)}, {run(0, 15, 0), run(15, 1, 15)}, {run(5, 1, 1), run(7, 2, 0), run(9, 1, 2)},
		{run(0, 2, 2), run(1, 1, 7)}, {run(0, 2, 2), run(1, 1, 3)}, {run(0, 16, 0), run(15, 1, 0)}, {run(0, 9, 0), run(3, 1, 0), run(10, 1, 0)}, {run(3, 1, 4), run(3, 1, 4)}, {run(0, 2, 0), run(1, 2, 2)},
		{run(3, 1, 4), run(1, 1, 4)}, {run(4, 1, 4), run(3, 1, 3)}, {run(0, 1, 0), run(9, 1, 0), run(5, 1, 0)}, {run(5, 1, 0), run(0, 1, 0), run(9, 1, 0)},
		{run(0, 1, 0), {}}, {{}, run(0, 1, 0)}, {run(0, 1, 0), run(1, 0, 0)}, {run(0, 2, 0), {}, run(2, 1, 7)},
		append(slices.Clone(sixteen), run(16, 1, 5)), append(slices.Clone(sixteen), run(15, 1, 7)), append(slices.Clone(sixteen), run(0, 1, 5)), append(slices.Clone(sixteen), run(15, 0, 0)),
		slices.Repeat([]impl.Run{run(0, 1, 0)}, 17), make([]impl.Run, 17), slices.Repeat(sixteen, 300),
	}
	for _, far := range farNumbers {
		for _, wrong := range []impl.Run{run(far, 1, 0), run(5, far, 0), run(far, far, far), run(far, -far, 0), run(5, far, -far), run(far, 1-far, 0), run(1, far, far), run(far, 16-far, 24-far)} {
			list = append(list, []impl.Run{wrong}, []impl.Run{run(0, 1, 4), wrong}, []impl.Run{wrong, run(15, 1, 4)})
		}
		if far < 0 || far > 23 {
			list = append(list, []impl.Run{run(5, 1, far)}, []impl.Run{run(0, 5, 4), run(5, 1, far)}, []impl.Run{run(5, 1, far), run(6, 1, far+1)})
		}
	}
	return list
}

func checkWrongMap(t *testing.T, m []impl.Run) {
	t.Helper()
	checkMapLooks(t, m, false, nonePlaced(), []int64{-1, 0, 3, 15, 16, math.MinInt64, math.MaxInt64})
	for _, n := range []int64{-2, -1, 0, 3, 15, 16, 17, 23, 24, math.MinInt64, math.MaxInt64} {
		checkMapped(t, m, 3, n, nil, false)
		checkMapped(t, m, n, 5, nil, false)
		checkBelow(t, m, n, nil)
	}
}

func TestWrongMaps(t *testing.T) {
	for _, m := range wrongMaps() {
		checkWrongMap(t, m)
	}
}

func TestRunsThatTouch(t *testing.T) {
	for place := int64(1); place < 16; place++ {
		for page := int64(0); page < 24; page++ {
			for _, count := range []int64{1, place} {
				next := int64(3) + count
				m := []impl.Run{run(place-count, count, 3), run(place, 1, page)}
				if got := impl.MapOk(m); got != (page != next) {
					t.Fatalf("MapOk(%v) is %v", m, got)
				}
				if apart := []impl.Run{run(place-count, count, 3), run(place+1, 1, page)}; impl.MapOk(apart) != (place < 15) {
					t.Fatalf("MapOk(%v) is %v", apart, place == 15)
				}
			}
		}
	}
}

// All lists of at most three small Runs: MapOk says yes of just one of those that put the same pages at the same places.
func TestOneWayToWriteIt(t *testing.T) {
	runs := []impl.Run{}
	for from := range int64(4) {
		for count := range int64(3) {
			for page := range int64(4) {
				runs = append(runs, run(12+from, count, 20+page))
			}
		}
	}
	ways := map[placed][]impl.Run{}
	look := func(m ...impl.Run) {
		p, right := handPlaced(m)
		if got := impl.MapOk(m); got != right {
			t.Fatalf("MapOk(%v) is %v", m, got)
		}
		if other, there := ways[p]; right && there {
			t.Fatalf("%v and %v are two ways to write one map", m, other)
		} else if right {
			ways[p] = slices.Clone(m)
		}
	}
	look()
	for _, a := range runs {
		look(a)
		for _, b := range runs {
			look(a, b)
			for _, c := range runs {
				look(a, b, c)
			}
		}
	}
	if len(ways) < 100 {
		t.Fatalf("only %d maps were seen", len(ways))
	}
}

// What is mapped without any order, but the same in each run, mostly so that Runs grow, part and become one.
func TestMappedWithoutAnyOrder(t *testing.T) {
	state := uint32(5)
	next := func(below int) int64 {
		state = state*1664525 + 1013904223
		return int64(state>>16) % int64(below)
	}
	for range 40 {
		p, m, shift := nonePlaced(), []impl.Run(nil), next(9)
		for range 60 {
			place, page := next(16), int64(-1)
			switch next(4) {
			case 0:
				page = next(25) - 1
			case 1, 2:
				page = place + shift
			}
			p = checkSteps(t, p, place, page)
			if m, _ = impl.Mapped(m, place, page); !slices.Equal(m, p.written()) {
				t.Fatalf("it is %v; wanted %v", m, p.written())
			}
		}
	}
}

// Lists without any order, but the same in each run, mostly near to right ones, with arguments near and far.
func TestMapAnswersAtEveryArgument(t *testing.T) {
	state := uint32(15)
	next := func(below int) int64 {
		state = state*1664525 + 1013904223
		return int64(state>>16) % int64(below)
	}
	arguments := append(slices.Concat(nearPlaces(), farNumbers), extremes...)
	argument := func() int64 { return arguments[next(len(arguments))] }
	rights := 0
	for range 4000 {
		m, from := []impl.Run{}, next(4)
		for range next(6) {
			count := 1 + next(3)
			m = append(m, run(from, count, next(22)))
			from += count + next(3)
		}
		if n := len(m); n > 0 && next(4) == 0 {
			m[next(n)].From, m[next(n)].Count, m[next(n)].Page = argument(), argument(), argument()
		}
		p, right := handPlaced(m)
		if !right {
			checkWrongMap(t, m)
			continue
		}
		rights++
		checkMap(t, m, p)
		for range 8 {
			place, page := argument(), argument()
			if place < 0 || place > 15 || page < -1 || page > 23 {
				checkMapped(t, m, place, page, m, false)
			} else {
				checkMapped(t, m, place, page, p.with(place, page).written(), true)
			}
		}
	}
	if rights < 500 || rights > 3500 {
		t.Fatalf("%d lists of 4000 were right", rights)
	}
}
