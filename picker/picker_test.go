package picker

import (
	"math"
	"math/big"
	"math/rand"
	"slices"
	"testing"

	"usher/api"
	"usher/bound"
)

// The face stays as the chapter writes it.
var _ func([]int, []api.Load, int, int, int, int) (int, api.Errno) = Pick

const (
	maxFactor = 20
	maxFlows  = 40
	backends  = 12
	maxWeight = 8
)

// asked: all that a pick is asked with.
type asked struct {
	walk                   []int
	l                      []api.Load
	num, den, flows, tries int
}

func (a asked) pick() (int, api.Errno) {
	return Pick(a.walk, a.l, a.num, a.den, a.flows, a.tries)
}

func (a asked) want(t *testing.T, want int) {
	t.Helper()
	if got, e := a.pick(); got != want || e != api.OK {
		t.Errorf("%+v: %d, %v, want %d", a, got, e, want)
	}
}

// wantNobody: is it refused so, with the zero value beside the error?
func (a asked) wantNobody(t *testing.T, want api.Errno) {
	t.Helper()
	if got, e := a.pick(); got != 0 || e != want {
		t.Errorf("%+v: %d, %v, want 0, %v", a, got, e, want)
	}
}

// along: the same, with another walk and other tries.
func (a asked) along(tries int, walk ...int) asked {
	a.walk, a.tries = walk, tries
	return a
}

// of: the same, with other loads.
func (a asked) of(l ...api.Load) asked {
	a.l = l
	return a
}

// even: each cap is 2. The backends 0 and 3 have no room; 2 has the least flows for its weight, and 1 has room, but more flows. 4 takes nothing.
func even() asked {
	return asked{num: 1, den: 1, flows: 7}.of(
		api.Load{Backend: 0, Weight: 1, Flows: 2}, api.Load{Backend: 1, Weight: 1, Flows: 1},
		api.Load{Backend: 2, Weight: 1, Flows: 0}, api.Load{Backend: 3, Weight: 1, Flows: 2},
		api.Load{Backend: 4, Weight: 0, Flows: 0})
}

// uneven: each cap is two for a unit of weight. The backend 2 has no room; 5, 7 and 11 have.
func uneven() asked {
	return asked{num: 1, den: 1, flows: 15}.of(
		api.Load{Backend: 2, Weight: 1, Flows: 2}, api.Load{Backend: 5, Weight: 1, Flows: 1},
		api.Load{Backend: 7, Weight: 2, Flows: 1}, api.Load{Backend: 11, Weight: 4, Flows: 3})
}

// full: somebody takes something, and nobody has room.
func full() asked {
	return even().of(api.Load{Backend: 1, Weight: 3, Flows: 8}, api.Load{Backend: 2}, api.Load{Backend: 6, Weight: 1, Flows: 2})
}

// idle: nobody takes something.
func idle() asked {
	return even().of(api.Load{Backend: 1}, api.Load{Backend: 2, Flows: 3}, api.Load{Backend: 11, Flows: maxFlows})
}

// strangers: what may stand in a walk beside the backends of even that take something: one of no weight, some of no load, some that are no backends, and some that look like one where bits are lost.
func strangers() []int {
	return []int{4, 5, 11, 12, 13, 40, -1, -2, math.MinInt, math.MinInt + 1, math.MaxInt, 1 << 8, 1<<8 + 1, 1<<16 + 1, 1 << 32, 1<<32 + 1, -1<<32 + 1}
}

// P8.1, the chapter's example: one try, a walk 2 1, no room at 2.
func TestExample(t *testing.T) {
	two := api.Load{Backend: 2, Weight: 1, Flows: 3}
	a := asked{num: 1, den: 1, flows: 5}.along(1, 2, 1)
	a.of(api.Load{Backend: 1, Weight: 1, Flows: 1}, two).want(t, 1)
	a.of(api.Load{Backend: 1, Weight: 1, Flows: 1}, two, api.Load{Backend: 3, Weight: 1}).want(t, 3)
	a.of(api.Load{Backend: 0, Weight: 1}, api.Load{Backend: 1, Weight: 1, Flows: 1}, two).want(t, 0)
	a.of(api.Load{Backend: 1, Weight: 1}, two, api.Load{Backend: 3, Weight: 1, Flows: 1}).want(t, 1)
}

// P8.1: the first with room in the walk's order, though another has less flows; behind the tries the walk is not looked at.
func TestFirstOfTheWalk(t *testing.T) {
	for _, c := range []struct {
		tries int
		walk  []int
		want  int
	}{
		{1, []int{1}, 1}, {1, []int{2}, 2}, {1, []int{1, 2}, 1}, {1, []int{2, 1}, 2}, {12, []int{1, 2}, 1}, {12, []int{2, 1}, 2},
		{3, []int{0, 1, 2}, 1}, {2, []int{0, 1, 2}, 1}, {1, []int{0, 1, 2}, 2}, {0, []int{1, 0, 3}, 2}, {0, []int{1}, 2},
		{4, []int{3, 0, 1, 2}, 1}, {3, []int{3, 0, 1, 2}, 1}, {2, []int{3, 0, 1, 2}, 2}, {1, []int{3, 0, 1, 2}, 2},
		{4, []int{3, 0, 2, 1}, 2}, {3, []int{0, 3, 1}, 1}, {2, []int{0, 3, 1}, 2},
	} {
		even().along(c.tries, c.walk...).want(t, c.want)
	}
}

// P8.1: the walk tells backends, not places of loads.
func TestWalkTellsBackends(t *testing.T) {
	uneven().along(1, 5).want(t, 5)
	uneven().along(1, 7).want(t, 7)
	uneven().along(1, 11).want(t, 11)
	uneven().along(4, 0, 1, 2, 3, 11).want(t, 11)
	uneven().along(2, 0, 1, 3, 2, 5).want(t, 5)
	uneven().along(1, 0, 1, 3, 11, 5).want(t, 11)
}

// P8.1: a backend has room, if its Flows are below its cap: at the cap it has none, one below it has.
func TestRoom(t *testing.T) {
	for weight := 1; weight <= maxWeight; weight++ {
		for flows := range maxFlows + 1 {
			most, _ := bound.Cap(5, 4, flows, weight, weight+1)
			for has := range maxFlows + 1 {
				a := asked{num: 5, den: 4, flows: flows}.along(1, 3).of(api.Load{Backend: 3, Weight: weight, Flows: has}, api.Load{Backend: 8, Weight: 1, Flows: maxFlows})
				if has < most {
					a.want(t, 3)
				} else {
					a.wantNobody(t, api.ErrFull)
				}
			}
		}
	}
}

// P8.1: whoever takes nothing, has no load or is no backend is passed over, and is no try, wherever it stands.
func TestPassedOver(t *testing.T) {
	for _, x := range strangers() {
		even().along(1, x, 1).want(t, 1)
		even().along(1, x, x, x, 1).want(t, 1)
		even().along(2, x, 0, x, 1).want(t, 1)
		even().along(2, 0, x, 1).want(t, 1)
		even().along(1, 0, x, 1).want(t, 2)
		even().along(1, x, 0, x, 1).want(t, 2)
		even().along(1, 1, x).want(t, 1)
		even().along(0, x, 1).want(t, 2)
		even().along(12, x).want(t, 2)
		for _, y := range strangers() {
			even().along(1, x, y, 1).want(t, 1)
			even().along(2, x, 3, y, 1, 2).want(t, 1)
			even().along(12, x, y).want(t, 2)
		}
	}
	even().along(1, 4, 5, 6, 7, 8, 9, 10, 11, 12, 13, -1, 1).want(t, 1)
}

// P8.1: one that takes nothing is never picked, neither from the walk nor as the least one.
func TestTakesNothing(t *testing.T) {
	a := even().of(api.Load{Backend: 0}, api.Load{Backend: 1, Weight: 1, Flows: 7}, api.Load{Backend: 2})
	for tries := range backends + 1 {
		a.along(tries).want(t, 1)
		a.along(tries, 0).want(t, 1)
		a.along(tries, 2, 0).want(t, 1)
		a.along(tries, 0, 1, 2).want(t, 1)
	}
}

// P8.1: one that stands in the walk twice is two tries.
func TestTwiceIsTwo(t *testing.T) {
	even().along(1, 0, 0, 1).want(t, 2)
	even().along(2, 0, 0, 1).want(t, 2)
	even().along(3, 0, 0, 1).want(t, 1)
	even().along(3, 0, 3, 0, 1).want(t, 2)
	even().along(4, 0, 3, 0, 1).want(t, 1)
	even().along(2, 0, 4, 0, 1).want(t, 2)
	even().along(3, 0, 4, 0, 1).want(t, 1)
	even().along(1, 1, 1, 2).want(t, 1)
	for n := range backends {
		walk := append(slices.Repeat([]int{3}, n), 1)
		for tries := range backends + 1 {
			want := 2
			if tries > n {
				want = 1
			}
			even().along(tries, walk...).want(t, want)
		}
	}
}

// P8.1: nobody that is looked at has room: the least flows for the weight count, not the least flows, nor the greatest weight, nor the walk.
func TestLeast(t *testing.T) {
	a := uneven()
	for _, walk := range [][]int{nil, {2}, {2, 5}, {2, 11, 5}, {2, 7}, {2, 5, 7, 11}, {0, 4}, {5}, {11, 5}} {
		a.along(0, walk...).want(t, 7)
		if len(walk) > 0 && walk[0] < 5 {
			a.along(1, walk...).want(t, 7)
		}
	}
	a.l[2].Flows = 4 // no room: 3 of 4 is less than 1 of 1
	a.along(1, 2, 5, 7).want(t, 11)
	a.along(2, 2, 7, 5).want(t, 11)
	a.along(3, 2, 7, 5).want(t, 5)
	a.l[3].Flows = 8
	a.along(1, 2, 11).want(t, 5)
	a.along(3, 2, 7, 11).want(t, 5)
	a.along(0).want(t, 5)
	a.l[0].Flows = 0
	a.along(0, 11).want(t, 2)
	a.along(1, 11, 5).want(t, 2)
}

// pair: two loads that both have room, of which nobody is looked at.
func pair(wa, fa, wb, fb int) asked {
	return asked{num: maxFactor, den: 1, flows: maxFlows}.of(api.Load{Backend: 4, Weight: wa, Flows: fa}, api.Load{Backend: 9, Weight: wb, Flows: fb})
}

// P8.1: quotients that round to the same whole number, some to the same tenth, are told from each other.
func TestExactly(t *testing.T) {
	pair(5, 2, 8, 3).want(t, 9)
	pair(8, 3, 5, 2).want(t, 4)
	pair(3, 5, 2, 3).want(t, 9)
	pair(2, 3, 3, 5).want(t, 4)
	pair(8, 7, 7, 6).want(t, 9)
	pair(7, 6, 8, 7).want(t, 4)
	pair(8, 39, 7, 34).want(t, 9)
	pair(7, 34, 8, 39).want(t, 4)
	pair(8, 1, 7, 0).want(t, 9)
	pair(7, 40, 8, 40).want(t, 9)
}

// P8.1: all two loads that there are, held against exact fractions; of the same quotient the lower Backend.
func TestAllPairs(t *testing.T) {
	for wa := 1; wa <= maxWeight; wa++ {
		for wb := 1; wb <= maxWeight; wb++ {
			for fa := range maxFlows + 1 {
				for fb := range maxFlows + 1 {
					want := 4
					if big.NewRat(int64(fb), int64(wb)).Cmp(big.NewRat(int64(fa), int64(wa))) < 0 {
						want = 9
					}
					pair(wa, fa, wb, fb).want(t, want)
				}
			}
		}
	}
}

// P8.1: of several with the same quotient the lowest Backend, whatever the walk says.
func TestLowestOfSeveral(t *testing.T) {
	a := asked{num: 2, den: 1, flows: 20}.of(
		api.Load{Backend: 0, Weight: 1, Flows: 1}, api.Load{Backend: 3, Weight: 4, Flows: 2},
		api.Load{Backend: 6, Weight: 2, Flows: 1}, api.Load{Backend: 8, Weight: 8, Flows: 4}, api.Load{Backend: 10, Weight: 3, Flows: 9})
	for _, walk := range [][]int{nil, {6}, {8, 6, 3}, {6, 3}, {0}, {10, 8}} {
		a.along(0, walk...).want(t, 3)
	}
	a.along(1, 10, 8, 6).want(t, 3)
	for n := 1; n <= backends; n++ {
		for first := range backends - n + 1 {
			for weight := 1; weight <= maxWeight; weight++ {
				a := asked{num: 1, den: 1, flows: 0}
				for b := first; b < first+n; b++ {
					a.l = append(a.l, api.Load{Backend: b, Weight: weight})
				}
				a.along(0, first+n-1).want(t, first)
				a.along(1, first+n-1).want(t, first+n-1)
			}
		}
	}
}

// P8.1: tries are from 0 to MaxBackends.
func TestTries(t *testing.T) {
	walk := append(slices.Repeat([]int{0}, backends-1), 1)
	even().along(0, 1).want(t, 2)
	even().along(0, walk...).want(t, 2)
	even().along(backends-1, walk...).want(t, 2)
	even().along(backends, walk...).want(t, 1)
	even().along(backends, 1).want(t, 1)
	for _, tries := range []int{-1, -2, -12, math.MinInt, backends + 1, backends + 2, 40, 1 << 8, 1 << 32, 1<<32 + 1, math.MaxInt} {
		even().along(tries, 1).wantNobody(t, api.ErrRange)
		even().along(tries, walk...).wantNobody(t, api.ErrRange)
		even().along(tries).wantNobody(t, api.ErrRange)
	}
}

// P8.1: a walk has at most MaxBackends, whatever stands in it; without any the least one is picked.
func TestLengthOfTheWalk(t *testing.T) {
	for tries := range backends + 1 {
		a := even().along(tries)
		a.walk = nil
		a.want(t, 2)
		a.walk = []int{}
		a.want(t, 2)
	}
	for _, x := range append(strangers(), 0, 1, 2, 3) {
		for _, n := range []int{backends + 1, backends + 2, 40, 1000, 70000} {
			for _, tries := range []int{0, 1, backends} {
				even().along(tries, append([]int{1}, slices.Repeat([]int{x}, n-1)...)...).wantNobody(t, api.ErrRange)
			}
		}
		even().along(backends, append([]int{1}, slices.Repeat([]int{x}, backends-1)...)...).want(t, 1)
	}
	even().along(1, append(slices.Repeat([]int{-1}, backends-1), 1)...).want(t, 1)
}

// wrongLoads: loads that may not be.
func wrongLoads() [][]api.Load {
	many := make([]api.Load, backends+1)
	for b := range many {
		many[b] = api.Load{Backend: b, Weight: 1}
	}
	return [][]api.Load{
		many, make([]api.Load, 1000),
		{{Backend: -1, Weight: 1}}, {{Backend: backends, Weight: 1}}, {{Backend: math.MaxInt, Weight: 1}}, {{Backend: math.MinInt, Weight: 1}},
		{{Backend: 1, Weight: 1}, {Backend: 1, Weight: 1}}, {{Backend: 2, Weight: 1}, {Backend: 1, Weight: 1}}, {{Backend: 1}, {Backend: 0, Weight: 1}},
		{{Weight: -1}}, {{Weight: maxWeight + 1}}, {{Weight: math.MaxInt}}, {{Weight: math.MinInt}}, {{Weight: 1}, {Backend: 1, Weight: -1}},
		{{Weight: 1, Flows: -1}}, {{Weight: 1, Flows: maxFlows + 1}}, {{Weight: 1, Flows: math.MaxInt}}, {{Weight: 1, Flows: math.MinInt}},
		{{Weight: 1}, {Backend: 1, Flows: -1}}, {{Weight: 1}, {Backend: 1, Flows: maxFlows + 1}}, {{Flows: -1}}, {{Flows: maxFlows + 1}},
	}
}

// wrongNumbers: num, den and flows, one or more of them out of their bounds.
func wrongNumbers() [][3]int {
	return [][3]int{
		{0, 0, 7}, {0, 1, 7}, {1, 0, 7}, {1, 2, 7}, {5, 6, 7}, {5, -1, 7}, {-1, -1, 7}, {maxFactor + 1, 1, 7}, {maxFactor + 1, maxFactor + 1, 7},
		{math.MaxInt, 1, 7}, {math.MaxInt, math.MaxInt, 7}, {math.MinInt, math.MinInt, 7}, {5, math.MinInt, 7}, {1<<32 + 1, 1, 7},
		{1, 1, -1}, {1, 1, maxFlows + 1}, {1, 1, math.MaxInt}, {1, 1, math.MinInt}, {1, 1, 1 << 32}, {0, 0, -1}, {21, 22, 41},
	}
}

// with: the same, with other numbers.
func (a asked) with(n [3]int) asked {
	a.num, a.den, a.flows = n[0], n[1], n[2]
	return a
}

// P8.1: what Caps refuses is refused with the same error; loads that may not be ahead of all else.
func TestWhatCapsRefuses(t *testing.T) {
	tooLong := slices.Repeat([]int{1}, backends+1)
	for _, l := range wrongLoads() {
		for _, tries := range []int{0, 1, backends, -1, backends + 1} {
			for _, walk := range [][]int{nil, {0}, {1, 2}, {-1}, tooLong} {
				a := even().along(tries, walk...).of(l...)
				a.wantNobody(t, api.ErrState)
				for _, n := range wrongNumbers() {
					a.with(n).wantNobody(t, api.ErrState)
				}
			}
		}
	}
	for _, n := range wrongNumbers() {
		for _, right := range []asked{even(), uneven(), full(), idle(), {}} {
			for _, tries := range []int{0, 1, backends, -1, backends + 1} {
				a := right.along(tries, 2, 1).with(n)
				a.wantNobody(t, api.ErrRange)
				a.along(tries, tooLong...).wantNobody(t, api.ErrRange)
				if _, e := bound.Caps(a.l, a.num, a.den, a.flows); e != api.ErrRange {
					t.Errorf("Caps answers %v at %+v", e, a)
				}
			}
		}
	}
}

// P8.1: nobody takes something; nobody has room: whatever the walk and the tries.
func TestBusyAndFull(t *testing.T) {
	some := func() []api.Load { return []api.Load{{Backend: 3}, {Backend: 11, Flows: 5}} }
	for tries := range backends + 1 {
		for _, walk := range [][]int{nil, {1}, {6}, {2, 1, 6}, {6, 6, 6}, {-1, 40}, slices.Repeat([]int{1}, backends)} {
			full().along(tries, walk...).wantNobody(t, api.ErrFull)
			idle().along(tries, walk...).wantNobody(t, api.ErrBusy)
			even().along(tries, walk...).of().wantNobody(t, api.ErrBusy)
			even().along(tries, walk...).of([]api.Load{}...).wantNobody(t, api.ErrBusy)
			even().along(tries, walk...).of(some()...).wantNobody(t, api.ErrBusy)
			even().along(tries, walk...).of(append(some()[:1], api.Load{Backend: 4, Weight: 1, Flows: 8})...).wantNobody(t, api.ErrFull)
			even().along(tries, walk...).of(append(some()[:1], api.Load{Backend: 4, Weight: 1, Flows: 7})...).want(t, 4)
		}
	}
	full().of(full().l[0], api.Load{Backend: 6, Weight: 1, Flows: 1}).along(1, 1).want(t, 6)
	full().of(api.Load{Backend: 1, Weight: 3, Flows: 5}, full().l[2]).along(1, 6).want(t, 1)
}

// P8.1: tries or walks that are refused are told ahead of nobody that takes something, or has room.
func TestRangeAheadOfBusyAndFull(t *testing.T) {
	tooLong := slices.Repeat([]int{1}, backends+1)
	for _, a := range []asked{full(), idle(), even().of()} {
		for _, tries := range []int{-1, backends + 1, math.MinInt, math.MaxInt} {
			a.along(tries, 1, 6).wantNobody(t, api.ErrRange)
			a.along(tries).wantNobody(t, api.ErrRange)
			a.along(tries, tooLong...).wantNobody(t, api.ErrRange)
		}
		for tries := range backends + 1 {
			a.along(tries, tooLong...).wantNobody(t, api.ErrRange)
		}
	}
}

// told: what the chapter's words pick, apart from the program. Flows are below a cap that is rounded up just where they are below what it was rounded from.
func told(a asked) (int, api.Errno) {
	var taking, room, looked []api.Load
	total := 0
	for _, load := range a.l {
		total += load.Weight
	}
	for _, load := range a.l {
		if load.Weight > 0 {
			taking = append(taking, load)
			if load.Flows*a.den*total < a.num*(a.flows+1)*load.Weight {
				room = append(room, load)
			}
		}
	}
	for _, backend := range a.walk {
		for _, load := range taking {
			if load.Backend == backend {
				looked = append(looked, load)
			}
		}
	}
	for _, load := range looked[:min(a.tries, len(looked))] {
		if slices.Contains(room, load) {
			return load.Backend, api.OK
		}
	}
	slices.SortStableFunc(room, func(x, y api.Load) int {
		return big.NewRat(int64(x.Flows), int64(x.Weight)).Cmp(big.NewRat(int64(y.Flows), int64(y.Weight)))
	})
	switch {
	case len(taking) == 0:
		return 0, api.ErrBusy
	case len(room) == 0:
		return 0, api.ErrFull
	}
	return room[0].Backend, api.OK
}

// holds: is it picked as told, and does come of it what the chapter says?
func holds(t *testing.T, a asked) {
	t.Helper()
	got, e := a.pick()
	if want, why := told(a); got != want || e != why {
		t.Fatalf("%+v: %d, %v, want %d, %v", a, got, e, want, why)
	}
	caps, no := bound.Caps(a.l, a.num, a.den, a.flows)
	if no != api.OK {
		t.Fatalf("Caps refuses %+v: %v", a, no)
	}
	sum, taking := 0, false
	for i, load := range a.l {
		if load.Weight == 0 {
			continue
		}
		sum, taking = sum+load.Flows, true
		if e == api.OK && load.Backend == got && load.Flows+1 > caps[i] {
			t.Fatalf("%+v: %d is picked, with a cap of %d", a, got, caps[i])
		}
	}
	if taking && sum <= a.flows && e != api.OK {
		t.Fatalf("%+v: nobody is picked: %v", a, e)
	}
}

// P8.1, and what comes of it: all small loads of three backends, along some walks.
func TestAllSmallLoads(t *testing.T) {
	walks := [][]int{nil, {1}, {2, 1}, {0, 2}, {1, 1, 0}, {3, 0, 2, 1}, {2, 2, 1, 0}, {-1, 1, 12, 2}}
	for n := range 9 * 9 * 9 {
		var l []api.Load
		for b, rest := 0, n; b < 3; b, rest = b+1, rest/9 {
			l = append(l, api.Load{Backend: b, Weight: rest % 3, Flows: rest % 9 / 3})
		}
		for _, walk := range walks {
			for tries := range 4 {
				for flows := range 7 {
					holds(t, asked{walk, l, 1, 1, flows, tries})
				}
			}
		}
	}
}

// drawn: loads of some backends, with a walk of some numbers; flows are just those of all that take something, or any.
func drawn(d *rand.Rand) asked {
	most := 1 + d.Intn(maxFlows)
	a := asked{num: 1 + d.Intn(maxFactor), tries: d.Intn(backends + 1)}
	a.den = a.num - d.Intn(a.num)*d.Intn(2)
	sum := 0
	for b := range backends {
		load := api.Load{Backend: b, Weight: d.Intn(maxWeight + 1), Flows: d.Intn(most + 1)}
		if d.Intn(3) == 0 {
			continue
		}
		if load.Weight > 0 {
			sum += load.Flows
		}
		a.l = append(a.l, load)
	}
	for range d.Intn(backends + 1) {
		a.walk = append(a.walk, d.Intn(backends+4)-2)
	}
	a.flows = sum
	if sum > maxFlows || d.Intn(2) == 0 {
		a.flows = d.Intn(maxFlows + 1)
	}
	return a
}

// P8.1, and what comes of it: drawn ones, of which enough are of each kind.
func TestDrawn(t *testing.T) {
	d := rand.New(rand.NewSource(8))
	picked, nobody := 0, 0
	for range 40000 {
		a := drawn(d)
		holds(t, a)
		if _, e := a.pick(); e == api.OK {
			picked++
		} else {
			nobody++
		}
	}
	if picked < 10000 || nobody < 1000 {
		t.Errorf("%d are picked, %d not: too few to tell", picked, nobody)
	}
}

// roomy: a list with spare room that is filled.
func roomy[T any](l []T, with T) []T {
	room := append(make([]T, 0, len(l)+20), l...)
	for i := len(l); i < cap(room); i++ {
		room[:cap(room)][i] = with
	}
	return room
}

// whole list, its spare room, too.
func whole[T any](l []T) []T { return slices.Clone(l[:cap(l)]) }

// Pick changes no list that it was given, nor its spare room, whether it refuses or not; asked again it answers the same.
func TestNothingIsChanged(t *testing.T) {
	d := rand.New(rand.NewSource(88))
	list := []asked{even().along(1, 0, 1), uneven().along(2, 2, 5), full().along(1, 1), idle().along(1, 1), even().along(-1, 1), even().along(1, make([]int, 13)...)}
	for _, l := range wrongLoads() {
		list = append(list, even().along(2, 1, 2).of(l...))
	}
	for range 2000 {
		list = append(list, drawn(d))
	}
	for _, a := range list {
		a.walk, a.l = roomy(a.walk, -7), roomy(a.l, api.Load{Backend: -7, Weight: -8, Flows: -9})
		walk, l := whole(a.walk), whole(a.l)
		got, e := a.pick()
		again, same := a.pick()
		if got != again || e != same {
			t.Fatalf("%+v: %d, %v, and the second time %d, %v", a, got, e, again, same)
		}
		if !slices.Equal(whole(a.walk), walk) || !slices.Equal(whole(a.l), l) {
			t.Fatalf("%+v: the walk was %v, the loads were %v", a, walk, l)
		}
	}
}

// What a call answers hangs on its arguments alone: calls between do not change it.
func TestNothingIsKept(t *testing.T) {
	d := rand.New(rand.NewSource(888))
	for range 500 {
		drawn(d).pick()
		even().along(2, 0, 1).want(t, 1)
		uneven().along(1, 2).want(t, 7)
		full().along(1, 1).wantNobody(t, api.ErrFull)
		idle().along(1, 1).wantNobody(t, api.ErrBusy)
	}
}
