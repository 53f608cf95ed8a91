package bound

import (
	"math"
	"math/big"
	"math/rand"
	"slices"
	"testing"

	"usher/api"
)

// The faces stay as the chapter writes them.
var (
	_ func(int, int, int, int, int) (int, api.Errno)     = Cap
	_ func([]api.Load, int, int, int) ([]int, api.Errno) = Caps
)

const (
	maxFactor = 20
	maxFlows  = 40
	backends  = 12
	maxWeight = 8
	maxTotal  = 96
)

// share: num and den.
type share struct{ num, den int }

var (
	rightShares = []share{{1, 1}, {2, 1}, {2, 2}, {5, 4}, {7, 3}, {19, 19}, {maxFactor, 1}, {maxFactor, 3}, {maxFactor, maxFactor}}
	wrongShares = []share{
		{0, 0}, {0, 1}, {1, 0}, {1, 2}, {4, 5}, {5, 0}, {5, 6}, {19, 20}, {maxFactor, 0}, {maxFactor, maxFactor + 1},
		{maxFactor + 1, 0}, {maxFactor + 1, 1}, {maxFactor + 1, maxFactor}, {maxFactor + 1, maxFactor + 1}, {maxFactor + 1, maxFactor + 2},
		{5, -1}, {5, -5}, {-1, -1}, {-1, 1}, {-4, -5}, {-5, -4}, {256, 1}, {1<<32 + 5, 4}, {5, 1<<32 + 4},
		{math.MaxInt, 1}, {math.MaxInt, math.MaxInt}, {math.MinInt, math.MinInt}, {math.MinInt, 1}, {5, math.MinInt}, {5, math.MaxInt},
	}
	rightFlows = []int{0, 1, 7, maxFlows - 1, maxFlows}
	wrongFlows = []int{-1, -2, -maxFlows, math.MinInt, maxFlows + 1, maxFlows + 2, 256, 1 << 32, 1<<32 + 7, math.MaxInt}
)

// of: a weight among a total.
type of struct{ weight, total int }

var (
	rightWeights = []of{{1, 1}, {1, 2}, {2, 2}, {1, 4}, {8, 8}, {8, maxTotal}, {1, maxTotal}, {maxTotal - 1, maxTotal}, {maxTotal, maxTotal}}
	wrongWeights = []of{
		{0, 0}, {0, 1}, {0, 4}, {0, maxTotal}, {2, 1}, {5, 4}, {maxTotal, maxTotal - 1}, {maxTotal + 1, maxTotal},
		{0, maxTotal + 1}, {1, maxTotal + 1}, {8, maxTotal + 1}, {maxTotal + 1, maxTotal + 1}, {maxTotal + 2, maxTotal + 1},
		{1, 0}, {-1, 4}, {-1, -1}, {-5, -4}, {1, -1}, {1, 1 << 32}, {1, 1<<32 + 4}, {1<<32 + 1, 4},
		{1, math.MaxInt}, {math.MaxInt, math.MaxInt}, {math.MinInt, math.MinInt}, {math.MinInt, 4}, {math.MaxInt, 4}, {1, math.MinInt},
	}
)

// wantCap: does Cap answer so, without an error?
func wantCap(t *testing.T, s share, flows int, w of, want int) {
	t.Helper()
	if got, e := Cap(s.num, s.den, flows, w.weight, w.total); got != want || e != api.OK {
		t.Errorf("Cap of %v, %d flows, %v: %d, %v, want %d", s, flows, w, got, e, want)
	}
}

// wantNoCap: is it refused, with the zero value beside the error?
func wantNoCap(t *testing.T, s share, flows int, w of) {
	t.Helper()
	if got, e := Cap(s.num, s.den, flows, w.weight, w.total); got != 0 || e != api.ErrRange {
		t.Errorf("Cap of %v, %d flows, %v: %d, %v, want 0, %v", s, flows, w, got, e, api.ErrRange)
	}
}

func wantCaps(t *testing.T, l []api.Load, s share, flows int, want ...int) {
	t.Helper()
	if got, e := Caps(l, s.num, s.den, flows); !slices.Equal(got, want) || e != api.OK {
		t.Errorf("Caps of %v, %v, %d flows: %v, %v, want %v", l, s, flows, got, e, want)
	}
}

func wantNoCaps(t *testing.T, l []api.Load, s share, flows int, want api.Errno) {
	t.Helper()
	if got, e := Caps(l, s.num, s.den, flows); len(got) != 0 || e != want {
		t.Errorf("Caps of %v, %v, %d flows: %v, %v, want none, %v", l, s, flows, got, e, want)
	}
}

// told: a cap as the chapter's words have it, as an exact fraction, apart from the program.
func told(s share, flows int, w of) int {
	over := big.NewRat(int64(s.num), int64(s.den))
	over.Mul(over, big.NewRat(int64(w.weight), int64(w.total)))
	over.Mul(over, big.NewRat(int64(flows)+1, 1))
	whole, rest := new(big.Int).DivMod(over.Num(), over.Denom(), new(big.Int))
	if rest.Sign() > 0 {
		whole.Add(whole, big.NewInt(1))
	}
	return int(whole.Int64())
}

// allTold: the caps of all loads, apart from the program.
func allTold(l []api.Load, s share, flows int) []int {
	total := 0
	for _, load := range l {
		total += load.Weight
	}
	caps := []int{}
	for _, load := range l {
		if load.Weight == 0 {
			caps = append(caps, 0)
		} else {
			caps = append(caps, told(s, flows, of{load.Weight, total}))
		}
	}
	return caps
}

// weighing: loads of the backends from 0 on, with these weights.
func weighing(weights ...int) []api.Load {
	var l []api.Load
	for b, w := range weights {
		l = append(l, api.Load{Backend: b, Weight: w})
	}
	return l
}

// numbered: loads of these backends, each of the weight 1.
func numbered(numbers ...int) []api.Load {
	var l []api.Load
	for _, b := range numbers {
		l = append(l, api.Load{Backend: b, Weight: 1})
	}
	return l
}

// all backends, with the same weight and flows.
func all(weight, flows int) []api.Load {
	var l []api.Load
	for b := range backends {
		l = append(l, api.Load{Backend: b, Weight: weight, Flows: flows})
	}
	return l
}

// but: loads with one of them made another.
func but(l []api.Load, i int, load api.Load) []api.Load {
	l = slices.Clone(l)
	l[i] = load
	return l
}

// some loads that may be.
func some() [][]api.Load {
	return [][]api.Load{
		nil, {}, weighing(0), weighing(1), weighing(8), numbered(backends - 1), {{Backend: 11, Weight: 8, Flows: 40}},
		weighing(0, 0), weighing(1, 3), weighing(1, 0, 3), numbered(0, 11), numbered(3, 5, 10),
		{{Backend: 2, Weight: 5, Flows: 40}, {Backend: 3, Flows: 1}, {Backend: 9, Weight: 8}, {Backend: 11, Weight: 1, Flows: 7}},
		all(0, 0), all(0, maxFlows), all(1, 0), all(1, maxFlows), all(maxWeight, 0), all(maxWeight, maxFlows),
		but(all(0, 3), 0, api.Load{Weight: 1}), but(all(0, 3), 11, api.Load{Backend: 11, Weight: 8}),
		weighing(1, 2, 3, 4, 5, 6, 7, 8, 0, 1, 2, 3),
	}
}

// wrong loads, each with one thing that may not be.
func wrong() map[string][]api.Load {
	return map[string][]api.Load{
		"one more than MaxBackends":                 append(all(1, 0), api.Load{Backend: backends, Weight: 1}),
		"one more than MaxBackends, the last twice": append(all(1, 0), api.Load{Backend: backends - 1, Weight: 1}),
		"one more than MaxBackends, of no weight":   append(all(0, 0), api.Load{Backend: backends}),
		"many":                              numbered(make([]int, 1000)...),
		"Backend -1":                        numbered(-1),
		"Backend -1 ahead of others":        numbered(-1, 0, 1),
		"Backend MaxBackends":               numbered(backends),
		"Backend MaxBackends behind others": numbered(0, 11, 12),
		"Backend MinInt":                    numbered(math.MinInt, 3),
		"Backend MaxInt":                    numbered(3, math.MaxInt),
		"Backend 2^32":                      numbered(3, 1<<32),
		"Backend 2^32 + 4":                  numbered(3, 1<<32+4),
		"Backends MaxInt, then one that wraps round": numbered(math.MaxInt, math.MinInt),
		"Backends alike":                               numbered(4, 4),
		"Backends 0 alike":                             numbered(0, 0),
		"Backends alike at the end":                    numbered(1, 3, 11, 11),
		"Backends alike, of no weight":                 {{Backend: 4}, {Backend: 4}},
		"Backends alike, the second of no weight":      {{Backend: 4, Weight: 2}, {Backend: 4}},
		"Backends that fall":                           numbered(5, 4),
		"Backends that fall to 0":                      numbered(1, 0),
		"Backends that fall behind some that rise":     numbered(1, 3, 5, 4),
		"Backends that fall, then rise":                numbered(5, 4, 6, 7),
		"Backends alike, but not side by side":         numbered(2, 3, 2),
		"Backends that fall, of no weight":             {{Backend: 5}, {Backend: 4}},
		"Weight -1":                                    weighing(-1),
		"Weight -1 among others":                       weighing(2, -1, 3),
		"Weight -8 that makes the total 0":             weighing(8, -8),
		"Weight MaxWeight + 1":                         weighing(maxWeight + 1),
		"Weight MaxWeight + 1 at the end":              weighing(1, 2, maxWeight+1),
		"Weight MinInt":                                weighing(math.MinInt),
		"Weight MaxInt":                                weighing(1, math.MaxInt),
		"Weight 2^32 + 1":                              weighing(1<<32 + 1),
		"Flows -1":                                     {{Weight: 1, Flows: -1}},
		"Flows -1 among others":                        {{Weight: 1}, {Backend: 1, Weight: 2, Flows: -1}, {Backend: 2}},
		"Flows MaxFlows + 1":                           {{Weight: 1, Flows: maxFlows + 1}},
		"Flows MaxFlows + 1 at the end":                {{Weight: 1}, {Backend: 11, Weight: 8, Flows: maxFlows + 1}},
		"Flows -1 of one that takes nothing":           {{Weight: 1}, {Backend: 1, Flows: -1}},
		"Flows MaxFlows + 1 of one that takes nothing": {{Flows: maxFlows + 1}},
		"Flows MinInt":                                 {{Weight: 1, Flows: math.MinInt}},
		"Flows MaxInt":                                 {{Weight: 1, Flows: math.MaxInt}},
		"all wrong":                                    {{Backend: -1, Weight: -1, Flows: -1}, {Backend: 12, Weight: 9, Flows: 41}},
	}
}

// P7.1: the chapter's example; caps worked out by hand, some of which are rounded up and some divide evenly.
func TestCap(t *testing.T) {
	for _, c := range []struct {
		s     share
		flows int
		w     of
		want  int
	}{
		{share{5, 4}, 7, of{1, 4}, 3},
		{share{5, 4}, 7, of{2, 4}, 5},
		{share{5, 4}, 7, of{3, 4}, 8},
		{share{5, 4}, 7, of{4, 4}, 10},
		{share{1, 1}, 0, of{1, 1}, 1},
		{share{1, 1}, 0, of{1, maxTotal}, 1},
		{share{1, 1}, 0, of{maxTotal, maxTotal}, 1},
		{share{1, 1}, 7, of{1, 4}, 2},
		{share{1, 1}, 8, of{1, 4}, 3},
		{share{1, 1}, 6, of{1, 4}, 2},
		{share{1, 1}, 40, of{1, 1}, 41},
		{share{3, 2}, 9, of{1, 3}, 5},
		{share{3, 2}, 10, of{1, 3}, 6},
		{share{7, 3}, 4, of{2, 5}, 5},
		{share{20, 1}, 40, of{96, 96}, 820},
		{share{20, 1}, 40, of{1, 96}, 9},
		{share{20, 20}, 40, of{8, 96}, 4},
		{share{20, 19}, 40, of{8, 96}, 4},
		{share{20, 3}, 0, of{1, 1}, 7},
	} {
		wantCap(t, c.s, c.flows, c.w, c.want)
	}
}

// P7.1: all that there are: a cap is the least number of which den times total as much is not below what is divided.
func TestAllCaps(t *testing.T) {
	for num := 1; num <= maxFactor; num++ {
		for den := 1; den <= num; den++ {
			for flows := range maxFlows + 1 {
				for total := 1; total <= maxTotal; total++ {
					for weight := 1; weight <= total; weight++ {
						got, e := Cap(num, den, flows, weight, total)
						over, under := num*(flows+1)*weight, den*total
						if e != api.OK || got*under < over || (got-1)*under >= over {
							t.Fatalf("Cap(%d, %d, %d, %d, %d): %d, %v", num, den, flows, weight, total, got, e)
						}
					}
				}
			}
		}
	}
}

// P7.1: the edges of all bounds together, held against exact fractions.
func TestCapAtItsEdges(t *testing.T) {
	for _, s := range rightShares {
		for _, flows := range rightFlows {
			for _, w := range rightWeights {
				wantCap(t, s, flows, w, told(s, flows, w))
			}
		}
	}
}

// P7.1: den that is not from 1 to num, num above MaxFactor, and both.
func TestCapShareOutOfRange(t *testing.T) {
	for _, s := range wrongShares {
		for _, flows := range rightFlows {
			for _, w := range rightWeights {
				wantNoCap(t, s, flows, w)
			}
		}
	}
}

// P7.1: flows that are not from 0 to MaxFlows.
func TestCapFlowsOutOfRange(t *testing.T) {
	for _, flows := range wrongFlows {
		for _, s := range rightShares {
			for _, w := range rightWeights {
				wantNoCap(t, s, flows, w)
			}
		}
	}
}

// P7.1: a weight that is not from 1 to total, a total above the most that backends can have, and both.
func TestCapWeightOutOfRange(t *testing.T) {
	for _, w := range wrongWeights {
		for _, s := range rightShares {
			for _, flows := range rightFlows {
				wantNoCap(t, s, flows, w)
			}
		}
	}
}

// P7.1: several that are wrong at once, among them pairs of which one undoes the other.
func TestCapAllOutOfRange(t *testing.T) {
	for _, s := range wrongShares {
		for _, flows := range wrongFlows {
			wantNoCap(t, s, flows, of{1, 4})
			for _, w := range wrongWeights {
				wantNoCap(t, s, 7, w)
				wantNoCap(t, share{5, 4}, flows, w)
				wantNoCap(t, s, flows, w)
			}
		}
	}
}

// P7.2: loads that may be: none, as many as there are backends, and all numbers at their edges.
func TestLoadsThatMayBe(t *testing.T) {
	for _, l := range some() {
		for _, s := range rightShares {
			for _, flows := range rightFlows {
				wantCaps(t, l, s, flows, allTold(l, s, flows)...)
			}
		}
	}
	for b := range backends {
		for weight := range maxWeight + 1 {
			for flows := range maxFlows + 1 {
				l := []api.Load{{Backend: b, Weight: weight, Flows: flows}}
				wantCaps(t, l, share{5, 4}, 7, 10*min(1, weight))
			}
		}
	}
}

// P7.2, P7.3: loads that may not be.
func TestLoadsThatMayNotBe(t *testing.T) {
	for name, l := range wrong() {
		t.Run(name, func(t *testing.T) {
			for _, s := range rightShares {
				for _, flows := range rightFlows {
					wantNoCaps(t, l, s, flows, api.ErrState)
				}
			}
		})
	}
}

// P7.2: each load of all backends made wrong by itself, wherever it stands.
func TestEachLoadCounts(t *testing.T) {
	right := all(2, 3)
	wantCaps(t, right, share{5, 4}, 7, slices.Repeat([]int{1}, backends)...)
	for i := range right {
		for _, load := range []api.Load{
			{Backend: i - 1, Weight: 2}, {Backend: i + 1, Weight: 2}, {Backend: -1, Weight: 2}, {Backend: backends, Weight: 2},
			{Backend: i, Weight: -1}, {Backend: i, Weight: maxWeight + 1},
			{Backend: i, Weight: 2, Flows: -1}, {Backend: i, Weight: 2, Flows: maxFlows + 1},
			{Backend: i, Flows: -1}, {Backend: i, Flows: maxFlows + 1},
		} {
			wantNoCaps(t, but(right, i, load), share{5, 4}, 7, api.ErrState)
		}
		wantCaps(t, but(right, i, api.Load{Backend: i, Weight: 2, Flows: maxFlows}), share{5, 4}, 7, slices.Repeat([]int{1}, backends)...)
	}
}

// P7.3: caps worked out by hand: each load's weight among the total of all; 0 where there is no weight.
func TestCaps(t *testing.T) {
	wantCaps(t, weighing(1, 0, 3), share{5, 4}, 7, 3, 0, 8)
	wantCaps(t, weighing(1, 3), share{5, 4}, 7, 3, 8)
	wantCaps(t, weighing(0, 4, 0), share{5, 4}, 7, 0, 10, 0)
	wantCaps(t, weighing(1, 1, 2), share{1, 1}, 7, 2, 2, 4)
	wantCaps(t, weighing(1, 1, 2), share{1, 1}, 8, 3, 3, 5)
	wantCaps(t, weighing(2, 3, 5), share{3, 2}, 9, 3, 5, 8)
	wantCaps(t, weighing(8, 1), share{1, 1}, 0, 1, 1)
	wantCaps(t, []api.Load{{Backend: 3, Weight: 5}, {Backend: 7}, {Backend: 11, Weight: 1}}, share{2, 1}, 5, 10, 0, 2)
	wantCaps(t, all(maxWeight, 0), share{maxFactor, 1}, maxFlows, slices.Repeat([]int{69}, backends)...)
	wantCaps(t, all(1, 0), share{1, 1}, 0, slices.Repeat([]int{1}, backends)...)
}

// P7.3: without a load there is no cap, and without a weight each cap is 0, whatever the flows.
func TestCapsOfNoWeight(t *testing.T) {
	for _, s := range rightShares {
		for _, flows := range rightFlows {
			wantCaps(t, nil, s, flows)
			wantCaps(t, []api.Load{}, s, flows)
			for n := 1; n <= backends; n++ {
				wantCaps(t, all(0, 0)[:n], s, flows, make([]int, n)...)
				wantCaps(t, all(0, maxFlows)[:n], s, flows, make([]int, n)...)
			}
		}
	}
}

// P7.3: caps do not hang on which backends there are, nor on the flows that each has.
func TestCapsHangOnWeights(t *testing.T) {
	for flows := range maxFlows + 1 {
		wantCaps(t, []api.Load{{Backend: 2, Weight: 1, Flows: flows}, {Backend: 9, Weight: 3, Flows: maxFlows - flows}}, share{5, 4}, 7, 3, 8)
	}
}

// P7.3: den, num or flows out of their bounds, also where no load has a weight, and where there is no load.
func TestCapsOutOfRange(t *testing.T) {
	for _, l := range some() {
		for _, s := range wrongShares {
			for _, flows := range append(slices.Clone(rightFlows), wrongFlows...) {
				wantNoCaps(t, l, s, flows, api.ErrRange)
			}
		}
		for _, flows := range wrongFlows {
			for _, s := range rightShares {
				wantNoCaps(t, l, s, flows, api.ErrRange)
			}
		}
	}
}

// P7.3: where loads may not be, and den, num or flows are wrong, too, the loads are told.
func TestCapsTellsLoadsFirst(t *testing.T) {
	for _, l := range wrong() {
		for _, s := range wrongShares {
			wantNoCaps(t, l, s, 7, api.ErrState)
			for _, flows := range wrongFlows {
				wantNoCaps(t, l, share{5, 4}, flows, api.ErrState)
				wantNoCaps(t, l, s, flows, api.ErrState)
			}
		}
	}
}

// drawn loads, of some backends.
func drawn(d *rand.Rand) []api.Load {
	var l []api.Load
	for b := range backends {
		if d.Intn(3) > 0 {
			l = append(l, api.Load{Backend: b, Weight: d.Intn(maxWeight + 1), Flows: d.Intn(maxFlows + 1)})
		}
	}
	return l
}

// P7.3, and what comes of it: drawn ones held against exact fractions; where a load has a weight, caps together are more than the flows, and 1 at least each.
func TestCapsAreMoreThanFlows(t *testing.T) {
	d := rand.New(rand.NewSource(7))
	for range 20000 {
		num := 1 + d.Intn(maxFactor)
		s, l, flows := share{num, 1 + d.Intn(num)}, drawn(d), d.Intn(maxFlows+1)
		got, e := Caps(l, s.num, s.den, flows)
		if e != api.OK || !slices.Equal(got, allTold(l, s, flows)) {
			t.Fatalf("Caps of %v, %v, %d flows: %v, %v", l, s, flows, got, e)
		}
		sum, total := 0, 0
		for i, load := range l {
			sum, total = sum+got[i], total+load.Weight
			if (load.Weight == 0) != (got[i] == 0) {
				t.Fatalf("Caps of %v, %v, %d flows: %v, with %d at %d", l, s, flows, got, got[i], i)
			}
		}
		if total > 0 && sum <= flows {
			t.Fatalf("Caps of %v, %v, %d flows: %v, together %d", l, s, flows, got, sum)
		}
	}
}

// What comes of it: with the share 1, all weights that loads of a few backends can have, and all flows.
func TestCapsOfTheLeastShare(t *testing.T) {
	for a := range maxWeight + 1 {
		for b := range maxWeight + 1 {
			for c := range maxWeight + 1 {
				for flows := range maxFlows + 1 {
					got, e := Caps(weighing(a, b, c), 1, 1, flows)
					if e != api.OK || len(got) != 3 || (a+b+c > 0) != (got[0]+got[1]+got[2] > flows) {
						t.Fatalf("Caps of %d, %d, %d, %d flows: %v, %v", a, b, c, flows, got, e)
					}
				}
			}
		}
	}
}

// roomy: loads with spare room that is filled with the same numbers each time.
func roomy(l []api.Load) []api.Load {
	room := append(make([]api.Load, 0, len(l)+20), l...)
	for i := len(l); i < cap(room); i++ {
		room[:cap(room)][i] = api.Load{Backend: -7, Weight: -8, Flows: -9}
	}
	return room
}

// whole list, its spare room, too.
func whole[T any](l []T) []T { return slices.Clone(l[:cap(l)]) }

// scribble over a list and its spare room.
func scribble[T any](l []T, with T) {
	l = l[:cap(l)]
	for i := range l {
		l[i] = with
	}
}

// Caps changes no list that it was given, nor its spare room; what it answers has memory of its own, whether it refuses or not.
func TestNothingShared(t *testing.T) {
	lists := some()
	for _, l := range wrong() {
		lists = append(lists, l)
	}
	for _, l := range lists {
		for _, s := range append(slices.Clone(rightShares), wrongShares...) {
			given := roomy(l)
			before := whole(given)
			first, e := Caps(given, s.num, s.den, 7)
			second, again := Caps(given, s.num, s.den, 7)
			if !slices.Equal(whole(given), before) {
				t.Fatalf("Caps changed its loads %v", l)
			}
			if e != again || !slices.Equal(first, second) {
				t.Fatalf("Caps of %v answers otherwise the second time", l)
			}
			kept := whole(second)
			scribble(first, -1)
			if !slices.Equal(whole(given), before) || !slices.Equal(whole(second), kept) {
				t.Fatalf("Caps of %v: what it answers shares memory", l)
			}
			scribble(given, api.Load{Backend: -1, Weight: -2, Flows: -3})
			if !slices.Equal(whole(second), kept) {
				t.Fatalf("Caps of %v keeps its loads", l)
			}
		}
	}
}

// What a call answers hangs on its arguments alone: calls between do not change it.
func TestNothingIsKept(t *testing.T) {
	for i := range 100 {
		Cap(i%21, i%7, i%42, i%9, i)
		Caps(all(i%10, i%41), i%21, i%7, i%42)
		wantCap(t, share{5, 4}, 7, of{1, 4}, 3)
		wantCaps(t, weighing(1, 0, 3), share{5, 4}, 7, 3, 0, 8)
	}
}
