package ramp

import (
	"math"
	"math/big"
	"math/rand"
	"testing"

	"usher/api"
)

// The faces stay as the chapter writes them.
var (
	_ func(int, int, int, int) (int, api.Errno) = Weight
	_ func(int, int) (int, api.Errno)           = Full
)

const (
	maxWeight = 8
	maxSpan   = 500
	maxTick   = 1 << 40
)

var (
	wrongWeights = []int{0, -1, -8, math.MinInt, maxWeight + 1, maxWeight + 2, 256, 1 << 32, 1<<32 + 1, math.MaxInt}
	wrongWarms   = []int{-1, -2, -maxSpan, math.MinInt, maxSpan + 1, maxSpan + 2, 1 << 32, 1<<32 + 1, math.MaxInt}
	wrongTicks   = []int{-1, -2, -maxTick, math.MinInt, maxTick + 1, maxTick + 2, maxTick + maxSpan, 1 << 41, math.MaxInt}
)

// wantWeight: does Weight answer so, without an error?
func wantWeight(t *testing.T, weight, since, now, warm, want int) {
	t.Helper()
	if got, e := Weight(weight, since, now, warm); got != want || e != api.OK {
		t.Errorf("Weight(%d, %d, %d, %d): %d, %v, want %d, %v", weight, since, now, warm, got, e, want, api.OK)
	}
}

// wantNoWeight: is it refused, with the zero value beside the error?
func wantNoWeight(t *testing.T, weight, since, now, warm int) {
	t.Helper()
	if got, e := Weight(weight, since, now, warm); got != 0 || e != api.ErrRange {
		t.Errorf("Weight(%d, %d, %d, %d): %d, %v, want 0, %v", weight, since, now, warm, got, e, api.ErrRange)
	}
}

func wantFull(t *testing.T, since, warm, want int) {
	t.Helper()
	if got, e := Full(since, warm); got != want || e != api.OK {
		t.Errorf("Full(%d, %d): %d, %v, want %d, %v", since, warm, got, e, want, api.OK)
	}
}

func wantNoFull(t *testing.T, since, warm int) {
	t.Helper()
	if got, e := Full(since, warm); got != 0 || e != api.ErrRange {
		t.Errorf("Full(%d, %d): %d, %v, want 0, %v", since, warm, got, e, api.ErrRange)
	}
}

// told: the weight as the chapter's words have it, without a division: the greatest whole number of which warm times as much is no more than the weight times the ticks gone by.
func told(weight, gone, warm int) int {
	if gone >= warm {
		return weight
	}
	n := 1
	for (n+1)*warm <= weight*gone {
		n++
	}
	return n
}

// P6.1: the chapter's examples, from the tick 0 on and from later ones.
func TestExamples(t *testing.T) {
	for _, since := range []int{0, 1, 7, 1000, maxTick - 10} {
		wantWeight(t, 8, since, since, 10, 1)
		wantWeight(t, 8, since, since+5, 10, 4)
		wantWeight(t, 8, since, since+10, 10, 8)
	}
}

// P6.1: ordinary weights at several ticks, worked out by hand: what is left over is dropped.
func TestWeight(t *testing.T) {
	for _, c := range []struct{ weight, since, now, warm, want int }{
		{8, 0, 1, 10, 1},
		{8, 0, 2, 10, 1},
		{8, 0, 3, 10, 2},
		{8, 0, 4, 10, 3},
		{8, 0, 6, 10, 4},
		{8, 0, 7, 10, 5},
		{8, 0, 8, 10, 6},
		{8, 0, 9, 10, 7},
		{8, 0, 11, 10, 8},
		{5, 100, 103, 7, 2},
		{5, 100, 106, 7, 4},
		{5, 100, 107, 7, 5},
		{3, 40, 46, 9, 2},
		{3, 40, 45, 9, 1},
		{2, 40, 48, 9, 1},
		{7, 6, 206, 400, 3},
		{7, 6, 350, 400, 6},
		{4, 2, 252, 500, 2},
		{4, 2, 251, 500, 1},
	} {
		wantWeight(t, c.weight, c.since, c.now, c.warm, c.want)
	}
}

// P6.1: a weight that rounds down to 0 is 1; the first tick at which it does not, and those round the first at which it is 2.
func TestWeightIsOneAtLeast(t *testing.T) {
	for gone := range 63 {
		wantWeight(t, 8, 30, 30+gone, 500, 1)
	}
	wantWeight(t, 8, 30, 30+63, 500, 1)
	wantWeight(t, 8, 30, 30+124, 500, 1)
	wantWeight(t, 8, 30, 30+125, 500, 2)
	for gone := range 600 {
		wantWeight(t, 1, 30, 30+gone, 500, 1)
	}
}

// P6.1: the tick ahead of the one at which as many ticks as warm have gone by, that one, the one behind it, and the last of all.
func TestWeightRoundItsEnd(t *testing.T) {
	for _, since := range []int{0, 1, 12345, maxTick - maxSpan - 1} {
		for _, warm := range []int{2, 3, 8, 10, maxSpan - 1, maxSpan} {
			for weight := 1; weight <= maxWeight; weight++ {
				wantWeight(t, weight, since, since+warm-1, warm, told(weight, warm-1, warm))
				wantWeight(t, weight, since, since+warm, warm, weight)
				wantWeight(t, weight, since, since+warm+1, warm, weight)
				wantWeight(t, weight, since, maxTick, warm, weight)
			}
		}
	}
	wantWeight(t, 8, 0, maxSpan-1, maxSpan, 7)
	wantWeight(t, 8, 0, 1, 2, 4)
}

// P6.1: without a warm-up the weight is whole at once; with one of a single tick, from the next tick on.
func TestWeightOfNoWarmUp(t *testing.T) {
	for _, since := range []int{0, 1, 99, maxTick - 1} {
		for weight := 1; weight <= maxWeight; weight++ {
			wantWeight(t, weight, since, since, 0, weight)
			wantWeight(t, weight, since, since+1, 0, weight)
			wantWeight(t, weight, since, since, 1, 1)
			wantWeight(t, weight, since, since+1, 1, weight)
		}
	}
	wantWeight(t, 8, maxTick, maxTick, 0, 8)
	wantWeight(t, 8, maxTick, maxTick, 1, 1)
	wantWeight(t, 8, maxTick, maxTick, maxSpan, 1)
	wantWeight(t, 8, 0, maxTick, 0, 8)
}

// P6.1: all weights and warm-ups, at all ticks up to a few behind the end, from the first tick on and up to the last one.
func TestAllWeights(t *testing.T) {
	for weight := 1; weight <= maxWeight; weight++ {
		for warm := 0; warm <= maxSpan; warm++ {
			for gone := 0; gone <= warm+2; gone++ {
				want := told(weight, gone, warm)
				for _, since := range []int{0, maxTick - gone} {
					if got, e := Weight(weight, since, since+gone, warm); got != want || e != api.OK {
						t.Fatalf("Weight(%d, %d, %d, %d): %d, %v, want %d", weight, since, since+gone, warm, got, e, want)
					}
				}
			}
		}
	}
}

// P6.1: a weight that is not from 1 to MaxWeight, where it would be whole and where it would not.
func TestWeightOutOfRange(t *testing.T) {
	for _, weight := range wrongWeights {
		wantNoWeight(t, weight, 0, 0, 0)
		wantNoWeight(t, weight, 0, 0, 10)
		wantNoWeight(t, weight, 5, 8, 10)
		wantNoWeight(t, weight, 5, 15, 10)
		wantNoWeight(t, weight, maxTick, maxTick, maxSpan)
	}
}

// P6.1: warm that is not from 0 to MaxSpan, before as many ticks have gone by and behind that.
func TestWeightWarmOutOfRange(t *testing.T) {
	for _, warm := range wrongWarms {
		wantNoWeight(t, 1, 0, 0, warm)
		wantNoWeight(t, 8, 5, 8, warm)
		wantNoWeight(t, 8, 5, 5+maxSpan+1, warm)
		wantNoWeight(t, 8, 0, maxTick, warm)
	}
}

// P6.1: since that is not from 0 to MaxTick, with now at it, one behind it, and at right ticks.
func TestWeightSinceOutOfRange(t *testing.T) {
	for _, since := range wrongTicks {
		wantNoWeight(t, 1, since, since, 0)
		wantNoWeight(t, 8, since, since, 10)
		wantNoWeight(t, 8, since, 0, 10)
		wantNoWeight(t, 8, since, 7, 10)
		wantNoWeight(t, 8, since, maxTick, 10)
		if since < math.MaxInt {
			wantNoWeight(t, 8, since, since+1, 10)
		}
	}
}

// P6.1: now that is not from since to MaxTick: one ahead of since, further ahead, and beyond the last tick.
func TestWeightNowOutOfRange(t *testing.T) {
	for _, since := range []int{0, 1, 7, 1000, maxTick - 1, maxTick} {
		for _, warm := range []int{0, 1, 10, maxSpan} {
			wantNoWeight(t, 8, since, since-1, warm)
			wantNoWeight(t, 8, since, since-warm-1, warm)
			for _, now := range wrongTicks {
				wantNoWeight(t, 8, since, now, warm)
			}
		}
	}
	wantNoWeight(t, 8, 7, 0, 10)
	wantNoWeight(t, 8, maxTick, 0, 10)
}

// P6.1: several that are wrong at once, among them pairs of which one undoes the other.
func TestWeightAllOutOfRange(t *testing.T) {
	for _, weight := range wrongWeights {
		for _, warm := range wrongWarms {
			wantNoWeight(t, weight, 0, 5, warm)
			for _, since := range wrongTicks {
				wantNoWeight(t, 8, since, since, warm)
				wantNoWeight(t, weight, since, since, 10)
				for _, now := range wrongTicks {
					wantNoWeight(t, weight, since, now, warm)
				}
			}
		}
	}
}

// P6.2: since and warm together, at all edges; behind the last tick, too, for the chapter bounds no more than since and warm.
func TestFull(t *testing.T) {
	for _, c := range []struct{ since, warm, want int }{
		{0, 0, 0},
		{0, 1, 1},
		{0, maxSpan, 500},
		{3, 4, 7},
		{4, 3, 7},
		{1, 0, 1},
		{1000, 250, 1250},
		{maxTick - maxSpan, maxSpan, 1 << 40},
		{maxTick - 1, 1, 1 << 40},
		{maxTick, 0, 1 << 40},
		{maxTick, 1, 1<<40 + 1},
		{maxTick, maxSpan, 1<<40 + 500},
	} {
		wantFull(t, c.since, c.warm, c.want)
	}
}

// P6.2: drawn ones, summed apart from the program.
func TestFullOfDrawnOnes(t *testing.T) {
	d := rand.New(rand.NewSource(6))
	for range 2000 {
		since, warm := d.Intn(maxTick+1), d.Intn(maxSpan+1)
		sum := new(big.Int).Add(big.NewInt(int64(since)), big.NewInt(int64(warm)))
		wantFull(t, since, warm, int(sum.Int64()))
	}
}

// P6.2: a wrong since, a wrong warm, and both.
func TestFullOutOfRange(t *testing.T) {
	for _, since := range wrongTicks {
		for _, warm := range []int{0, 1, 10, maxSpan} {
			wantNoFull(t, since, warm)
		}
		for _, warm := range wrongWarms {
			wantNoFull(t, since, warm)
		}
	}
	for _, warm := range wrongWarms {
		for _, since := range []int{0, 1, 600, maxTick - maxSpan, maxTick} {
			wantNoFull(t, since, warm)
		}
	}
}

// What comes of P6.1 and P6.2: from tick to tick the weight never falls, is 1 at least and never more than the weight, and is whole from Full on.
func TestWeightNeverFalls(t *testing.T) {
	d := rand.New(rand.NewSource(66))
	for range 3000 {
		weight, since, warm := 1+d.Intn(maxWeight), d.Intn(maxTick-2*maxSpan), d.Intn(maxSpan+1)
		full, e := Full(since, warm)
		if e != api.OK {
			t.Fatalf("Full(%d, %d): %v", since, warm, e)
		}
		last := 1
		for now := since; now <= full+20; now++ {
			got, e := Weight(weight, since, now, warm)
			if e != api.OK || got < last || got > weight || (now >= full && got != weight) {
				t.Fatalf("Weight(%d, %d, %d, %d): %d, %v, behind %d, with Full at %d", weight, since, now, warm, got, e, last, full)
			}
			last = got
		}
		wantWeight(t, weight, since, maxTick, warm, weight)
	}
}

// What comes of P6.1 and P6.2: no weight but 1 is whole ahead of Full.
func TestWeightIsNotWholeAheadOfFull(t *testing.T) {
	for weight := 2; weight <= maxWeight; weight++ {
		for warm := 1; warm <= maxSpan; warm++ {
			full, _ := Full(9, warm)
			if got, e := Weight(weight, 9, full-1, warm); got >= weight || e != api.OK {
				t.Fatalf("Weight(%d, 9, %d, %d): %d, %v, ahead of Full", weight, full-1, warm, got, e)
			}
		}
	}
}

// What a call answers hangs on its arguments alone: calls between do not change it.
func TestNothingIsKept(t *testing.T) {
	for i := range 100 {
		Weight(i%9, i, 2*i, i)
		Full(i-50, i)
		wantWeight(t, 8, 0, 5, 10, 4)
		wantFull(t, 3, 4, 7)
	}
}
