package tally

import (
	"fmt"
	"math"
	"slices"
	"testing"

	"usher/api"
)

// The faces stay as the chapter writes them.
var (
	_ func([]api.Output) (api.Counts, api.Errno)               = Of
	_ func([]api.Output) (int, api.Errno)                      = Live
	_ func([]api.Output, api.Handle) ([]api.Output, api.Errno) = Story
	_ func([]api.Output) ([]int, api.Errno)                    = By
)

// The numbers as the document has them, so that no bound is asked of itself.
const (
	accept, refuse, forward, serve, again = 1, 2, 3, 4, 5
	reset, closed, reply, gone, bad       = 6, 7, 8, 9, 10

	kinds    = 10 // from 1 on
	whys     = 5  // from 0 on
	backends = 12 // from 0 on
)

var (
	ofFlows  = []int{accept, forward, serve, again, reset, closed}
	ofOthers = []int{refuse, reply, gone, bad}

	wrongKinds    = []int{0, -1, -6, math.MinInt, kinds + 1, kinds + 2, 256 + accept, 1<<32 + accept, math.MaxInt}
	wrongWhys     = []int{-1, -5, math.MinInt, whys + 1, whys + 2, 256, 1 << 32, math.MaxInt}
	wrongBackends = []int{-1, -12, math.MinInt, backends, backends + 1, 256, 1 << 32, math.MaxInt}

	// odd numbers for what no bound is told of.
	odd = []int{math.MinInt, -1 << 32, -1, 0, 1, 39, 40, 1 << 20, 1 << 32, math.MaxInt}
)

// out of a flow.
func out(kind, slot, gen, backend int) api.Output {
	return api.Output{Kind: kind, Slot: slot, Gen: gen, Backend: backend}
}

func because(o api.Output, why int) api.Output {
	o.Why = why
	return o
}

// ofKinds: one output of each, all of one handle and backend.
func ofKinds(l ...int) []api.Output {
	var outs []api.Output
	for _, kind := range l {
		outs = append(outs, out(kind, 0, 0, 0))
	}
	return outs
}

// by: counts of some backends, as pairs; 0 of the others.
func by(pairs ...[2]int) []int {
	l := make([]int, backends)
	for _, p := range pairs {
		l[p[0]] = p[1]
	}
	return l
}

// emptied: all ways to hand in no output.
func emptied() map[string][]api.Output {
	return map[string][]api.Output{
		"nil":               nil,
		"empty":             {},
		"empty, with room":  make([]api.Output, 0, 4),
		"empty, wrong room": []api.Output{{Kind: 11, Why: 9, Backend: 99}}[:0],
	}
}

// placed: a list of right outputs with one more at each of its places.
func placed(right []api.Output, o api.Output) [][]api.Output {
	var l [][]api.Output
	for i := range len(right) + 1 {
		l = append(l, slices.Insert(slices.Clone(right), i, o))
	}
	return l
}

// brief: as much of a list as can be read.
func brief(l []api.Output) string {
	if len(l) > 12 {
		return fmt.Sprintf("%d outputs, the first %+v", len(l), l[:12])
	}
	return fmt.Sprintf("%+v", l)
}

func wantOf(t *testing.T, l []api.Output, want api.Counts) {
	t.Helper()
	if got, err := Of(l); err != api.OK || got != want {
		t.Errorf("Of(%s): %v %v, want %v", brief(l), got, err, want)
	}
}

func wantLive(t *testing.T, l []api.Output, want int) {
	t.Helper()
	if got, err := Live(l); err != api.OK || got != want {
		t.Errorf("Live(%s): %v %v, want %v", brief(l), got, err, want)
	}
}

func wantStory(t *testing.T, l []api.Output, h api.Handle, want ...api.Output) {
	t.Helper()
	if got, err := Story(l, h); err != api.OK || !slices.Equal(got, want) {
		t.Errorf("Story(%s, %v): %+v %v, want %+v", brief(l), h, got, err, want)
	}
}

func wantBy(t *testing.T, l []api.Output, want []int) {
	t.Helper()
	if got, err := By(l); err != api.OK || !slices.Equal(got, want) {
		t.Errorf("By(%s): %v %v, want %v", brief(l), got, err, want)
	}
}

func noOf(t *testing.T, l []api.Output, want api.Errno) {
	t.Helper()
	if got, err := Of(l); err != want || got != (api.Counts{}) {
		t.Errorf("Of(%s): %v %v, want nothing and %v", brief(l), got, err, want)
	}
}

func noLive(t *testing.T, l []api.Output, want api.Errno) {
	t.Helper()
	if got, err := Live(l); err != want || got != 0 {
		t.Errorf("Live(%s): %v %v, want nothing and %v", brief(l), got, err, want)
	}
}

func noStory(t *testing.T, l []api.Output, h api.Handle, want api.Errno) {
	t.Helper()
	if got, err := Story(l, h); err != want || len(got) != 0 {
		t.Errorf("Story(%s, %v): %v %v, want nothing and %v", brief(l), h, got, err, want)
	}
}

func noBy(t *testing.T, l []api.Output, want api.Errno) {
	t.Helper()
	if got, err := By(l); err != want || len(got) != 0 {
		t.Errorf("By(%s): %v %v, want nothing and %v", brief(l), got, err, want)
	}
}

// noKind: are all four calls refused with ErrKind, whatever handle is asked for?
func noKind(t *testing.T, l []api.Output) {
	t.Helper()
	noOf(t, l, api.ErrKind)
	noLive(t, l, api.ErrKind)
	noBy(t, l, api.ErrKind)
	for _, h := range []api.Handle{{}, {Slot: 1, Gen: 2}, {Slot: -1, Gen: math.MaxInt}} {
		noStory(t, l, h, api.ErrKind)
	}
}
