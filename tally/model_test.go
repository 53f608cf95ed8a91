package tally

import (
	"math/rand"
	"reflect"
	"slices"
	"testing"

	"usher/api"
	"usher/core"
	"usher/table"
)

// drawn outputs, of few handles, so that they meet; seldom one is wrong.
func drawn(dice *rand.Rand, wrong int) []api.Output {
	l := make([]api.Output, dice.Intn(25))
	for i := range l {
		l[i] = api.Output{
			Kind: 1 + dice.Intn(kinds), Slot: dice.Intn(3), Gen: dice.Intn(2), Backend: dice.Intn(backends),
			Request: dice.Intn(4), Code: api.Errno(dice.Intn(13)), Why: dice.Intn(whys + 1),
		}
	}
	for range min(wrong, len(l)) {
		o := &l[dice.Intn(len(l))]
		switch dice.Intn(3) {
		case 0:
			o.Kind = wrongKinds[dice.Intn(len(wrongKinds))]
		case 1:
			o.Why = wrongWhys[dice.Intn(len(wrongWhys))]
		case 2:
			o.Backend = wrongBackends[dice.Intn(len(wrongBackends))]
		}
	}
	return l
}

// has: is there an output of which this is so?
func has(l []api.Output, so func(api.Output) bool) bool { return slices.ContainsFunc(l, so) }

func toldKind(l []api.Output) api.Errno {
	if has(l, func(o api.Output) bool { return o.Kind < 1 || o.Kind > 10 || o.Why < 0 || o.Why > 5 }) {
		return api.ErrKind
	}
	return api.OK
}

// number of outputs that have one of these kinds.
func number(l []api.Output, kinds ...int) int {
	n := 0
	for _, o := range l {
		if slices.Contains(kinds, o.Kind) {
			n++
		}
	}
	return n
}

func toldOf(l []api.Output) api.Counts {
	var c api.Counts
	for kind := 1; kind <= 10; kind++ {
		c.Outputs[kind] = number(l, kind)
	}
	for why := 0; why <= 5; why++ {
		c.Whys[why] = number(slices.DeleteFunc(slices.Clone(l), func(o api.Output) bool { return o.Why != why }), 6)
	}
	return c
}

func toldStory(l []api.Output, h api.Handle) []api.Output {
	return slices.DeleteFunc(slices.Clone(l), func(o api.Output) bool {
		return o.Slot != h.Slot || o.Gen != h.Gen || o.Kind == 2 || o.Kind >= 8
	})
}

// toldBy: an output counts if none of the four kinds comes behind it with its handle.
func toldBy(l []api.Output) []int {
	counts := make([]int, 12)
	for i, o := range l {
		later := has(l[i+1:], func(p api.Output) bool {
			return p.Slot == o.Slot && p.Gen == o.Gen && (p.Kind == 1 || p.Kind == 5 || p.Kind == 6 || p.Kind == 7)
		})
		if (o.Kind == 1 || o.Kind == 5) && !later {
			counts[o.Backend]++
		}
	}
	return counts
}

// asTold: do all four calls answer what the chapter's words say?
func asTold(t *testing.T, l []api.Output) {
	t.Helper()
	if toldKind(l) != api.OK {
		noKind(t, l)
		return
	}
	wantOf(t, l, toldOf(l))
	if n := number(l, 1) - number(l, 6, 7); n < 0 {
		noLive(t, l, api.ErrState)
	} else {
		wantLive(t, l, n)
	}
	for slot := range 4 {
		for gen := range 3 {
			h := api.Handle{Slot: slot, Gen: gen}
			wantStory(t, l, h, toldStory(l, h)...)
		}
	}
	if has(l, func(o api.Output) bool { return o.Backend < 0 || o.Backend > 11 }) {
		noBy(t, l, api.ErrRange)
	} else {
		wantBy(t, l, toldBy(l))
	}
}

// P13.1 to P13.4: drawn lists, right and wrong ones.
func TestDrawn(t *testing.T) {
	dice := rand.New(rand.NewSource(13))
	for range 4000 {
		asTold(t, drawn(dice, 0))
		asTold(t, drawn(dice, 1))
		asTold(t, drawn(dice, 1+dice.Intn(4)))
	}
}

// roomed: a list with spare room that is filled.
func roomed(l []api.Output) []api.Output {
	more := slices.Concat(l, slices.Repeat([]api.Output{{Kind: -1, Slot: -2, Gen: -3, Backend: -4, Request: -5, Code: -6, Why: -7}}, 5))
	return more[:len(l)]
}

// region of memory that a list has, its spare room, too.
func region[E any](l []E) [2]uintptr {
	from := reflect.ValueOf(l).Pointer()
	return [2]uintptr{from, from + uintptr(cap(l))*reflect.TypeFor[E]().Size()}
}

// wantApart: do no two of these regions meet?
func wantApart(t *testing.T, l ...[2]uintptr) {
	t.Helper()
	for i, a := range l {
		for _, b := range l[:i] {
			if a[0] < b[1] && b[0] < a[1] {
				t.Fatal("two lists share memory")
			}
		}
	}
}

// No argument is changed, nor the room behind it, each answer comes the same again, and is new memory.
func TestNothingShared(t *testing.T) {
	dice := rand.New(rand.NewSource(31))
	for i := range 2000 {
		l := roomed(drawn(dice, i%2))
		before := slices.Clone(l[:cap(l)])
		h := api.Handle{Slot: dice.Intn(3), Gen: dice.Intn(2)}
		asTold(t, l)
		s1, err1 := Story(l, h)
		s2, err2 := Story(l, h)
		b1, err3 := By(l)
		b2, err4 := By(l)
		if !slices.Equal(s1, s2) || err1 != err2 || !slices.Equal(b1, b2) || err3 != err4 {
			t.Fatalf("%s: another answer the second time", brief(l))
		}
		wantApart(t, region(l), region(s1), region(s2), region(b1), region(b2))
		for _, s := range [][]api.Output{s1[:cap(s1)], s2[:cap(s2)]} {
			clear(s)
		}
		if !slices.Equal(l[:cap(l)], before) {
			t.Fatalf("%s: it was changed", brief(before))
		}
	}
}

// P13.3: a story that is the whole list is a list of its own all the same.
func TestWholeStoryIsNew(t *testing.T) {
	l := roomed(ofKinds(accept, forward, serve, again, reset, closed))
	for n := range len(l) + 1 {
		s, err := Story(l[:n], api.Handle{})
		if err != api.OK || !slices.Equal(s, l[:n]) {
			t.Errorf("Story of the first %d: %v %v", n, s, err)
		}
		wantApart(t, region(l), region(s))
	}
}

// drawnEvent that a gate may be given, whatever it makes of it.
func drawnEvent(dice *rand.Rand, step int) api.Event {
	e := api.Event{Slot: dice.Intn(6), Gen: dice.Intn(1 + step/20)}
	switch n := dice.Intn(20); {
	case n < 5:
		return api.Event{Kind: api.Open, Key: dice.Intn(100)}
	case n < 7:
		e.Kind = api.Data
	case n < 8:
		e.Kind = api.Close
	case n < 12:
		e.Kind, e.Good = api.Answer, dice.Intn(3) > 0
	case n < 14:
		return api.Event{Kind: api.Join, Request: step + 1, Backend: dice.Intn(backends), Weight: 1 + dice.Intn(8)}
	case n < 15:
		return api.Event{Kind: api.Retire, Request: step + 1, Backend: dice.Intn(backends)}
	default:
		return api.Event{Kind: api.Tick}
	}
	return e
}

// addsUp: is what can be counted of all that went out what the gate's table has?
func addsUp(t *testing.T, all []api.Output, w api.World) {
	t.Helper()
	wantLive(t, all, len(w.Flows))
	counts, err := table.Counts(w.Table)
	if err != api.OK {
		t.Fatalf("Counts: %v", err)
	}
	wantBy(t, all, counts)
}

// What comes of it: what is live is what the backends have, together, behind each event of a gate.
func TestGatesAddUp(t *testing.T) {
	dice := rand.New(rand.NewSource(7))
	var seen api.Counts
	for range 60 {
		w, err := core.Begin(api.Config{
			Flows: 6, Num: 20, Den: 1, Tries: 12, Warm: dice.Intn(5), Drain: 3, Idle: 4, Connect: 3, Retries: 2, Most: 50,
			Budget: api.Budget{Num: 1, Den: 2, Burst: 3}, Watch: api.Watch{Window: 4, Fails: 2, Hold: 5},
		})
		var all, more []api.Output
		for step := 0; step < 300 && err == api.OK; step++ {
			w, more, err = core.Do(w, drawnEvent(dice, step))
			all = append(all, more...)
			addsUp(t, all, w)
		}
		if err != api.OK {
			t.Fatalf("the gate refuses an event: %v", err)
		}
		toldStories(t, all)
		counts, _ := Of(all)
		for i, n := range counts.Outputs {
			seen.Outputs[i] += n
		}
		for i, n := range counts.Whys {
			seen.Whys[i] += n
		}
	}
	if slices.Contains(seen.Outputs[1:], 0) || slices.Contains(seen.Whys[1:], 0) {
		t.Errorf("not all outputs have come: %v", seen)
	}
	if seen.Outputs[0] != 0 || seen.Whys[0] != 0 {
		t.Errorf("a gate told what is no kind or no why: %v", seen)
	}
}

// toldStories: a flow of a gate begins with its Accept, and only its last output is an end.
func toldStories(t *testing.T, all []api.Output) {
	t.Helper()
	together := 0
	for _, o := range all {
		if o.Kind != accept {
			continue
		}
		s, err := Story(all, api.Handle{Slot: o.Slot, Gen: o.Gen})
		if err != api.OK || len(s) == 0 || s[0] != o || number(s, accept) != 1 || number(s[:len(s)-1], reset, closed) != 0 {
			t.Fatalf("the story of %v: %v %v", o, s, err)
		}
		together += len(s)
	}
	if n := number(all, ofFlows...); n != together {
		t.Fatalf("the stories have %d outputs together, %d went out", together, n)
	}
}
