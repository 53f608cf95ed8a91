package core

import (
	"slices"
	"testing"

	"usher/api"
)

// ticked: what a tick alone makes of a world.
func ticked(w api.World, change func(w *api.World)) api.World {
	return led(w, func(w *api.World) {
		w.Now++
		change(w)
	})
}

func nothing(*api.World) {}

// P12.11: where no time has come, a tick makes Now one more, and nothing goes out; the Wheel goes on, block by block.
func TestTickAlone(t *testing.T) {
	l := lives(active(3, 2, 0), drains(5, 1, 0, 5000, 1), retired(6, 1, 0, 2, 1))
	for _, from := range []int{0, 7, 8, 63, 64, 440, 511, 512, 1<<32 - 1, finalTick - 1} {
		var flows []api.Flow
		for i, after := range []int{2, 8, 64, 300, 499, 500} {
			flows = append(flows, waits(i, i, 1000*i, 3+2*(i%2), from+after))
		}
		w := made(config(), from, l, flows...)
		w.Book.Lives[1].Until = from + 2
		w.Health[3] = api.Health{Marks: []bool{true, false}, Times: 3}
		w.Health[8] = api.Health{Marks: []bool{true}, Out: true, Until: from + 2, Times: 3}
		w.Bucket.Tokens = 1
		wantDo(t, w, tick, ticked(w, nothing))
	}
	wantDo(t, begun(config()), tick, ticked(begun(config()), nothing))
}

// P12.11: all that are Joining are Active since Now, with a Health in which there is nothing, and on the ring.
func TestTickWakes(t *testing.T) {
	l := lives(joins(0, 1), active(2, 3, 40), joins(3, 8), drains(5, 1, 0, 90, 1), retired(6, 1, 0, 2, 1), joins(11, 4))
	w := made(config(), 50, l, waits(0, 0, 9, 5, 60))
	for _, b := range []int{0, 2, 3, 5, 6} {
		w.Health[b] = api.Health{Marks: []bool{true, false, true}, Out: b != 2, Times: 5}
		if b != 2 {
			w.Health[b].Until = 400
		}
	}
	want := ticked(w, func(w *api.World) {
		*lifeIn(w, 0), *lifeIn(w, 3), *lifeIn(w, 11) = active(0, 1, 51), active(3, 8, 51), active(11, 4, 51)
		w.Health[0], w.Health[3] = api.Health{}, api.Health{}
	})
	if len(want.Ring.Spots) != 4*(1+3+8+4) {
		t.Fatal("the ring is another one")
	}
	wantDo(t, w, tick, want)
}

// P12.11: who is awake takes flows from that tick on, also those that fail at it.
func TestTickWakesFirst(t *testing.T) {
	f := waits(0, 0, 9, 5, 51)
	w := made(config(), 50, lives(joins(3, 2), drains(5, 1, 0, 90, 1)), f)
	want := ticked(w, func(w *api.World) {
		*lifeIn(w, 3), lifeIn(w, 5).State = active(3, 2, 51), api.Retired
		*flowIn(w, 0) = tried(waits(0, 0, 9, 3, 61), 1)
		w.Health[5].Marks, w.Bucket.Tokens = []bool{true}, 4
	})
	moved := f
	moved.Backend = 3
	wantDo(t, w, tick, want, outOf(api.Again, moved), gone(5, 1))
}

// P12.11: Healths come back whose time has come, whatever their lives are.
func TestTickBringsBack(t *testing.T) {
	l := lives(active(1, 3, 40), active(2, 3, 40), drains(5, 1, 0, 90, 1), retired(6, 1, 0, 2, 1))
	w := made(config(), 50, l, waits(0, 0, 9, 5, 60))
	for b := range backends {
		w.Health[b] = api.Health{Marks: []bool{true, false, true, true}, Out: true, Until: 51 + b%2, Times: b % 11}
	}
	want := ticked(w, func(w *api.World) {
		for b := range backends {
			if b%2 == 0 {
				w.Health[b] = api.Health{Marks: []bool{true, false, true, true}, Times: b % 11}
			}
		}
	})
	wantDo(t, w, tick, want)
	wantDo(t, want, tick, ticked(want, func(w *api.World) {
		for b := range backends {
			w.Health[b] = api.Health{Marks: []bool{true, false, true, true}, Times: b % 11}
		}
	}))
}

// P12.11: who is back takes flows that fail at that tick.
func TestTickBringsBackFirst(t *testing.T) {
	f := waits(0, 0, 9, 5, 51)
	w := made(config(), 50, lives(active(3, 2, 0), drains(5, 1, 0, 90, 1)), f)
	w.Health[3] = api.Health{Out: true, Until: 51, Times: 1}
	moved := f
	moved.Backend = 3
	want := ticked(w, func(w *api.World) {
		lifeIn(w, 5).State = api.Retired
		*flowIn(w, 0) = tried(waits(0, 0, 9, 3, 61), 1)
		w.Health[3], w.Health[5].Marks, w.Bucket.Tokens = api.Health{Times: 1}, []bool{true}, 4
	})
	wantDo(t, w, tick, want, outOf(api.Again, moved), gone(5, 1))
	w.Health[3].Until = 52
	want = ticked(w, func(w *api.World) {
		without(w, 0)
		lifeIn(w, 5).State = api.Retired
		w.Health[5].Marks = []bool{true}
	})
	wantDo(t, w, tick, want, resetOf(f, api.WhyNobody), gone(5, 1))
}

// P12.11: flows whose Due is Now, by their slots: who is Serving is idle, the others fail.
func TestTickFlows(t *testing.T) {
	l := lives(active(3, 2, 0))
	idle := func(slot, due int) api.Flow { return serves(waits(slot, 10+slot, 100*slot, 3, due)) }
	late := func(slot, due int) api.Flow { return waits(slot, 10+slot, 100*slot, 3, due) }
	w := made(config(), 50, l, late(0, 51), idle(1, 51), idle(2, 52), late(3, 52), idle(4, 51), tried(late(5, 51), 3))
	w.Config.Most = 0
	want := ticked(w, func(w *api.World) {
		*flowIn(w, 0) = tried(late(0, 61), 1)
		without(w, 1)
		without(w, 4)
		without(w, 5)
		w.Health[3].Marks, w.Bucket.Tokens = []bool{true, true}, 4
	})
	wantDo(t, w, tick, want, outOf(api.Again, late(0, 0)), resetOf(idle(1, 0), api.WhyIdle), resetOf(idle(4, 0), api.WhyIdle), resetOf(late(5, 0), api.WhyConnect))
	next := ticked(want, func(w *api.World) {
		without(w, 2)
		*flowIn(w, 3) = tried(late(3, 62), 1)
		w.Health[3].Marks, w.Bucket.Tokens = []bool{true, true, true}, 2
	})
	wantDo(t, want, tick, next, resetOf(idle(2, 0), api.WhyIdle), outOf(api.Again, late(3, 0)))
}

// P12.11: each failure counts for the next flow: the first one spends, the second one throws its backend out, the third has nobody.
func TestTickFlowsOneByOne(t *testing.T) {
	l := lives(active(3, 2, 0))
	late := func(slot int) api.Flow { return waits(slot, 0, 9, 3, 51) }
	w := made(config(), 50, l, late(0), late(1), late(2))
	want := ticked(w, func(w *api.World) {
		without(w, 1)
		without(w, 2)
		*flowIn(w, 0) = tried(waits(0, 0, 9, 3, 61), 1)
		w.Health[3], w.Bucket.Tokens = api.Health{Marks: []bool{true}, Out: true, Until: 58, Times: 1}, 4
	})
	wantDo(t, w, tick, want, outOf(api.Again, late(0)), resetOf(late(1), api.WhyNobody), resetOf(late(2), api.WhyNobody))
	w.Bucket.Tokens = 3 // enough for one of them
	w.Config.Most = 0
	want = ticked(w, func(w *api.World) {
		without(w, 1)
		without(w, 2)
		*flowIn(w, 0) = tried(waits(0, 0, 9, 3, 61), 1)
		w.Health[3].Marks, w.Bucket.Tokens = []bool{true, true, true}, 1
	})
	wantDo(t, w, tick, want, outOf(api.Again, late(0)), resetOf(late(1), api.WhyConnect), resetOf(late(2), api.WhyConnect))
}

// P12.11: drains whose Until has come, by their backends, each with its flows by their slots; they end with their last flow.
func TestTickDrains(t *testing.T) {
	l := lives(active(1, 1, 0), drains(3, 2, 10, 51, 7), drains(5, 3, 20, 52, 8), drains(8, 4, 30, 51, 9))
	w := made(config(), 50, l,
		serves(waits(0, 0, 9, 8, 70)), waits(1, 1, 9, 3, 52), waits(2, 2, 9, 5, 70), serves(waits(3, 3, 9, 3, 70)), waits(4, 4, 9, 1, 70), waits(5, 5, 9, 8, 70))
	f := w.Flows
	want := ticked(w, func(w *api.World) {
		for _, slot := range []int{0, 1, 3, 5} {
			without(w, slot)
		}
		lifeIn(w, 3).State, lifeIn(w, 8).State = api.Retired, api.Retired
	})
	wantDo(t, w, tick, want,
		resetOf(f[1], api.WhyDrain), resetOf(f[3], api.WhyDrain), gone(3, 7),
		resetOf(f[0], api.WhyDrain), resetOf(f[5], api.WhyDrain), gone(8, 9))
	next := ticked(want, func(w *api.World) {
		without(w, 2)
		lifeIn(w, 5).State = api.Retired
	})
	wantDo(t, want, tick, next, resetOf(f[2], api.WhyDrain), gone(5, 8))
}

// P12.11: a flow whose own time comes at the tick at which its drain ends goes by its own time first.
func TestTickFlowsAheadOfDrains(t *testing.T) {
	l := lives(active(1, 1, 0), drains(3, 2, 10, 51, 7))
	idle, late, quiet := serves(waits(0, 0, 9, 3, 51)), waits(1, 0, 9, 3, 51), serves(waits(2, 0, 9, 3, 99))
	w := made(config(), 50, l, idle, late, quiet)
	moved := late
	moved.Backend = 1
	want := ticked(w, func(w *api.World) {
		without(w, 0)
		without(w, 2)
		*flowIn(w, 1) = tried(waits(1, 0, 9, 1, 61), 1)
		lifeIn(w, 3).State, w.Health[3].Marks, w.Bucket.Tokens = api.Retired, []bool{true}, 4
	})
	wantDo(t, w, tick, want, resetOf(idle, api.WhyIdle), outOf(api.Again, moved), resetOf(quiet, api.WhyDrain), gone(3, 7))
	w = made(config(), 50, l, idle, late) // no flow is left for the drain to cut off: it is gone once
	want = ticked(w, func(w *api.World) {
		without(w, 0)
		*flowIn(w, 1) = tried(waits(1, 0, 9, 1, 61), 1)
		lifeIn(w, 3).State, w.Health[3].Marks, w.Bucket.Tokens = api.Retired, []bool{true}, 4
	})
	wantDo(t, w, tick, want, resetOf(idle, api.WhyIdle), outOf(api.Again, moved), gone(3, 7))
}

// P12.11: all at once, in its order.
func TestTickAllAtOnce(t *testing.T) {
	l := lives(joins(0, 2), active(2, 1, 0), drains(4, 1, 0, 51, 7), drains(6, 1, 0, 60, 8), drains(9, 2, 3, 51, 9))
	cut, last, idle, late, more := waits(0, 3, 9, 9, 90), waits(1, 0, 9, 6, 51), serves(waits(2, 0, 9, 4, 51)), waits(3, 0, 9, 2, 51), waits(4, 1, 9, 4, 90)
	w := made(config(), 50, l, cut, last, idle, late, more)
	w.Health[0] = api.Health{Marks: []bool{true, true, true}, Out: true, Until: 99, Times: 9}
	w.Health[2] = api.Health{Marks: []bool{true}, Out: true, Until: 51, Times: 2}
	w.Health[6] = api.Health{Marks: []bool{true, true}}
	first := walkOf(lives(active(0, 2, 51), active(2, 1, 0)), 9)[0]
	moved := last
	moved.Backend = first
	again := late
	again.Backend = 0 // the backend 2 is thrown out by this failure
	want := ticked(w, func(w *api.World) {
		*lifeIn(w, 0) = active(0, 2, 51)
		w.Health[0], w.Health[2] = api.Health{}, api.Health{Out: true, Until: 51 + 28, Times: 3}
		w.Health[6].Marks = []bool{true, true, true}
		*flowIn(w, 1) = tried(waits(1, 0, 9, first, 61), 1)
		*flowIn(w, 3) = tried(waits(3, 0, 9, 0, 61), 1)
		without(w, 0)
		without(w, 2)
		without(w, 4)
		for _, b := range []int{4, 6, 9} {
			lifeIn(w, b).State = api.Retired
		}
		w.Bucket.Tokens = 2
	})
	wantDo(t, w, tick, want,
		outOf(api.Again, moved), gone(6, 8), resetOf(idle, api.WhyIdle), outOf(api.Again, again),
		resetOf(more, api.WhyDrain), gone(4, 7), resetOf(cut, api.WhyDrain), gone(9, 9))
}

// Each flow waits just as long as it is told: neither a tick less nor one more.
func TestWaits(t *testing.T) {
	for _, ticks := range []int{1, 2, 7, 8, 9, 63, 64, 65, 499, 500} {
		c := config()
		c.Connect, c.Idle, c.Drain, c.Retries = ticks, ticks, ticks, 0
		for _, events := range [][]api.Event{
			{opens(9)}, {opens(9), {Kind: api.Answer, Good: true}}, {opens(9), {Kind: api.Answer, Good: true}, {Kind: api.Data}}, {opens(9), asksRetire(2, 3)},
		} {
			w := made(c, 1234, lives(active(3, 1, 0)))
			for _, e := range events {
				w, _, _ = Do(w, e)
			}
			var out []api.Output
			n := 0
			for ; len(out) == 0 && n < 1000; n++ {
				w, out, _ = Do(w, tick)
			}
			if n != ticks || !slices.ContainsFunc(out, func(o api.Output) bool { return o.Kind == api.Reset }) {
				t.Errorf("%+v of %d ticks: %+v behind %d", events, ticks, out, n)
			}
		}
	}
}
