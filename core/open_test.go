package core

import (
	"slices"
	"testing"

	"usher/api"
)

// wantOpen: the flow that is taken, in its slot, among the others; the bucket earns.
func wantOpen(t *testing.T, w api.World, key, slot, backend, tokens int) {
	t.Helper()
	f := waits(slot, w.Table.Slots[slot].Gen, key, backend, w.Now+w.Config.Connect)
	want := led(w, func(w *api.World) {
		w.Flows = append(w.Flows, f)
		slices.SortFunc(w.Flows, func(a, b api.Flow) int { return a.Handle.Slot - b.Handle.Slot })
		w.Bucket.Tokens = tokens
	})
	wantDo(t, w, opens(key), want, outOf(api.Accept, f))
}

// wantChosen: which backend gets a new flow?
func wantChosen(t *testing.T, what string, w api.World, key, backend int) {
	t.Helper()
	_, out, err := Do(w, opens(key))
	if err != api.OK || len(out) != 1 || out[0].Kind != api.Accept || out[0].Backend != backend {
		t.Fatalf("%s: Open of %d: %+v, %v, want the backend %d", what, key, out, err, backend)
	}
}

// P12.5: a new flow gets the first free slot that can be used, wherever that is.
func TestOpenGetsASlot(t *testing.T) {
	l := lives(active(3, 2, 0))
	for used := range 1 << 4 {
		for spent := range 1 << 4 {
			if used&spent != 0 {
				continue
			}
			var flows []api.Flow
			slot := -1
			c := config()
			c.Flows = 4
			w := made(c, 50, l)
			for i := range 4 {
				w.Table.Slots[i].Gen = 10 * i
				switch {
				case used>>i&1 == 1:
					flows = append(flows, waits(i, 10*i, i, 3, 51+i))
				case spent>>i&1 == 1:
					w.Table.Slots[i].Gen = mostGen
				case slot < 0:
					slot = i
				}
			}
			w = led(w, func(w *api.World) { w.Flows, w.Bucket.Tokens = flows, 2 })
			if slot >= 0 {
				wantOpen(t, w, 1234, slot, 3, 3)
			} else {
				wantDo(t, w, opens(1234), w, codeOut(api.Refuse, api.ErrFull))
			}
		}
	}
}

func TestOpenAtTheLastGen(t *testing.T) {
	c := config()
	c.Flows = 1
	w := made(c, 50, lives(active(3, 2, 0)))
	w.Table.Slots[0].Gen = mostGen - 1
	wantOpen(t, w, 0, 0, 3, 6)
	w.Table.Slots[0].Gen = mostGen
	wantDo(t, w, opens(0), w, codeOut(api.Refuse, api.ErrFull))
}

func TestOpenAllSlots(t *testing.T) {
	for _, c := range []api.Config{config(), {Flows: 40, Num: 1, Den: 1, Drain: 1, Idle: 1, Connect: 500, Budget: api.Budget{Den: 1}, Watch: api.Watch{Window: 1, Fails: 1, Hold: 1}}} {
		w := made(c, 9, lives(active(0, 1, 0), active(11, 8, 0)))
		for slot := range c.Flows {
			next, out, err := Do(w, opens(slot))
			if err != api.OK || len(out) != 1 || out[0].Kind != api.Accept || out[0].Slot != slot || out[0].Gen != 0 {
				t.Fatalf("Open of %d: %+v, %v", slot, out, err)
			}
			w = next
		}
		wantDo(t, w, opens(7), w, codeOut(api.Refuse, api.ErrFull))
	}
}

// P12.5: Due is Now + Connect, and the Bucket earns.
func TestOpenSetsUp(t *testing.T) {
	for _, connect := range []int{1, 2, 7, 8, 64, 499, 500} {
		for _, now := range []int{0, 5, 511, 1 << 32, finalTick} {
			c := config()
			c.Connect = connect
			wantOpen(t, made(c, now, lives(active(3, 2, 0))), 99, 0, 3, 6)
		}
	}
	for _, x := range []struct{ num, before, after int }{{0, 0, 0}, {0, 3, 3}, {1, 0, 1}, {1, 5, 6}, {1, 6, 6}, {4, 1, 5}, {4, 3, 6}, {20, 0, 6}} {
		c := config()
		c.Budget.Num = x.num
		w := made(c, 50, lives(active(3, 2, 0)))
		w.Bucket.Tokens = x.before
		wantOpen(t, w, 99, 0, 3, x.after)
	}
	for _, key := range []int{0, 1, 1 << 16, 1<<32 - 1} {
		wantOpen(t, made(config(), 50, lives(active(3, 2, 0))), key, 0, 3, 6)
	}
}

// P12.5: nobody can be chosen where nobody is Active, or all that are have no weight; nothing is earned then.
func TestOpenNobody(t *testing.T) {
	f := waits(1, 0, 9, 2, 60)
	some := lives(joins(0, 4), drains(2, 2, 0, 70, 1), retired(3, 1, 0, 0, 0))
	out := made(config(), 50, lives(active(4, 1, 0), active(5, 2, 0)))
	out.Health[4] = api.Health{Out: true, Until: 51, Times: 1}
	out.Health[5] = api.Health{Out: true, Until: 60, Times: 1}
	for _, w := range []api.World{begun(config()), made(config(), 50, some, f), out} {
		w.Bucket.Tokens = 1
		wantDo(t, w, opens(9), w, codeOut(api.Refuse, api.ErrBusy))
		full := changed(w, func(w *api.World) {
			for i := range w.Table.Slots {
				if s := &w.Table.Slots[i]; !s.Used {
					s.Gen = mostGen
				}
			}
		})
		wantDo(t, full, opens(9), full, codeOut(api.Refuse, api.ErrFull)) // named first
	}
	back := changed(out, func(w *api.World) { w.Health[5] = api.Health{} })
	for key := range 20 {
		wantChosen(t, "the other is out", back, key, 5)
	}
}

// P12.5: along the walk of the key, as far as Tries go.
func TestOpenAlongTheWalk(t *testing.T) {
	l := lives(active(1, 1, 0), active(4, 3, 0), joins(6, 8), active(7, 2, 0), active(10, 8, 0), retired(11, 8, 0, 0, 0))
	for key := range 300 {
		w := made(config(), 50, l)
		walk := walkOf(l, key)
		wantChosen(t, "the first of the walk", w, key, walk[0])
		w.Health[walk[0]] = api.Health{Out: true, Until: 60}
		wantChosen(t, "the first is out", w, key, walk[1])
		w.Config.Tries = 1 // one that is out costs no try
		wantChosen(t, "the first is out, one try", w, key, walk[1])
		w.Health[walk[1]] = api.Health{Out: true, Until: 60}
		wantChosen(t, "two are out, one try", w, key, walk[2])
		w.Health[walk[0]] = api.Health{}
		wantChosen(t, "the second is out", w, key, walk[0])
	}
}

// crowd: so many flows of a backend, from a slot on.
func crowd(slot, n, backend int) []api.Flow {
	var l []api.Flow
	for i := range n {
		l = append(l, waits(slot+i, 0, i, backend, 60))
	}
	return l
}

// even config: shares without anything above them, and a table with room enough.
func even(tries int) api.Config {
	c := config()
	c.Flows, c.Num, c.Den, c.Tries = 40, 1, 1, tries
	return c
}

// P12.5: who is at its cap is passed over, with Tries as far as they go, and then the least for their weights count.
func TestOpenAtTheCap(t *testing.T) {
	l := lives(active(1, 1, 0), active(2, 1, 0), active(3, 4, 0))
	key := keyFor(l, 1, 2, 3)
	// With 5 flows the caps are 1, 1 and 4.
	for _, x := range []struct{ one, two, three, tries, want int }{
		{0, 1, 4, 1, 1}, {0, 1, 4, 12, 1}, {0, 1, 4, 0, 1},
		{1, 0, 4, 1, 2}, {1, 0, 4, 2, 2}, {1, 0, 4, 0, 2},
		{1, 1, 3, 1, 3}, {1, 1, 3, 2, 3}, {1, 1, 3, 3, 3}, {1, 1, 3, 0, 3},
		{1, 0, 0, 1, 2}, {1, 0, 0, 2, 2}, {0, 0, 0, 1, 1}, {0, 0, 0, 0, 1},
		{1, 0, 1, 1, 2}, {2, 0, 1, 2, 2}, {5, 0, 0, 0, 2}, {0, 0, 5, 0, 1},
	} {
		flows := slices.Concat(crowd(0, x.one, 1), crowd(10, x.two, 2), crowd(20, x.three, 3))
		wantChosen(t, "caps", made(even(x.tries), 50, l, flows...), key, x.want)
	}
	l = lives(active(1, 1, 0), active(6, 1, 0), active(9, 4, 0))
	far := keyFor(l, 9, 6, 1)
	// With 3 flows the caps are 1, 1 and 3: the backend 9 has no room, and 1 and 6 have the same share.
	w := made(even(1), 50, l, crowd(0, 3, 9)...)
	wantChosen(t, "the lowest of several", w, far, 1)
	w.Config.Tries = 2
	wantChosen(t, "the second of the walk", w, far, 6)
	w.Config.Num = 2 // the cap of 9 is 6 now
	wantChosen(t, "a share above", w, far, 9)
	w.Config.Den = 2
	wantChosen(t, "no share above", w, far, 6)
}

// P12.5: what warms up counts with the weight that it has by now.
func TestOpenWarm(t *testing.T) {
	l := lives(active(1, 8, 0), active(2, 8, 1000))
	key := keyFor(l, 2, 1)
	for _, x := range []struct{ gone, warm, want int }{
		// With 8 flows the cap of 2 is 1, as long as its weight is 1 of 9; with a weight of 2 of 10 it is 2.
		{0, 20, 1}, {1, 20, 1}, {2, 20, 1}, {4, 20, 1}, {5, 20, 2}, {19, 20, 2}, {20, 20, 2}, {21, 20, 2},
		{0, 0, 2}, {0, 1, 1}, {1, 1, 2}, {0, 2, 1}, {1, 2, 2}, {0, 500, 1}, {60, 500, 1}, {124, 500, 1}, {125, 500, 2},
	} {
		c := even(1)
		c.Warm = x.warm
		flows := slices.Concat(crowd(0, 7, 1), crowd(10, 1, 2))
		for i := range flows {
			flows[i].Due = 1000 + x.gone + 1
		}
		wantChosen(t, "warm", made(c, 1000+x.gone, l, flows...), key, x.want)
	}
}

// P12.5: the number of all flows counts, also of those at backends that drain; but these, and those that join, are no loads.
func TestOpenCountsAllFlows(t *testing.T) {
	l := lives(active(1, 1, 0), active(2, 1, 0), drains(4, 8, 0, 80, 0))
	key := keyFor(l, 1, 2)
	// Seven flows make a cap of 4 for each; the three of the backends that are active alone would make 2.
	w := made(even(1), 50, l, slices.Concat(crowd(0, 3, 1), crowd(10, 4, 4))...)
	wantChosen(t, "room", w, key, 1)
	// Six flows make a cap of 4; five of them 3.
	w = made(even(1), 50, l, slices.Concat(crowd(0, 4, 1), crowd(10, 2, 4))...)
	wantChosen(t, "no room", w, key, 2)
	// A backend that drains or joins, or is retired, has no weight among the others: with it the cap would be 1.
	w = made(even(1), 50, lives(active(1, 1, 0), active(2, 1, 0), drains(4, 8, 0, 80, 0), joins(5, 8), retired(6, 8, 0, 0, 0)), slices.Concat(crowd(0, 1, 1), crowd(10, 1, 4))...)
	wantChosen(t, "weights", w, key, 1)
	// Nor has one that is out: with it the cap would be 1.
	l = lives(active(1, 1, 0), active(2, 1, 0), active(3, 8, 0))
	w = made(even(1), 50, l, slices.Concat(crowd(0, 1, 1), crowd(10, 1, 3))...)
	w.Health[3] = api.Health{Out: true, Until: 60}
	wantChosen(t, "out", w, keyFor(l, 1), 1)
}
