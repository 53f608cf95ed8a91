package core

import (
	"slices"
	"testing"

	"usher/api"
)

// peopled: a world with lives in all states, flows of both kinds, and something in each list.
func peopled() api.World {
	c := config()
	c.Warm = 5
	w := made(c, 100,
		lives(active(1, 2, 40), active(2, 1, 100), drains(4, 3, 7, 101, 9), joins(5, 8), retired(6, 2, 90, 95, 8)),
		waits(0, 3, 77, 1, 101), serves(waits(2, 0, 5, 4, 120)), tried(waits(3, 1, 9, 1, 600), 3), tried(waits(5, 7, 1<<32-1, 2, 110), 1),
	)
	w.Table.Slots[1].Gen = 4
	w.Table.Slots[4].Gen = mostGen
	w.Book.Requests = []api.Request{
		{Id: 3, Kind: api.AskJoin, Backend: 1, Weight: 2}, {Id: 9, Kind: api.AskRetire, Backend: 4}, {Id: 1, Kind: api.AskRetire, Backend: 11, Answer: api.ErrNone},
	}
	w.Health[1] = api.Health{Marks: []bool{true, false, false}, Times: 2}
	w.Health[2] = api.Health{Out: true, Until: 101, Times: 1}
	w.Health[4] = api.Health{Marks: []bool{true, true, true, true}, Times: 10}
	w.Health[9] = api.Health{Marks: []bool{true}, Out: true, Until: 300, Times: 3}
	w.Bucket.Tokens = 3
	return w
}

// at a tick: the same world, with all its ticks moved.
func at(w api.World, now int) api.World {
	by := now - w.Now
	return changed(w, func(w *api.World) {
		w.Now = now
		for i := range w.Flows {
			w.Flows[i].Due += by
		}
		for i := range w.Book.Lives {
			if l := &w.Book.Lives[i]; l.State == api.Draining {
				l.Since, l.Until = 0, l.Until+by
			} else {
				l.Since = 0
			}
		}
		for i := range w.Health {
			if h := &w.Health[i]; h.Out {
				h.Until += by
			}
		}
		w.Wheel = wheelOf(now, w.Flows)
	})
}

func TestWorldsThatMayBe(t *testing.T) {
	w := peopled()
	wantMay(t, "peopled", w)
	for _, now := range []int{0, 1, 7, 8, 63, 64, 511, 512, 1 << 32, finalTick - 1, finalTick} {
		wantMay(t, "at a tick", at(w, now))
	}
	for tokens := range 7 {
		wantMay(t, "tokens", changed(w, func(w *api.World) { w.Bucket.Tokens = tokens }))
	}
	wantMay(t, "no lists", changed(begun(config()), func(w *api.World) {
		w.Flows, w.Book.Lives, w.Book.Requests, w.Ring.Spots = nil, nil, nil, nil
	}))
	wantMay(t, "empty lists", changed(begun(config()), func(w *api.World) {
		w.Flows, w.Book.Lives, w.Book.Requests, w.Ring.Spots = []api.Flow{}, []api.Life{}, []api.Request{}, []api.Spot{}
		for i := range w.Wheel.Lists {
			w.Wheel.Lists[i] = []api.Timer{}
		}
		for i := range w.Health {
			w.Health[i].Marks = []bool{}
		}
	}))
}

// P12.2: Now.
func TestNow(t *testing.T) {
	empty := begun(config())
	for _, now := range slices.Concat([]int{finalTick + 1, finalTick + 2, mostTick - mostSpan, mostTick - 1, mostTick, mostTick + 1}, negatives, huge[1:]) {
		wantMayNot(t, "Now", at(empty, now))
		wantMayNot(t, "Now", at(peopled(), now))
		wantMayNot(t, "Now alone", changed(empty, func(w *api.World) { w.Now = now }))
	}
}

// change of a world after which it may not be, be all that hangs on it changed with it or not.
type change struct {
	what string
	do   func(w *api.World)
}

// wantNone of these worlds.
func wantNone(t *testing.T, w api.World, changes []change) {
	t.Helper()
	wantMay(t, "as it was", w)
	for _, c := range changes {
		wantMayNot(t, c.what, changed(w, c.do))
	}
}

// P12.2: a Table, a Book and a Bucket that may not be.
func TestPartsThatMayNotBe(t *testing.T) {
	w := peopled()
	wantNone(t, w, []change{
		{"no slots", func(w *api.World) { w.Table.Slots = nil }},
		{"a slot too few", func(w *api.World) { w.Table.Slots = append(w.Table.Slots[:1], w.Table.Slots[2:]...) }},
		{"the last slot too few", func(w *api.World) { w.Config.Flows = 7 }},
		{"a slot too many", func(w *api.World) { w.Table.Slots = append(w.Table.Slots, api.Slot{}) }},
		{"a slot more than Flows", func(w *api.World) { w.Config.Flows = 5 }},
		{"a used slot too many", func(w *api.World) { w.Table.Slots = append(w.Table.Slots, api.Slot{Used: true, Backend: 1}) }},
		{"a Gen below 0", func(w *api.World) { w.Table.Slots[1].Gen = -1 }},
		{"a Gen above MaxGen", func(w *api.World) { w.Table.Slots[1].Gen = mostGen + 1 }},
		{"a Key in a free slot", func(w *api.World) { w.Table.Slots[1].Key = 1 }},
		{"a Backend in a free slot", func(w *api.World) { w.Table.Slots[1].Backend = 1 }},
		{"a Gen of a used slot below 0", func(w *api.World) { w.Table.Slots[0].Gen, w.Flows[0].Handle.Gen = -1, -1 }},
		{"a Gen of a used slot at MaxGen", func(w *api.World) { w.Table.Slots[0].Gen, w.Flows[0].Handle.Gen = mostGen, mostGen }},
		{"a Key below 0", func(w *api.World) { w.Table.Slots[0].Key, w.Flows[0].Key = -1, -1 }},
		{"a Key above MaxKey", func(w *api.World) { w.Table.Slots[0].Key, w.Flows[0].Key = 1<<32, 1<<32 }},
		{"a Backend below 0", func(w *api.World) { w.Table.Slots[0].Backend, w.Flows[0].Backend = -1, -1 }},
		{"a Backend above 11", func(w *api.World) { w.Table.Slots[0].Backend, w.Flows[0].Backend = 12, 12 }},

		{"a life of no state", func(w *api.World) { w.Book.Lives[3].State = 0 }},
		{"a life of a fifth state", func(w *api.World) { w.Book.Lives[3].State = 5 }},
		{"a life without weight", func(w *api.World) { w.Book.Lives[3].Weight = 0 }},
		{"lives that do not rise", func(w *api.World) { l := w.Book.Lives; l[3], l[4] = l[4], l[3] }},
		{"a life twice", func(w *api.World) { w.Book.Lives[4].Backend = 5 }},
		{"Joining since a tick", func(w *api.World) { w.Book.Lives[3].Since = 1 }},
		{"Active with Until", func(w *api.World) { w.Book.Lives[0].Until = 200 }},
		{"Since below 0", func(w *api.World) { w.Book.Lives[4].Since = -1 }},
		{"a request of a third kind", func(w *api.World) { w.Book.Requests[1].Kind = 3 }},
		{"two requests with one Id", func(w *api.World) { w.Book.Requests[1].Id = 3 }},
		{"requests beyond MaxRequests", func(w *api.World) {
			for id := range 98 {
				w.Book.Requests = append(w.Book.Requests, api.Request{Id: 100 + id, Kind: api.AskJoin})
			}
		}},

		{"Tokens below 0", func(w *api.World) { w.Bucket.Tokens = -1 }},
		{"Tokens above Burst times Den", func(w *api.World) { w.Bucket.Tokens = 7 }},
		{"Tokens of another Burst", func(w *api.World) { w.Config.Budget.Burst = 1 }},
		{"Tokens of another Den", func(w *api.World) { w.Bucket.Tokens, w.Config.Budget.Den = 4, 1 }},
	})
}

// P12.2: Healths.
func TestHealthsThatMayNotBe(t *testing.T) {
	w := peopled()
	wantNone(t, w, []change{
		{"none", func(w *api.World) { w.Health = nil }},
		{"one too few", func(w *api.World) { w.Health = w.Health[:11] }},
		{"one too many", func(w *api.World) { w.Health = append(w.Health, api.Health{}) }},
		{"Marks beyond the Window", func(w *api.World) { w.Config.Watch.Window = 3 }},
		{"Marks by far beyond the Window", func(w *api.World) { w.Health[0].Marks = make([]bool, 5000) }},
	})
	for i := range backends {
		set := func(h api.Health) func(*api.World) { return func(w *api.World) { w.Health[i] = h } }
		for _, h := range []api.Health{
			{}, {Out: true, Until: 101}, {Out: true, Until: 102}, {Out: true, Until: mostTick + mostSpan}, {Times: 10}, {Marks: make([]bool, 4)},
			{Marks: []bool{true, true, true, true}}, {Marks: []bool{true}, Out: true, Until: 101, Times: 10},
		} {
			wantMay(t, "a health", changed(w, set(h)))
		}
		wantNone(t, w, []change{
			{"one Mark too many", set(api.Health{Marks: make([]bool, 5)})},
			{"Times below 0", set(api.Health{Times: -1})},
			{"Times above 10", set(api.Health{Times: 11})},
			{"Until where it is not Out", set(api.Health{Until: 101})},
			{"Until below 0", set(api.Health{Out: true, Until: -1})},
			{"Until above MaxTick and MaxSpan", set(api.Health{Out: true, Until: mostTick + mostSpan + 1})},
			{"Until at Now", set(api.Health{Out: true, Until: 100})},
			{"Until below Now", set(api.Health{Out: true, Until: 99})},
			{"Out till 0", set(api.Health{Out: true})},
		})
	}
	wantMayNot(t, "Out till 0 at 0", changed(begun(config()), func(w *api.World) { w.Health[3].Out = true }))
	wantMay(t, "Out till 1 at 0", changed(begun(config()), func(w *api.World) { w.Health[3] = api.Health{Out: true, Until: 1} }))
}

// onFlows: a change of the flows that the wheel follows.
func onFlows(do func(w *api.World)) func(w *api.World) {
	return func(w *api.World) {
		do(w)
		w.Wheel = wheelOf(w.Now, w.Flows)
	}
}

// P12.2: one flow for each slot that is used, with what the slot says.
func TestFlowsThatMayNotBe(t *testing.T) {
	w := peopled()
	wantNone(t, w, []change{
		{"none", onFlows(func(w *api.World) { w.Flows = nil })},
		{"the first one too few", onFlows(func(w *api.World) { w.Flows = w.Flows[1:] })},
		{"one in the middle too few", onFlows(func(w *api.World) { w.Flows = append(w.Flows[:2], w.Flows[3:]...) })},
		{"the last one too few", onFlows(func(w *api.World) { w.Flows = w.Flows[:3] })},
		{"one of a free slot", onFlows(func(w *api.World) { w.Flows = slices.Insert(w.Flows, 1, waits(1, 4, 0, 1, 105)) })},
		{"one of a free slot with nothing in it", onFlows(func(w *api.World) { w.Flows = slices.Insert(w.Flows, 1, waits(1, 4, 0, 0, 105)) })},
		{"one of a slot that is not there", onFlows(func(w *api.World) { w.Flows = append(w.Flows, waits(6, 0, 0, 1, 105)) })},
		{"one of a slot below 0", onFlows(func(w *api.World) { w.Flows = slices.Insert(w.Flows, 0, waits(-1, 0, 0, 1, 105)) })},
		{"the first one twice", onFlows(func(w *api.World) { w.Flows = slices.Insert(w.Flows, 0, w.Flows[0]) })},
		{"the last one twice", onFlows(func(w *api.World) { w.Flows = append(w.Flows, w.Flows[3]) })},
		{"one twice in place of another", onFlows(func(w *api.World) { w.Flows[2] = w.Flows[0] })},
		{"out of order", onFlows(func(w *api.World) { w.Flows[1], w.Flows[2] = w.Flows[2], w.Flows[1] })},
		{"the last ones out of order", onFlows(func(w *api.World) { w.Flows[2], w.Flows[3] = w.Flows[3], w.Flows[2] })},
		{"very many", onFlows(func(w *api.World) { w.Flows = slices.Repeat(w.Flows, 1000) })},
		{"a slot that is free now", func(w *api.World) { w.Table.Slots[0] = api.Slot{Gen: 3} }},
		{"a used slot without a flow", func(w *api.World) { w.Table.Slots[1] = api.Slot{Used: true, Backend: 1} }},
		{"the last slot used without a flow", func(w *api.World) {
			w.Config.Flows, w.Table.Slots = 7, append(w.Table.Slots, api.Slot{Used: true, Backend: 1})
		}},
	})
	for i := range w.Flows {
		on := func(do func(f *api.Flow)) func(w *api.World) {
			return onFlows(func(w *api.World) { do(&w.Flows[i]) })
		}
		wantNone(t, w, []change{
			{"a higher Gen", on(func(f *api.Flow) { f.Handle.Gen++ })},
			{"a lower Gen", on(func(f *api.Flow) { f.Handle.Gen-- })},
			{"a higher Slot", on(func(f *api.Flow) { f.Handle.Slot++ })},
			{"a lower Slot", on(func(f *api.Flow) { f.Handle.Slot-- })},
			{"another Key", on(func(f *api.Flow) { f.Key ^= 1 })},
			{"another Backend", on(func(f *api.Flow) { f.Backend = map[int]int{1: 2, 2: 1, 4: 1}[f.Backend] })},
			{"a Backend below 0", on(func(f *api.Flow) { f.Backend = -1 })},
			{"a Backend above all", on(func(f *api.Flow) { f.Backend = 12 })},
		})
	}
}

// P12.2: Retries and Due of a flow.
func TestRetriesAndDue(t *testing.T) {
	w := peopled()
	for i := range w.Flows {
		for _, serving := range []bool{false, true} {
			on := func(do func(f *api.Flow)) api.World {
				return led(w, func(w *api.World) {
					do(&w.Flows[i])
					w.Flows[i].Serving = serving
				})
			}
			for retries := range 4 {
				wantMay(t, "Retries", on(func(f *api.Flow) { f.Retries = retries }))
			}
			for _, retries := range slices.Concat([]int{4, 5, 20, 21}, negatives, huge) {
				wantMayNot(t, "Retries", on(func(f *api.Flow) { f.Retries = retries }))
			}
			for _, due := range []int{101, 102, 103, 104, 111, 112, 127, 128, 511, 512, 599, 600} {
				wantMay(t, "Due", on(func(f *api.Flow) { f.Due = due }))
			}
			for _, due := range slices.Concat([]int{100, 99, 8, 0, 601, 602, mostTick, mostTick + 1}) {
				wantMayNot(t, "Due", on(func(f *api.Flow) { f.Due = due }))
			}
			for _, due := range slices.Concat(negatives, huge) {
				wantMayNot(t, "Due", changed(w, func(w *api.World) { w.Flows[i].Due = due }))
			}
		}
	}
	none := changed(w, func(w *api.World) {
		w.Config.Retries, w.Flows[2].Retries, w.Flows[3].Retries = 0, 0, 0
	})
	wantMay(t, "no Retries", none)
	for i := range none.Flows {
		wantMayNot(t, "one of no Retries", changed(none, func(w *api.World) { w.Flows[i].Retries = 1 }))
	}
}

// P12.2: a flow's backend has a life that is Active or Draining.
func TestLivesOfFlows(t *testing.T) {
	with := func(l ...api.Life) api.World { return made(config(), 100, l, waits(0, 0, 5, 3, 105)) }
	wantMay(t, "Active", with(active(3, 1, 0)))
	wantMay(t, "Draining", with(drains(3, 1, 0, 101, 0)))
	wantMay(t, "among others", with(joins(2, 1), active(3, 1, 0), retired(4, 1, 0, 0, 0)))
	wantMayNot(t, "none", with())
	wantMayNot(t, "none, but others", with(active(2, 1, 0), active(4, 1, 0)))
	wantMayNot(t, "Joining", with(joins(3, 1)))
	wantMayNot(t, "Retired", with(retired(3, 1, 0, 101, 0)))
	wantMayNot(t, "the second one's", led(with(active(3, 1, 0)), func(w *api.World) { w.Flows = append(w.Flows, waits(1, 0, 5, 0, 105)) }))
}

// P12.2: Since of all lives, Until of a drain, and that it has a flow.
func TestLivesThatMayNotBe(t *testing.T) {
	f := waits(0, 0, 5, 3, 105)
	for _, since := range []int{0, 1, 99, 100} {
		wantMay(t, "Since", made(config(), 100, lives(active(3, 1, since)), f))
		wantMay(t, "Since", made(config(), 100, lives(active(1, 1, since), active(3, 1, since), active(4, 1, since)), f))
		wantMay(t, "Since", made(config(), 100, lives(drains(3, 1, since, 200, 0)), f))
		wantMay(t, "Since", made(config(), 100, lives(active(3, 1, 0), retired(4, 1, since, 0, 0)), f))
	}
	for _, since := range []int{101, 102, 600, finalTick, mostTick} {
		wantMayNot(t, "Since", made(config(), 100, lives(active(3, 1, since)), f))
		wantMayNot(t, "Since", made(config(), 100, lives(active(3, 1, 100), active(4, 1, since)), f))
		wantMayNot(t, "Since", made(config(), 100, lives(active(1, 1, since), active(3, 1, 100)), f))
		wantMayNot(t, "Since", made(config(), 100, lives(drains(3, 1, since, mostTick, 0)), f))
		wantMayNot(t, "Since", made(config(), 100, lives(active(3, 1, 0), retired(4, 1, since, 0, 0)), f))
		wantMayNot(t, "Since", made(config(), 100, lives(active(3, 1, since))))
	}
	for _, until := range []int{101, 102, 600, 601, mostTick, mostTick + mostSpan} {
		wantMay(t, "Until", made(config(), 100, lives(drains(3, 1, 0, until, 0)), f))
	}
	for _, until := range []int{100, 99, 1, 0, -1, mostTick + mostSpan + 1} {
		wantMayNot(t, "Until", made(config(), 100, lives(drains(3, 1, 0, until, 0)), f))
	}
	for _, until := range []int{0, 99, 100, 101, mostTick + mostSpan} { // of one that is Retired it is as it was
		wantMay(t, "Until", made(config(), 100, lives(active(3, 1, 0), retired(4, 1, 0, until, 0)), f))
	}
	wantMayNot(t, "no flow", made(config(), 100, lives(drains(3, 1, 0, 200, 0))))
	wantMayNot(t, "no flow of its own", made(config(), 100, lives(active(3, 1, 0), drains(4, 1, 0, 200, 0)), f))
	wantMayNot(t, "no flow of its own", made(config(), 100, lives(drains(2, 1, 0, 200, 0), drains(3, 1, 0, 200, 0)), f))
	wantMayNot(t, "no flow but free slots", made(config(), 100, lives(drains(0, 1, 0, 200, 0), active(3, 1, 0)), f))
	wantMay(t, "no flow of one that is Active", made(config(), 100, lives(active(3, 1, 0), active(4, 1, 0)), f))
}

// P12.2: the Ring is that of the Active lives, with their Weights.
func TestRingsThatMayNotBe(t *testing.T) {
	w := peopled()
	ringOf := func(l ...api.Life) func(w *api.World) {
		return func(w *api.World) { w.Ring.Spots = spotsOf(l) }
	}
	one, two := active(1, 2, 0), active(2, 1, 0)
	wantMay(t, "the ring", changed(w, ringOf(one, two)))
	wantNone(t, w, []change{
		{"none", ringOf()},
		{"without the first", ringOf(two)},
		{"without the second", ringOf(one)},
		{"with one that drains", ringOf(one, two, active(4, 3, 0))},
		{"with one that joins", ringOf(one, two, active(5, 8, 0))},
		{"with one that is retired", ringOf(one, two, active(6, 2, 0))},
		{"with one without a life", ringOf(one, two, active(0, 1, 0))},
		{"with one more weight", ringOf(active(1, 3, 0), two)},
		{"with one less weight", ringOf(active(1, 1, 0), two)},
		{"with weights exchanged", ringOf(active(1, 1, 0), active(2, 2, 0))},
		{"with another in its place", ringOf(one, active(3, 1, 0))},
		{"out of order", func(w *api.World) { s := w.Ring.Spots; s[0], s[1] = s[1], s[0] }},
		{"one spot too few", func(w *api.World) { w.Ring.Spots = w.Ring.Spots[1:] }},
		{"one spot too many", func(w *api.World) { w.Ring.Spots = append(w.Ring.Spots, w.Ring.Spots[11]) }},
		{"a spot of another backend", func(w *api.World) { w.Ring.Spots[3].Backend = 3 - w.Ring.Spots[3].Backend }},
		{"a spot of no backend", func(w *api.World) { w.Ring.Spots[3].Backend = 12 }},
		{"a spot elsewhere", func(w *api.World) { w.Ring.Spots[3].Hash++ }},
		{"a life of more weight", func(w *api.World) { w.Book.Lives[1].Weight = 2 }},
	})
	wantMayNot(t, "spots without lives", changed(begun(config()), ringOf(one)))
}

// P12.2: the Wheel is one of Now, with a timer for each flow.
func TestWheelsThatMayNotBe(t *testing.T) {
	w := peopled()
	flows := func(l ...api.Flow) func(w *api.World) {
		return func(w *api.World) { w.Wheel = wheelOf(w.Now, l) }
	}
	a, b, c, d := w.Flows[0], w.Flows[1], w.Flows[2], w.Flows[3]
	due := func(f api.Flow, at int) api.Flow { f.Due = at; return f }
	slot := func(f api.Flow, slot int) api.Flow { f.Handle.Slot = slot; return f }
	wantMay(t, "the wheel", changed(w, flows(d, c, b, a)))
	wantNone(t, w, []change{
		{"no timers", flows()},
		{"one too few", flows(a, b, c)},
		{"another one too few", flows(b, c, d)},
		{"one too many", flows(a, b, c, d, waits(1, 0, 0, 1, 105))},
		{"one too many, of no slot", flows(a, b, c, d, waits(199, 0, 0, 1, 105))},
		{"one twice", flows(a, b, c, d, a)},
		{"one twice, at another tick", flows(a, b, c, d, due(a, 105))},
		{"one in place of another", flows(a, b, c, due(a, 105))},
		{"one of another slot", flows(a, b, c, slot(d, 4))},
		{"one a tick later", flows(a, b, c, due(d, 111))},
		{"one a tick earlier", flows(a, b, c, due(d, 109))},
		{"two ticks exchanged", flows(a, due(b, d.Due), c, due(d, b.Due))},
		{"Now a tick earlier", func(w *api.World) { w.Wheel = wheelOf(99, []api.Flow{a, b, due(c, 599), d}) }},
		{"Now a tick later", func(w *api.World) { w.Wheel = wheelOf(101, w.Flows) }},
		{"Now alone a tick earlier", func(w *api.World) { w.Wheel.Now = 99 }},
		{"Now alone a tick later", func(w *api.World) { w.Wheel.Now = 101 }},
		{"Now at MaxTick", func(w *api.World) { w.Wheel.Now = mostTick }},
		{"no lists", func(w *api.World) { w.Wheel.Lists = nil }},
		{"a list too few", func(w *api.World) { w.Wheel.Lists = w.Wheel.Lists[:24] }},
		{"a list too many", func(w *api.World) { w.Wheel.Lists = append(w.Wheel.Lists, nil) }},
		{"a timer in another list", func(w *api.World) {
			l := w.Wheel.Lists
			l[24], l[5] = append(l[5], l[24]...), nil
		}},
		{"all in one list", func(w *api.World) {
			l := slices.Concat(w.Wheel.Lists...)
			w.Wheel.Lists = make([][]api.Timer, 25)
			w.Wheel.Lists[24] = l
		}},
		{"very many timers", func(w *api.World) { w.Wheel.Lists[24] = make([]api.Timer, 100000) }},
	})
	two := led(w, func(w *api.World) { w.Flows[0].Due, w.Flows[1].Due = 105, 105 })
	wantMay(t, "two of one tick", two)
	wantMayNot(t, "two out of order", changed(two, func(w *api.World) { l := w.Wheel.Lists[13]; l[0], l[1] = l[1], l[0] }))
	near := led(w, func(w *api.World) {
		for i := range w.Flows {
			w.Flows[i].Due = 110 + i
		}
	})
	for _, now := range []int{96, 99, 101, 103, 104} {
		wantMayNot(t, "one of another tick", changed(near, func(w *api.World) { w.Wheel = wheelOf(now, w.Flows) }))
		wantMayNot(t, "an empty one of another tick", changed(begun(config()), func(w *api.World) { w.Wheel.Now = now }))
	}
}

// P12.4: what wire's Check refuses is refused with the same error, and nothing comes of it.
func TestEventsRefused(t *testing.T) {
	all := func(kind int) api.Event { return api.Event{Kind: kind, Weight: 1} }
	var kinds, ranges, forms []api.Event
	for _, kind := range slices.Concat([]int{0, 8, 9, 255, 257, 263}, negatives, huge) {
		kinds = append(kinds, all(kind), api.Event{Kind: kind}, api.Event{Kind: kind, Key: -1})
	}
	for _, n := range slices.Concat(negatives, huge) {
		ranges = append(ranges, opens(n), asksJoin(n, 0, 1), asksJoin(0, n, 1), asksJoin(0, 0, n), asksRetire(n, 0), asksRetire(0, n))
		for _, kind := range []int{api.Data, api.Close, api.Answer} {
			ranges = append(ranges, api.Event{Kind: kind, Slot: n}, api.Event{Kind: kind, Gen: n}, api.Event{Kind: kind, Slot: n, Key: 1})
		}
	}
	for _, kind := range []int{api.Data, api.Close, api.Answer} {
		ranges = append(ranges, api.Event{Kind: kind, Slot: 40}, api.Event{Kind: kind, Gen: mostGen + 1})
		forms = append(forms, api.Event{Kind: kind, Key: 1}, api.Event{Kind: kind, Request: 1}, api.Event{Kind: kind, Backend: 1}, all(kind))
	}
	ranges = append(ranges, asksJoin(1<<20+1, 0, 1), asksJoin(0, 12, 1), asksJoin(0, 0, 0), asksJoin(0, 0, 9), asksRetire(1<<20+1, 0), asksRetire(0, 12))
	forms = append(forms, all(api.Open), all(api.Retire), all(api.Tick))
	for _, kind := range []int{api.Open, api.Retire, api.Tick, api.Data, api.Close} {
		forms = append(forms, api.Event{Kind: kind, Good: true}, api.Event{Kind: kind, Weight: -1})
	}
	for _, kind := range []int{api.Open, api.Retire, api.Tick} {
		forms = append(forms, api.Event{Kind: kind, Slot: 1}, api.Event{Kind: kind, Gen: 1})
	}
	forms = append(forms, api.Event{Kind: api.Tick, Key: 1}, api.Event{Kind: api.Tick, Request: 1}, api.Event{Kind: api.Join, Weight: 1, Key: 1})
	for _, w := range []api.World{peopled(), begun(config()), at(peopled(), finalTick)} {
		for _, e := range kinds {
			wantNo(t, w, e, api.ErrKind)
		}
		for _, e := range ranges {
			wantNo(t, w, e, api.ErrRange)
		}
		for _, e := range forms {
			wantNo(t, w, e, api.ErrForm)
		}
	}
}

// P12.4: the last tick of all.
func TestLastTick(t *testing.T) {
	for _, w := range []api.World{peopled(), begun(config()), made(config(), 0, lives(active(3, 1, 0)))} {
		wantNo(t, at(w, finalTick), tick, api.ErrFull)
		for _, now := range []int{finalTick - 1, finalTick - 2} {
			got, _, err := Do(at(w, now), tick)
			if err != api.OK || got.Now != now+1 {
				t.Fatalf("a tick at %d: %d, %v", now, got.Now, err)
			}
			wantMay(t, "behind a tick", got)
		}
		for _, e := range []api.Event{opens(3), {Kind: api.Data}, {Kind: api.Close}, {Kind: api.Answer}, asksJoin(50, 7, 1), asksRetire(51, 1)} {
			got, _, err := Do(at(w, finalTick), e)
			if err != api.OK || got.Now != finalTick {
				t.Fatalf("%+v at the last tick: %v", e, err)
			}
			wantMay(t, "at the last tick", got)
		}
	}
	w := changed(begun(config()), func(w *api.World) { w.Now, w.Wheel.Now, w.Bucket.Tokens = finalTick, finalTick, -1 })
	wantNo(t, w, tick, api.ErrState)
}
