package core

import (
	"cmp"
	"math"
	"slices"
	"testing"

	"usher/api"
)

// The faces stay as the chapter writes them.
var (
	_ func(api.Config) api.Errno                                      = Check
	_ func(api.Config) (api.World, api.Errno)                         = Begin
	_ func(api.World, api.Event) (api.World, []api.Output, api.Errno) = Do
)

const (
	backends  = 12
	mostTick  = 1 << 40
	mostSpan  = 500
	mostGen   = 1 << 20
	finalTick = mostTick - 2*mostSpan
)

var (
	negatives = []int{-1, -2, -mostSpan, -1 << 32, math.MinInt + 1, math.MinInt}
	huge      = []int{1 << 32, 1 << 41, 1 << 62, math.MaxInt - 1, math.MaxInt}
	tick      = api.Event{Kind: api.Tick}
)

// config in which each wait is another one, and with room enough for all to be chosen.
func config() api.Config {
	return api.Config{
		Flows: 6, Num: 20, Den: 1, Tries: 12, Warm: 0, Drain: 30, Idle: 20, Connect: 10, Retries: 3, Most: 100,
		Budget: api.Budget{Num: 1, Den: 2, Burst: 3},
		Watch:  api.Watch{Window: 4, Fails: 2, Hold: 7},
	}
}

func joins(backend, weight int) api.Life {
	return api.Life{Backend: backend, State: api.Joining, Weight: weight}
}

func active(backend, weight, since int) api.Life {
	return api.Life{Backend: backend, State: api.Active, Weight: weight, Since: since}
}

func drains(backend, weight, since, until, request int) api.Life {
	return api.Life{Backend: backend, State: api.Draining, Weight: weight, Since: since, Until: until, Request: request}
}

func retired(backend, weight, since, until, request int) api.Life {
	return api.Life{Backend: backend, State: api.Retired, Weight: weight, Since: since, Until: until, Request: request}
}

func lives(l ...api.Life) []api.Life { return l }

// waits for its backend's answer.
func waits(slot, gen, key, backend, due int) api.Flow {
	return api.Flow{Handle: api.Handle{Slot: slot, Gen: gen}, Key: key, Backend: backend, Due: due}
}

func serves(f api.Flow) api.Flow {
	f.Serving = true
	return f
}

func tried(f api.Flow, retries int) api.Flow {
	f.Retries = retries
	return f
}

// made: a world of these lives and flows, with all else as it is at first.
func made(c api.Config, now int, l []api.Life, flows ...api.Flow) api.World {
	w := api.World{Config: c, Now: now, Flows: flows}
	w.Table.Slots = make([]api.Slot, c.Flows)
	w.Book.Lives = l
	w.Health = make([]api.Health, backends)
	w.Bucket.Tokens = c.Budget.Burst * c.Budget.Den
	follow(&w)
	return w
}

// follow: what hangs on the lives and flows: used slots, the ring and the wheel.
func follow(w *api.World) {
	for _, f := range w.Flows {
		w.Table.Slots[f.Handle.Slot] = api.Slot{Gen: f.Handle.Gen, Used: true, Key: f.Key, Backend: f.Backend}
	}
	w.Ring.Spots = spotsOf(w.Book.Lives)
	w.Wheel = wheelOf(w.Now, w.Flows)
}

// mixed bytes (P1.1).
func mixed(l []byte) int {
	n := uint64(2166136261)
	for _, b := range l {
		n = (n ^ uint64(b)) * 16777619 % (1 << 32)
	}
	return int(n)
}

// spotsOf the lives that are active (P4.1).
func spotsOf(l []api.Life) []api.Spot {
	var spots []api.Spot
	for _, one := range l {
		for i := range one.Weight * 4 {
			if one.State == api.Active {
				spots = append(spots, api.Spot{Hash: mixed([]byte{98, byte(one.Backend), byte(i), 115}), Backend: one.Backend})
			}
		}
	}
	slices.SortFunc(spots, func(a, b api.Spot) int { return cmp.Or(a.Hash-b.Hash, a.Backend-b.Backend) })
	return spots
}

// walkOf a key: by how far the nearest spot of each backend is (P4.5).
func walkOf(l []api.Life, key int) []int {
	place := mixed([]byte{byte(key), byte(key >> 8), byte(key >> 16), byte(key >> 24)})
	nearest := map[int]int{}
	for _, s := range spotsOf(l) {
		far := (s.Hash - place + 1<<32) % (1 << 32)
		if old, there := nearest[s.Backend]; !there || far < old {
			nearest[s.Backend] = far
		}
	}
	var walk []int
	for b := range nearest {
		walk = append(walk, b)
	}
	slices.SortFunc(walk, func(a, b int) int { return nearest[a] - nearest[b] })
	return walk
}

// keyFor a walk that begins with these backends; not every order is on the ring.
func keyFor(l []api.Life, first ...int) int {
	for key := range 5000 {
		if walk := walkOf(l, key); slices.Equal(walk[:len(first)], first) {
			return key
		}
	}
	panic("no key has such a walk")
}

// wheelOf the flows at a tick (P3.1).
func wheelOf(now int, flows []api.Flow) api.Wheel {
	w := api.Wheel{Now: now, Lists: make([][]api.Timer, 25)}
	for _, f := range flows {
		i := 24
		switch at := f.Due; {
		case at>>3 == now>>3:
			i = at & 7
		case at>>6 == now>>6:
			i = 8 + at>>3&7
		case at>>9 == now>>9:
			i = 16 + at>>6&7
		}
		w.Lists[i] = append(w.Lists[i], api.Timer{At: f.Due, Id: f.Handle.Slot})
	}
	for _, l := range w.Lists {
		slices.SortFunc(l, func(a, b api.Timer) int { return cmp.Or(a.At-b.At, a.Id-b.Id) })
	}
	return w
}

// copied: a world that shares nothing with the old one.
func copied(w api.World) api.World {
	w.Table.Slots = slices.Clone(w.Table.Slots)
	w.Flows = slices.Clone(w.Flows)
	w.Book.Lives = slices.Clone(w.Book.Lives)
	w.Book.Requests = slices.Clone(w.Book.Requests)
	w.Ring.Spots = slices.Clone(w.Ring.Spots)
	w.Health = slices.Clone(w.Health)
	for i := range w.Health {
		w.Health[i].Marks = slices.Clone(w.Health[i].Marks)
	}
	w.Wheel.Lists = slices.Clone(w.Wheel.Lists)
	for i := range w.Wheel.Lists {
		w.Wheel.Lists[i] = slices.Clone(w.Wheel.Lists[i])
	}
	return w
}

// changed: another world, that differs in what is changed alone.
func changed(w api.World, change func(w *api.World)) api.World {
	w = copied(w)
	change(&w)
	return w
}

// led: another world that differs in what is changed, and in what hangs on its lives and flows.
func led(w api.World, change func(w *api.World)) api.World {
	return changed(w, func(w *api.World) {
		change(w)
		follow(w)
	})
}

// flowIn a slot, to be changed.
func flowIn(w *api.World, slot int) *api.Flow {
	return &w.Flows[slices.IndexFunc(w.Flows, func(f api.Flow) bool { return f.Handle.Slot == slot })]
}

// lifeIn a world, of a backend, to be changed.
func lifeIn(w *api.World, backend int) *api.Life {
	return &w.Book.Lives[slices.IndexFunc(w.Book.Lives, func(l api.Life) bool { return l.Backend == backend })]
}

// without the flow in a slot, which is free again (P5.5).
func without(w *api.World, slot int) {
	w.Table.Slots[slot] = api.Slot{Gen: flowIn(w, slot).Handle.Gen + 1}
	w.Flows = slices.DeleteFunc(w.Flows, func(f api.Flow) bool { return f.Handle.Slot == slot })
}

func sameHealth(a, b api.Health) bool {
	return slices.Equal(a.Marks, b.Marks) && a.Out == b.Out && a.Until == b.Until && a.Times == b.Times
}

func same(a, b api.World) bool {
	return a.Config == b.Config && a.Now == b.Now && slices.Equal(a.Table.Slots, b.Table.Slots) &&
		slices.Equal(a.Flows, b.Flows) && slices.Equal(a.Book.Lives, b.Book.Lives) &&
		slices.Equal(a.Book.Requests, b.Book.Requests) && slices.Equal(a.Ring.Spots, b.Ring.Spots) &&
		slices.EqualFunc(a.Health, b.Health, sameHealth) && a.Bucket == b.Bucket && a.Wheel.Now == b.Wheel.Now &&
		slices.EqualFunc(a.Wheel.Lists, b.Wheel.Lists, slices.Equal)
}

// isZero: as a world must be beside an error.
func isZero(w api.World) bool { return same(w, api.World{}) }

// wantDo: is that the world behind an event, and is that what goes out? The world that was given stays, and the one behind the event may be.
func wantDo(t *testing.T, w api.World, e api.Event, want api.World, out ...api.Output) {
	t.Helper()
	before := copied(w)
	got, l, err := Do(w, e)
	if err != api.OK {
		t.Fatalf("Do(%+v, %+v): %v", w, e, err)
	}
	if !slices.Equal(l, out) {
		t.Fatalf("Do(%+v, %+v):\n%+v goes out, want\n%+v", w, e, l, out)
	}
	if !same(got, want) {
		t.Fatalf("Do(%+v, %+v):\n%+v, want\n%+v", w, e, got, want)
	}
	if !same(w, before) {
		t.Fatalf("Do(%+v, %+v) changes its world:\n%+v", before, e, w)
	}
	if _, _, err := Do(got, api.Event{Kind: api.Data}); err != api.OK {
		t.Fatalf("Do(%+v, %+v): the world behind it may not be:\n%+v", w, e, got)
	}
}

// wantNo: is it refused so, with zero values beside the error?
func wantNo(t *testing.T, w api.World, e api.Event, want api.Errno) {
	t.Helper()
	if got, l, err := Do(w, e); !isZero(got) || len(l) != 0 || err != want {
		t.Fatalf("Do(%+v, %+v): %+v, %+v, %v, want %v", w, e, got, l, err, want)
	}
}

// wantMay: may the world be?
func wantMay(t *testing.T, what string, w api.World) {
	t.Helper()
	for _, e := range []api.Event{{Kind: api.Data}, {Kind: api.Open}, {Kind: api.Retire}} {
		if _, _, err := Do(w, e); err != api.OK {
			t.Fatalf("%s: Do(%+v, %+v): %v", what, w, e, err)
		}
	}
}

// wantMayNot: is the world refused whatever comes, also what may not come?
func wantMayNot(t *testing.T, what string, w api.World) {
	t.Helper()
	events := []api.Event{
		{Kind: api.Open}, {Kind: api.Data}, {Kind: api.Close}, {Kind: api.Answer, Good: true}, {Kind: api.Answer},
		{Kind: api.Join, Weight: 1}, {Kind: api.Retire}, tick, {}, {Kind: 8}, {Kind: api.Open, Key: -1}, {Kind: api.Tick, Key: 1},
	}
	for _, e := range events {
		if got, l, err := Do(w, e); !isZero(got) || len(l) != 0 || err != api.ErrState {
			t.Fatalf("%s: Do(%+v, %+v): %+v, %+v, %v, want %v", what, w, e, got, l, err, api.ErrState)
		}
	}
}

// outOf a flow: what goes out of it, as it is behind the event.
func outOf(kind int, f api.Flow) api.Output {
	return api.Output{Kind: kind, Slot: f.Handle.Slot, Gen: f.Handle.Gen, Backend: f.Backend}
}

func resetOf(f api.Flow, why int) api.Output {
	return api.Output{Kind: api.Reset, Slot: f.Handle.Slot, Gen: f.Handle.Gen, Backend: f.Backend, Why: why}
}

func codeOut(kind int, code api.Errno) api.Output { return api.Output{Kind: kind, Code: code} }

func reply(request int, code api.Errno) api.Output {
	return api.Output{Kind: api.Reply, Request: request, Code: code}
}

func gone(backend, request int) api.Output {
	return api.Output{Kind: api.Gone, Backend: backend, Request: request}
}

func opens(key int) api.Event { return api.Event{Kind: api.Open, Key: key} }

// of a flow: an event with its handle.
func of(kind int, f api.Flow) api.Event {
	return api.Event{Kind: kind, Slot: f.Handle.Slot, Gen: f.Handle.Gen}
}

func good(f api.Flow) api.Event {
	e := of(api.Answer, f)
	e.Good = true
	return e
}

func bad(f api.Flow) api.Event { return of(api.Answer, f) }

func asksJoin(request, backend, weight int) api.Event {
	return api.Event{Kind: api.Join, Request: request, Backend: backend, Weight: weight}
}

func asksRetire(request, backend int) api.Event {
	return api.Event{Kind: api.Retire, Request: request, Backend: backend}
}
