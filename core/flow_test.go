package core

import (
	"slices"
	"testing"

	"usher/api"
)

// P12.6: a handle that Get refuses is told by its Code, and nothing changes.
func TestBadHandles(t *testing.T) {
	w := peopled() // used: the slot 0 of Gen 3, 2 of 0, 3 of 1, 5 of 7; free: 1 of 4, 4 of MaxGen
	var stale, none []api.Handle
	for slot, s := range w.Table.Slots {
		for _, gen := range []int{0, 1, 2, 3, 4, 5, 6, 7, 8, mostGen - 1, mostGen} {
			if !s.Used || s.Gen != gen {
				stale = append(stale, api.Handle{Slot: slot, Gen: gen})
			}
		}
	}
	for slot := 6; slot < 40; slot++ {
		none = append(none, api.Handle{Slot: slot}, api.Handle{Slot: slot, Gen: 3}, api.Handle{Slot: slot, Gen: mostGen})
	}
	for _, kind := range []int{api.Data, api.Close, api.Answer} {
		for _, isGood := range []bool{false, true} {
			if isGood && kind != api.Answer {
				continue
			}
			for _, h := range stale {
				e := api.Event{Kind: kind, Slot: h.Slot, Gen: h.Gen, Good: isGood}
				wantDo(t, w, e, w, codeOut(api.Bad, api.ErrStale))
			}
			for _, h := range none {
				e := api.Event{Kind: kind, Slot: h.Slot, Gen: h.Gen, Good: isGood}
				wantDo(t, w, e, w, codeOut(api.Bad, api.ErrNone))
			}
		}
	}
}

// P12.6: Data goes on to the backend; who is Serving waits Idle ticks from now on, the others as long as before.
func TestData(t *testing.T) {
	w := peopled()
	for _, f := range w.Flows {
		for _, serving := range []bool{false, true} {
			given := led(w, func(w *api.World) { flowIn(w, f.Handle.Slot).Serving = serving })
			want := led(given, func(w *api.World) {
				if serving {
					flowIn(w, f.Handle.Slot).Due = 120
				}
			})
			wantDo(t, given, of(api.Data, f), want, outOf(api.Forward, f))
		}
	}
	for _, idle := range []int{1, 2, 499, 500} {
		one := serves(waits(0, 2, 9, 3, 60))
		c := config()
		c.Idle = idle
		w := made(c, 50, lives(active(3, 1, 0)), one)
		wantDo(t, w, of(api.Data, one), led(w, func(w *api.World) { w.Flows[0].Due = 50 + idle }), outOf(api.Forward, one))
	}
}

// P12.6 and P12.9: Close ends a flow with Closed, be it Serving or not; no outcome is noted.
func TestClose(t *testing.T) {
	w := peopled()
	for _, slot := range []int{0, 3, 5} {
		for _, serving := range []bool{false, true} {
			given := led(w, func(w *api.World) { flowIn(w, slot).Serving = serving })
			f := *flowIn(&given, slot)
			want := led(given, func(w *api.World) { without(w, slot) })
			wantDo(t, given, of(api.Close, f), want, outOf(api.Closed, f))
			wantDo(t, want, of(api.Close, f), want, codeOut(api.Bad, api.ErrStale))
		}
	}
}

// P12.6: an Answer of a flow that is Serving means nothing, good or not.
func TestAnswerTwice(t *testing.T) {
	w := peopled()
	f := w.Flows[1]
	wantDo(t, w, good(f), w, codeOut(api.Bad, api.ErrTwice))
	wantDo(t, w, bad(f), w, codeOut(api.Bad, api.ErrTwice))
}

// P12.6: an Answer that is Good is noted; the flow is Serving, and waits Idle ticks.
func TestAnswerGood(t *testing.T) {
	w := peopled()
	for _, slot := range []int{0, 3, 5} {
		f := *flowIn(&w, slot)
		want := led(w, func(w *api.World) {
			*flowIn(w, slot) = serves(tried(waits(slot, f.Handle.Gen, f.Key, f.Backend, 120), f.Retries))
			h := &w.Health[f.Backend]
			h.Marks = append(h.Marks, false)
		})
		wantDo(t, w, good(f), want, outOf(api.Serve, f))
	}
	for _, idle := range []int{1, 2, 499, 500} {
		one := waits(0, 2, 9, 3, 60)
		c := config()
		c.Idle = idle
		w := made(c, 50, lives(active(3, 1, 0)), one)
		want := led(w, func(w *api.World) {
			w.Flows[0].Due, w.Flows[0].Serving, w.Health[3].Marks = 50+idle, true, []bool{false}
		})
		wantDo(t, w, good(one), want, outOf(api.Serve, one))
	}
}

// two backends, with a flow at the first one that waits, and one more that makes no difference.
func twoBackends() (api.World, api.Flow) {
	f := waits(1, 4, 9, 3, 60)
	return made(config(), 50, lives(active(3, 1, 0), active(7, 1, 0)), waits(0, 0, 2, 7, 70), f), f
}

// noted: the Health of the backend 3 behind an outcome of its flow.
func noted(t *testing.T, w api.World, f api.Flow, isGood bool) api.Health {
	t.Helper()
	e := bad(f)
	e.Good = isGood
	got, _, err := Do(w, e)
	if err != api.OK {
		t.Fatalf("Do(%+v, %+v): %v", w, e, err)
	}
	for i, h := range got.Health {
		if i != f.Backend && !sameHealth(h, w.Health[i]) {
			t.Fatalf("an outcome of %d changes the health of %d: %+v", f.Backend, i, h)
		}
	}
	return got.Health[f.Backend]
}

// P12.7: outcomes stand behind the Marks, of which the last ones stay.
func TestNoteMarks(t *testing.T) {
	w, f := twoBackends()
	w.Config.Watch = api.Watch{Window: 3, Fails: 3, Hold: 7}
	for _, x := range []struct{ before, good, bad []bool }{
		{nil, []bool{false}, []bool{true}},
		{[]bool{true}, []bool{true, false}, []bool{true, true}},
		{[]bool{false, true}, []bool{false, true, false}, []bool{false, true, true}},
		{[]bool{true, true, false}, []bool{true, false, false}, []bool{true, false, true}},
		{[]bool{true, false, true}, []bool{false, true, false}, []bool{false, true, true}},
	} {
		w.Health[3] = api.Health{Marks: x.before, Times: 4}
		if got := noted(t, w, f, true); !sameHealth(got, api.Health{Marks: x.good, Times: 4}) {
			t.Errorf("%v and a good outcome: %+v", x.before, got)
		}
		if got := noted(t, w, f, false); !sameHealth(got, api.Health{Marks: x.bad, Times: 4}) {
			t.Errorf("%v and a failure: %+v", x.before, got)
		}
	}
}

// P12.7: by an outcome a backend that is Active is thrown out at Now, as long as the share allows it.
func TestNoteThrowsOut(t *testing.T) {
	w, f := twoBackends()
	w.Health[3] = api.Health{Marks: []bool{true}, Times: 1}
	if got := noted(t, w, f, false); !sameHealth(got, api.Health{Out: true, Until: 50 + 14, Times: 2}) {
		t.Errorf("the second failure: %+v", got)
	}
	if got := noted(t, w, f, true); !sameHealth(got, api.Health{Marks: []bool{true, false}, Times: 1}) {
		t.Errorf("a good outcome behind one failure: %+v", got)
	}
	w.Health[3].Marks = []bool{true, true} // from a time when the share was used up
	if got := noted(t, w, f, true); !sameHealth(got, api.Health{Out: true, Until: 50 + 14, Times: 2}) {
		t.Errorf("a good outcome behind two failures: %+v", got)
	}
	w.Health[3] = api.Health{Marks: []bool{true, true}, Out: true, Until: 55, Times: 1}
	if got := noted(t, w, f, false); !sameHealth(got, api.Health{Marks: []bool{true, true, true}, Out: true, Until: 55, Times: 1}) {
		t.Errorf("of one that is out: %+v", got)
	}
}

// P12.7: who drains is not thrown out.
func TestNoteOfOneThatDrains(t *testing.T) {
	f := waits(1, 4, 9, 3, 60)
	w := made(config(), 50, lives(drains(3, 1, 0, 70, 2), active(7, 1, 0)), waits(0, 0, 2, 3, 70), f)
	w.Health[3] = api.Health{Marks: []bool{true, true}}
	if got := noted(t, w, f, false); !sameHealth(got, api.Health{Marks: []bool{true, true, true}}) {
		t.Errorf("a failure of one that drains: %+v", got)
	}
	if got := noted(t, w, f, true); !sameHealth(got, api.Health{Marks: []bool{true, true, false}}) {
		t.Errorf("a good outcome of one that drains: %+v", got)
	}
}

// P12.7: the share: of the lives that are Active, and of those among them that are Out, alone.
func TestNoteShare(t *testing.T) {
	f := waits(0, 0, 9, 3, 60)
	others := []api.Flow{waits(1, 0, 9, 8, 60)}
	out := api.Health{Out: true, Until: 90, Times: 1}
	for _, x := range []struct {
		most int
		l    []api.Life
		out  []int
		want bool
	}{
		{0, lives(active(3, 1, 0), active(4, 1, 0)), nil, false},
		{49, lives(active(3, 1, 0), active(4, 1, 0)), nil, false},
		{50, lives(active(3, 1, 0), active(4, 1, 0)), nil, true},
		{50, lives(active(3, 1, 0), active(4, 1, 0)), []int{4}, false},
		{99, lives(active(3, 1, 0), active(4, 1, 0)), []int{4}, false},
		{100, lives(active(3, 1, 0), active(4, 1, 0)), []int{4}, true},
		{99, lives(active(3, 1, 0)), nil, false},
		{100, lives(active(3, 1, 0)), nil, true},
		{33, lives(active(3, 1, 0), active(4, 1, 0), active(5, 1, 0)), nil, false},
		{34, lives(active(3, 1, 0), active(4, 1, 0), active(5, 1, 0)), nil, true},
		{66, lives(active(3, 1, 0), active(4, 1, 0), active(5, 1, 0)), []int{5}, false},
		{67, lives(active(3, 1, 0), active(4, 1, 0), active(5, 1, 0)), []int{5}, true},
		{67, lives(active(2, 1, 0), active(3, 1, 0), active(5, 1, 0)), []int{2, 5}, false},
		// Who is not Active counts neither among them nor as one that is out.
		{50, lives(active(3, 1, 0), joins(4, 1)), nil, false},
		{50, lives(active(3, 1, 0), retired(4, 1, 0, 0, 0)), nil, false},
		{50, lives(active(3, 1, 0), drains(8, 1, 0, 80, 0)), nil, false},
		{50, lives(active(3, 1, 0), active(4, 1, 0), joins(5, 1)), []int{5}, true},
		{50, lives(active(3, 1, 0), active(4, 1, 0), retired(5, 1, 0, 0, 0)), []int{5}, true},
		{50, lives(active(3, 1, 0), active(4, 1, 0), drains(8, 1, 0, 80, 0)), []int{8}, true},
		{50, lives(active(3, 1, 0), active(4, 1, 0)), []int{0, 5, 11}, true},
	} {
		c := config()
		c.Most = x.most
		flows := []api.Flow{f}
		if slices.ContainsFunc(x.l, func(l api.Life) bool { return l.State == api.Draining }) {
			flows = append(flows, others...)
		}
		w := made(c, 50, x.l, flows...)
		w.Health[3].Marks = []bool{true}
		for _, b := range x.out {
			w.Health[b] = out
		}
		if got := noted(t, w, f, false); got.Out != x.want {
			t.Errorf("%d of a hundred, lives %+v, out %v: %+v", x.most, x.l, x.out, got)
		}
	}
}

// fails: a flow that fails by an event, and for which why.
type fails struct {
	w   api.World
	f   api.Flow
	e   api.Event
	why int
}

// failing both ways: by an Answer, and as its time has come.
func failing(w api.World, slot int) []fails {
	f := *flowIn(&w, slot)
	late := led(w, func(w *api.World) { flowIn(w, slot).Due = w.Now + 1 })
	return []fails{{w, f, bad(f), api.WhyFailed}, {late, *flowIn(&late, slot), tick, api.WhyConnect}}
}

// want of a flow that fails: the world behind it, where ticks are added, and what goes out.
func (x fails) want(t *testing.T, change func(w *api.World), out ...api.Output) {
	t.Helper()
	wantDo(t, x.w, x.e, led(x.w, func(w *api.World) {
		if x.e == tick {
			w.Now++
		}
		change(w)
	}), out...)
}

// ended: the flow is gone, behind a failure that is noted.
func (x fails) ended(w *api.World) {
	without(w, x.f.Handle.Slot)
	w.Health[x.f.Backend].Marks = append(w.Health[x.f.Backend].Marks, true)
}

// again: the flow is at a backend once more, behind a failure that is noted.
func (x fails) again(w *api.World, backend int) {
	f := flowIn(w, x.f.Handle.Slot)
	f.Backend, f.Retries, f.Due = backend, f.Retries+1, w.Now+w.Config.Connect
	w.Health[x.f.Backend].Marks = append(w.Health[x.f.Backend].Marks, true)
	w.Bucket.Tokens -= w.Config.Budget.Den
}

func (x fails) at(backend int) api.Flow {
	x.f.Backend = backend
	return x.f
}

// P12.8: without Retries that are left it ends, for its own why, and nothing is spent.
func TestFailWithoutRetries(t *testing.T) {
	for _, most := range []int{0, 1, 3, 20} {
		for retries := range most + 1 {
			w, f := twoBackends()
			w = led(w, func(w *api.World) {
				w.Config.Retries = most
				flowIn(w, 1).Retries = retries
			})
			to := walkOf(w.Book.Lives, f.Key)[0]
			for _, x := range failing(w, 1) {
				if retries == most {
					x.want(t, x.ended, resetOf(x.f, x.why))
				} else {
					x.want(t, func(w *api.World) { x.again(w, to) }, outOf(api.Again, x.at(to)))
				}
			}
		}
	}
}

// P12.8: the Bucket must have Den tokens.
func TestFailWithoutTokens(t *testing.T) {
	for den := 1; den <= 3; den++ {
		for tokens := range den * 3 {
			w, f := twoBackends()
			w.Config.Budget.Den, w.Bucket.Tokens = den, tokens
			to := walkOf(w.Book.Lives, f.Key)[0]
			for _, x := range failing(w, 1) {
				if tokens < den {
					x.want(t, x.ended, resetOf(x.f, x.why))
				} else {
					x.want(t, func(w *api.World) { x.again(w, to) }, outOf(api.Again, x.at(to)))
				}
			}
		}
	}
	w, _ := twoBackends()
	w.Config.Budget.Burst, w.Bucket.Tokens = 0, 0
	for _, x := range failing(w, 1) {
		x.want(t, x.ended, resetOf(x.f, x.why))
	}
}

// P12.8: where nobody can be chosen it ends with WhyNobody, and nothing is spent; but the other reasons come first.
func TestFailWithNobody(t *testing.T) {
	f := waits(1, 4, 9, 3, 60)
	w := made(config(), 50, lives(drains(3, 1, 0, 70, 2), joins(4, 1), retired(5, 1, 0, 0, 0)), waits(0, 0, 2, 3, 70), f)
	for _, tokens := range []int{2, 3, 6} {
		w.Bucket.Tokens = tokens
		x := failing(w, 1)[0]
		x.want(t, x.ended, resetOf(x.f, api.WhyNobody))
	}
	w.Bucket.Tokens = 1
	x := failing(w, 1)[0]
	x.want(t, x.ended, resetOf(x.f, api.WhyFailed))
	w.Bucket.Tokens = 6
	w = changed(w, func(w *api.World) { flowIn(w, 1).Retries = 3 })
	x = failing(w, 1)[0]
	x.want(t, x.ended, resetOf(x.f, api.WhyFailed))

	w = made(config(), 50, lives(active(3, 1, 0), active(4, 1, 0)), f)
	w.Health[3] = api.Health{Out: true, Until: 90, Times: 1}
	w.Health[4] = api.Health{Out: true, Until: 90, Times: 1}
	for _, x := range failing(w, 1) {
		x.want(t, x.ended, resetOf(x.f, api.WhyNobody))
	}
}

// P12.8: the failure counts ahead of the choice: who is thrown out by it is not chosen.
func TestFailThrowsOut(t *testing.T) {
	w, _ := twoBackends()
	key := keyFor(w.Book.Lives, 3, 7)
	w = led(w, func(w *api.World) {
		flowIn(w, 1).Key = key
		w.Health[3].Marks = []bool{true}
	})
	for _, x := range failing(w, 1) {
		x.want(t, func(w *api.World) {
			x.again(w, 7)
			w.Health[3] = api.Health{Out: true, Until: w.Now + 7, Times: 1}
		}, outOf(api.Again, x.at(7)))
	}
	w = changed(w, func(w *api.World) { w.Health[7] = api.Health{Out: true, Until: 90, Times: 1} })
	for _, x := range failing(w, 1) {
		x.want(t, func(w *api.World) {
			x.ended(w)
			w.Health[3] = api.Health{Out: true, Until: w.Now + 7, Times: 1}
		}, resetOf(x.f, api.WhyNobody))
	}
	w.Config.Most = 99 // one more may not be out: it is chosen again
	for _, x := range failing(w, 1) {
		x.want(t, func(w *api.World) { x.again(w, 3) }, outOf(api.Again, x.f))
	}
}

// P12.8: along the walk of its own key, to the same backend or to another one.
func TestFailGoesOn(t *testing.T) {
	w, _ := twoBackends()
	for _, to := range []int{3, 7} {
		for key := range 40 {
			if walkOf(w.Book.Lives, key)[0] != to {
				continue
			}
			given := led(w, func(w *api.World) { flowIn(w, 1).Key = key })
			for _, x := range failing(given, 1) {
				x.want(t, func(w *api.World) { x.again(w, to) }, outOf(api.Again, x.at(to)))
			}
		}
	}
	for _, connect := range []int{1, 2, 499, 500} {
		w.Config.Connect = connect
		to := walkOf(w.Book.Lives, 9)[0]
		for _, x := range failing(w, 1) {
			x.want(t, func(w *api.World) { x.again(w, to) }, outOf(api.Again, x.at(to)))
		}
	}
}

// P12.5 and P12.8: a flow that goes elsewhere counts neither at its backend nor among all flows.
func TestFailLeavesItselfOut(t *testing.T) {
	l := lives(active(1, 1, 0), active(2, 1, 0))
	key := keyFor(l, 1, 2)
	for _, x := range []struct{ one, two, want int }{
		{1, 0, 2}, // the cap is 1; with itself among all flows it would be 2
		{0, 1, 1}, // the cap is 1; with itself at its backend there would be no room
		{1, 1, 1}, // the cap is 2, with itself and without; with itself at its backend there would be no room
		{0, 0, 1}, {2, 1, 2}, {1, 2, 1}, {2, 2, 1}, {3, 2, 2},
	} {
		f := waits(0, 0, key, 1, 60)
		w := made(even(1), 50, l, slices.Concat([]api.Flow{f}, crowd(1, x.one, 1), crowd(10, x.two, 2))...)
		_, out, err := Do(w, bad(f))
		if err != api.OK || len(out) != 1 || out[0].Kind != api.Again || out[0].Backend != x.want {
			t.Errorf("beside %d and %d: %+v, %v, want the backend %d", x.one, x.two, out, err, x.want)
		}
	}
}

// P12.8: the drain of the backend that it left ends, if that has no flow now.
func TestFailLeavesOneThatDrains(t *testing.T) {
	f := waits(1, 4, 9, 3, 60)
	last := made(config(), 50, lives(drains(3, 5, 20, 70, 8), active(7, 1, 0)), waits(0, 0, 2, 7, 70), f)
	for _, x := range failing(last, 1) {
		x.want(t, func(w *api.World) {
			x.again(w, 7)
			*lifeIn(w, 3) = retired(3, 5, 20, 70, 8)
		}, outOf(api.Again, x.at(7)), gone(3, 8))
	}
	more := made(config(), 50, lives(drains(3, 5, 20, 70, 8), active(7, 1, 0)), waits(0, 0, 2, 3, 70), f)
	for _, x := range failing(more, 1) {
		x.want(t, func(w *api.World) { x.again(w, 7) }, outOf(api.Again, x.at(7)))
	}
}

// P12.9: by each why, and closed: the slot is dropped, and with the last flow of a backend that drains the drain ends.
func TestEnd(t *testing.T) {
	l := lives(active(2, 1, 0), drains(3, 5, 20, 70, 8), joins(4, 2))
	f := waits(2, 4, 9, 3, 60)
	type ending struct {
		name   string
		change func(w *api.World)
		e      api.Event
		out    api.Output
		failed bool
	}
	for _, x := range []ending{
		{"closed", func(*api.World) {}, of(api.Close, f), outOf(api.Closed, f), false},
		{"failed", func(w *api.World) { w.Bucket.Tokens = 0 }, bad(f), resetOf(f, api.WhyFailed), true},
		{"nobody", func(w *api.World) { w.Health[2] = api.Health{Out: true, Until: 90} }, bad(f), resetOf(f, api.WhyNobody), true},
		{"idle", func(w *api.World) { flowIn(w, 2).Serving, flowIn(w, 2).Due = true, 51 }, tick, resetOf(f, api.WhyIdle), false},
		{"connect", func(w *api.World) { flowIn(w, 2).Due, flowIn(w, 2).Retries = 51, 3 }, tick, resetOf(f, api.WhyConnect), true},
		{"drain", func(w *api.World) { lifeIn(w, 3).Until = 51 }, tick, resetOf(f, api.WhyDrain), false},
	} {
		for _, others := range [][]api.Flow{
			{f}, {waits(0, 0, 2, 2, 70), f}, {f, serves(waits(3, 0, 2, 2, 70))}, {waits(0, 0, 2, 2, 70), f, waits(5, 9, 2, 2, 70)},
		} {
			w := led(made(config(), 50, l, others...), x.change)
			want := led(w, func(w *api.World) {
				without(w, 2)
				lifeIn(w, 3).State = api.Retired
				if x.failed {
					w.Health[3].Marks = []bool{true}
				}
				if x.e == tick {
					w.Now++
					*lifeIn(w, 4) = active(4, 2, 51)
				}
			})
			wantDo(t, w, x.e, want, x.out, gone(3, 8))
			if x.name == "drain" {
				continue // all of its flows end with it
			}
			more := led(w, func(w *api.World) { w.Flows = slices.Insert(w.Flows, len(w.Flows)-1, waits(1, 0, 2, 3, 80)) })
			slices.SortFunc(more.Flows, func(a, b api.Flow) int { return a.Handle.Slot - b.Handle.Slot })
			want = led(more, func(w *api.World) {
				without(w, 2)
				if x.failed {
					w.Health[3].Marks = []bool{true}
				}
				if x.e == tick {
					w.Now++
					*lifeIn(w, 4) = active(4, 2, 51)
				}
			})
			wantDo(t, more, x.e, want, x.out)
		}
	}
}

// P12.9: the backend of a flow that ends stays as it is, if it is Active; and a slot's last Gen is used up.
func TestEndOfTheLastGen(t *testing.T) {
	c := config()
	c.Flows = 1
	f := waits(0, mostGen-1, 9, 3, 60)
	w := made(c, 50, lives(active(3, 5, 20)), f)
	want := led(w, func(w *api.World) { without(w, 0) })
	wantDo(t, w, of(api.Close, f), want, outOf(api.Closed, f))
	wantDo(t, want, opens(9), want, codeOut(api.Refuse, api.ErrFull))
}
