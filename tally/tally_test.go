package tally

import (
	"slices"
	"testing"

	"usher/api"
)

// P13.1 to P13.4: nothing went out.
func TestNothing(t *testing.T) {
	for _, l := range emptied() {
		wantOf(t, l, api.Counts{})
		wantLive(t, l, 0)
		wantStory(t, l, api.Handle{})
		wantStory(t, l, api.Handle{Slot: -1, Gen: -1})
		wantBy(t, l, by())
	}
}

// P13.1: one output of each kind, with each Why: only a Reset's is counted, the Why 0, too.
func TestOfOne(t *testing.T) {
	for kind := 1; kind <= kinds; kind++ {
		for why := 0; why <= whys; why++ {
			var want api.Counts
			want.Outputs[kind] = 1
			if kind == reset {
				want.Whys[why] = 1
			}
			wantOf(t, []api.Output{because(out(kind, 1, 2, 3), why)}, want)
		}
	}
}

// P13.1: each kind another number of times, and each Why of a Reset.
func TestOfMany(t *testing.T) {
	var l []api.Output
	var want api.Counts
	for kind := 1; kind <= kinds; kind++ {
		for i := range kind * 3 {
			l = append(l, because(out(kind, i, 0, 0), i%(whys+1)))
		}
		want.Outputs[kind] = kind * 3
	}
	want.Whys = [6]int{3, 3, 3, 3, 3, 3}
	wantOf(t, l, want)
	slices.Reverse(l)
	wantOf(t, l, want)
	for why := range whys + 1 {
		l = append(l, slices.Repeat([]api.Output{because(out(reset, 0, 0, 0), why)}, why*100)...)
		want.Outputs[reset] += why * 100
		want.Whys[why] += why * 100
	}
	wantOf(t, l, want)
}

// P13.1: outputs of one flow that are the same are counted each.
func TestOfTheSame(t *testing.T) {
	var want api.Counts
	want.Outputs[forward] = 70000
	wantOf(t, slices.Repeat([]api.Output{out(forward, 1, 2, 3)}, 70000), want)
	want = api.Counts{}
	want.Outputs[reset], want.Whys[5] = 70000, 70000
	wantOf(t, slices.Repeat([]api.Output{because(out(reset, 1, 2, 3), 5)}, 70000), want)
}

// P13.1: a Kind that is none, alone and at each place among others, whatever its Why.
func TestWrongKinds(t *testing.T) {
	right := []api.Output{out(accept, 0, 0, 1), out(refuse, 0, 0, 0), out(closed, 0, 0, 1)}
	for _, kind := range wrongKinds {
		for why := 0; why <= whys; why++ {
			noKind(t, []api.Output{because(out(kind, 0, 0, 0), why)})
			for _, l := range placed(right, because(out(kind, 7, 7, 7), why)) {
				noKind(t, l)
			}
		}
	}
}

// P13.1: a Why that is none, of an output of each kind, not of Resets alone.
func TestWrongWhys(t *testing.T) {
	right := []api.Output{out(accept, 0, 0, 1), because(out(reset, 0, 0, 1), 3), out(bad, 0, 0, 0)}
	for _, why := range wrongWhys {
		for kind := 1; kind <= kinds; kind++ {
			noKind(t, []api.Output{because(out(kind, 0, 0, 0), why)})
			for _, l := range placed(right, because(out(kind, 7, 7, 7), why)) {
				noKind(t, l)
			}
		}
		for _, kind := range wrongKinds {
			noKind(t, []api.Output{because(out(kind, 0, 0, 0), why)})
		}
	}
}

// P13.1: one that is wrong behind many that are right, and many that are wrong ahead of one that is right.
func TestWrongAtTheEnd(t *testing.T) {
	many := slices.Repeat([]api.Output{out(accept, 1, 2, 3)}, 5000)
	noKind(t, append(slices.Clone(many), out(kinds+1, 0, 0, 0)))
	noKind(t, append(slices.Clone(many), because(out(reset, 1, 2, 3), whys+1)))
	wrong := slices.Repeat([]api.Output{out(0, 0, 0, 0)}, 5)
	noKind(t, wrong)
	noKind(t, append(wrong, out(accept, 0, 0, 0)))
}

// P13.1: ErrKind is told ahead of Live's ErrState and of By's ErrRange, on whichever side of it that stands.
func TestKindAheadOfAllElse(t *testing.T) {
	for _, wrong := range []api.Output{
		out(0, 0, 0, 0), out(kinds+1, 0, 0, 0), because(out(accept, 0, 0, 0), -1), because(out(closed, 0, 0, 0), whys+1),
		out(0, 0, 0, backends), because(out(bad, 0, 0, -1), whys+1), // its own Backend is wrong, too
	} {
		for _, l := range placed([]api.Output{out(closed, 0, 0, 0), out(closed, 0, 0, backends), because(out(reset, 0, 0, -1), 1)}, wrong) {
			noKind(t, l)
		}
	}
}

// P13.1 to P13.4: all kinds with all Whys are right in each call.
func TestRightKinds(t *testing.T) {
	for kind := 1; kind <= kinds; kind++ {
		for why := 0; why <= whys; why++ {
			l := []api.Output{out(accept, 0, 0, 2), because(out(kind, 0, 0, 2), why)}
			for call, err := range errorsOf(l) {
				if err != api.OK {
					t.Errorf("%s(%v): %v", call, l, err)
				}
			}
		}
	}
}

// errorsOf all four calls.
func errorsOf(l []api.Output) map[string]api.Errno {
	_, of := Of(l)
	_, live := Live(l)
	_, story := Story(l, api.Handle{})
	_, by := By(l)
	return map[string]api.Errno{"Of": of, "Live": live, "Story": story, "By": by}
}

// P13.2: Accepts, less Resets and Closeds; no other kind counts.
func TestLive(t *testing.T) {
	for _, c := range []struct {
		l    []api.Output
		want int
	}{
		{ofKinds(accept), 1},
		{ofKinds(accept, accept, accept), 3},
		{ofKinds(accept, closed), 0},
		{ofKinds(accept, reset), 0},
		{ofKinds(accept, accept, closed), 1},
		{ofKinds(accept, accept, reset), 1},
		{ofKinds(accept, accept, accept, reset, closed), 1},
		{ofKinds(accept, accept, reset, closed), 0},
		{ofKinds(closed, accept), 0}, // below 0 at first alone
		{ofKinds(reset, closed, accept, accept, accept), 1},
		{ofKinds(refuse, forward, serve, again, reply, gone, bad), 0},
		{ofKinds(accept, refuse, forward, serve, again, reply, gone, bad), 1},
	} {
		wantLive(t, c.l, c.want)
	}
	wantLive(t, slices.Repeat(ofKinds(accept, accept, closed, accept, reset), 20000), 20000)
}

// P13.2: Resets count for each Why, and handles and backends are not looked at.
func TestLiveOfEach(t *testing.T) {
	for why := 0; why <= whys; why++ {
		r := because(out(reset, 3, 4, 5), why)
		wantLive(t, []api.Output{out(accept, 0, 0, 0), r}, 0)
		wantLive(t, []api.Output{out(accept, 0, 0, 0), r, out(accept, 3, 4, 5)}, 1)
		noLive(t, []api.Output{r}, api.ErrState)
	}
	for _, n := range odd {
		wantLive(t, []api.Output{out(accept, n, 0, 0), out(accept, 0, n, 0), out(accept, 0, 0, n), out(closed, n, n, n)}, 2)
	}
}

// P13.2: less than nothing, by one and by more.
func TestLiveBelowNothing(t *testing.T) {
	for _, l := range [][]api.Output{
		ofKinds(closed),
		ofKinds(reset),
		ofKinds(reset, closed),
		ofKinds(accept, closed, closed),
		ofKinds(accept, reset, reset),
		ofKinds(accept, closed, reset),
		ofKinds(closed, reset, accept),
		ofKinds(accept, accept, closed, closed, closed),
		ofKinds(refuse, forward, serve, again, closed, reply, gone, bad),
		slices.Repeat(ofKinds(accept, closed, reset), 1000),
	} {
		noLive(t, l, api.ErrState)
		if _, err := Of(l); err != api.OK {
			t.Errorf("Of(%s): %v", brief(l), err)
		}
		if _, err := Story(l, api.Handle{}); err != api.OK {
			t.Errorf("Story(%s): %v", brief(l), err)
		}
		wantBy(t, append(l, out(closed, 0, 0, 0)), by())
	}
}

// P13.3: the six kinds of a flow are told, the four others not, though they have its Slot and Gen.
func TestStoryOfKinds(t *testing.T) {
	h := api.Handle{Slot: 3, Gen: 8}
	for _, kind := range ofFlows {
		wantStory(t, []api.Output{out(kind, 3, 8, 5)}, h, out(kind, 3, 8, 5))
		wantStory(t, ofKinds(kind), api.Handle{}, out(kind, 0, 0, 0))
	}
	for _, kind := range ofOthers {
		wantStory(t, []api.Output{out(kind, 3, 8, 5)}, h)
		wantStory(t, ofKinds(kind), api.Handle{})
	}
}

// P13.3: both the Slot and the Gen are the handle's.
func TestStoryOfHandles(t *testing.T) {
	h := api.Handle{Slot: 3, Gen: 8}
	for _, kind := range ofFlows {
		for _, other := range []api.Output{out(kind, 3, 7, 5), out(kind, 3, 9, 5), out(kind, 2, 8, 5), out(kind, 4, 8, 5), out(kind, 8, 3, 5), out(kind, 0, 0, 5), out(kind, 3+1<<32, 8, 5), out(kind, 3, 8+1<<32, 5)} {
			wantStory(t, []api.Output{other}, h)
			wantStory(t, []api.Output{other, out(kind, 3, 8, 1), other}, h, out(kind, 3, 8, 1))
		}
	}
	for _, slot := range odd {
		for _, gen := range odd {
			o := out(forward, slot, gen, 0)
			wantStory(t, []api.Output{out(forward, 77, gen, 0), o, out(forward, slot, 77, 0)}, api.Handle{Slot: slot, Gen: gen}, o)
		}
	}
}

// P13.3: in their order, all of them, each time that they come.
func TestStoryInOrder(t *testing.T) {
	x, y := api.Handle{Slot: 1}, api.Handle{Slot: 1, Gen: 1}
	l := []api.Output{
		out(serve, 1, 1, 2), out(accept, 1, 0, 4), out(reply, 0, 0, 0), out(accept, 1, 1, 9), out(forward, 1, 0, 4), out(forward, 1, 0, 4),
		out(bad, 1, 0, 0), out(again, 1, 0, 3), out(serve, 1, 0, 3), out(forward, 1, 1, 9), out(gone, 0, 0, 4), because(out(reset, 1, 0, 3), 2),
		out(accept, 1, 0, 1), out(closed, 1, 0, 1), out(closed, 1, 1, 9), out(forward, 1, 0, 1),
	}
	wantStory(t, l, x, l[1], l[4], l[5], l[7], l[8], l[11], l[12], l[13], l[15])
	wantStory(t, l, y, l[0], l[3], l[9], l[14])
	wantStory(t, l, api.Handle{})
	slices.Reverse(l)
	wantStory(t, l, y, l[1], l[6], l[12], l[15])
}

// P13.3: an output is told as it is, with all of its fields, also where they say nothing.
func TestStoryAsItIs(t *testing.T) {
	for _, kind := range ofFlows {
		for _, n := range odd {
			o := api.Output{Kind: kind, Slot: n, Gen: 7, Backend: n, Request: n, Code: api.Errno(n), Why: 4}
			wantStory(t, []api.Output{o, out(bad, n, 7, 0), o}, api.Handle{Slot: n, Gen: 7}, o, o)
		}
	}
}

// P13.4: a flow of each backend, taken there or brought there again.
func TestByOne(t *testing.T) {
	for b := range backends {
		wantBy(t, []api.Output{out(accept, 1, 2, b)}, by([2]int{b, 1}))
		wantBy(t, []api.Output{out(again, 1, 2, b)}, by([2]int{b, 1}))
		wantBy(t, []api.Output{out(accept, 1, 2, b), out(again, 1, 2, (b+5)%backends)}, by([2]int{(b + 5) % backends, 1}))
		wantBy(t, []api.Output{out(again, 1, 2, b), out(accept, 1, 2, (b+5)%backends)}, by([2]int{(b + 5) % backends, 1}))
		for _, kind := range []int{refuse, forward, serve, reset, closed, reply, gone, bad} {
			wantBy(t, []api.Output{out(kind, 1, 2, b)}, by())
		}
	}
}

// P13.4: each of the four kinds behind each: the last one counts, whatever its Backend; the others change nothing.
func TestByTheLast(t *testing.T) {
	for kind := 1; kind <= kinds; kind++ {
		for _, first := range []int{accept, again, reset, closed} {
			l := []api.Output{out(first, 4, 4, 7), out(kind, 4, 4, 2)}
			want := by()
			switch {
			case kind == accept || kind == again:
				want = by([2]int{2, 1})
			case kind != reset && kind != closed && (first == accept || first == again):
				want = by([2]int{7, 1})
			}
			wantBy(t, l, want)
		}
	}
}

// P13.4: of one handle the same one twice, ends that come twice, and flows that come once more.
func TestByOfOneHandle(t *testing.T) {
	for _, c := range []struct {
		l    []api.Output
		want []int
	}{
		{ofKinds(accept, accept), by([2]int{0, 1})},
		{ofKinds(accept, again, again), by([2]int{0, 1})},
		{ofKinds(accept, closed, reset), by()},
		{ofKinds(closed, closed, accept), by([2]int{0, 1})},
		{ofKinds(accept, closed, accept), by([2]int{0, 1})},
		{ofKinds(accept, reset, again), by([2]int{0, 1})},
		{ofKinds(accept, reset, again, closed), by()},
		{ofKinds(accept, closed, forward, serve), by()},
		{slices.Repeat(ofKinds(accept, again, reset), 1000), by()},
		{slices.Repeat(ofKinds(accept), 1000), by([2]int{0, 1})},
	} {
		wantBy(t, c.l, c.want)
	}
	for why := 0; why <= whys; why++ {
		wantBy(t, []api.Output{out(accept, 1, 1, 6), because(out(reset, 1, 1, 6), why)}, by())
		wantBy(t, []api.Output{because(out(accept, 1, 1, 6), why)}, by([2]int{6, 1}))
	}
}

// P13.4: flows are told from each other by Slot and Gen, at all numbers.
func TestByOfHandles(t *testing.T) {
	wantBy(t, []api.Output{out(accept, 1, 2, 3), out(closed, 2, 1, 3), out(closed, 1, 1, 3), out(closed, 2, 2, 3)}, by([2]int{3, 1}))
	wantBy(t, []api.Output{out(accept, 1, 2, 3), out(accept, 2, 1, 3), out(accept, 1, 1, 3), out(accept, 2, 2, 4), out(closed, 1, 1, 3)}, by([2]int{3, 2}, [2]int{4, 1}))
	var l []api.Output
	for _, slot := range odd {
		for _, gen := range odd {
			l = append(l, out(accept, slot, gen, 11))
		}
	}
	wantBy(t, l, by([2]int{11, len(odd) * len(odd)}))
	for i, o := range slices.Clone(l) {
		l = append(l, out(closed, o.Slot, o.Gen, 0))
		wantBy(t, l, by([2]int{11, len(odd)*len(odd) - i - 1}))
	}
}

// P13.4: very many flows, more than a table has slots.
func TestByMany(t *testing.T) {
	var l []api.Output
	want := by()
	for i := range 60000 {
		l = append(l, out(accept, i, i%7, i%5))
		switch i % 4 {
		case 0:
			l = append(l, out(again, i, i%7, 11))
			want[11]++
		case 1:
			l = append(l, out(closed, i, i%7, i%5))
		default:
			want[i%5]++
		}
	}
	wantBy(t, l, want)
}

// P13.4: a Backend beyond its bounds, of an output of each kind, at each place; the other calls do not ask for it.
func TestByWrongBackends(t *testing.T) {
	right := []api.Output{out(accept, 0, 0, 0), out(again, 0, 0, backends-1), out(refuse, 0, 0, 0)}
	for _, b := range wrongBackends {
		for kind := 1; kind <= kinds; kind++ {
			noBy(t, []api.Output{out(kind, 0, 0, b)}, api.ErrRange)
			for _, l := range placed(right, out(kind, 1, 1, b)) {
				noBy(t, l, api.ErrRange)
				noBy(t, append(l, out(closed, 1, 1, 0)), api.ErrRange)
				if _, err := Of(l); err != api.OK {
					t.Errorf("Of(%v): %v", l, err)
				}
				if _, err := Live(l); err != api.OK {
					t.Errorf("Live(%v): %v", l, err)
				}
			}
			wantStory(t, []api.Output{out(accept, 0, 0, b)}, api.Handle{}, out(accept, 0, 0, b))
		}
	}
	for b := range backends {
		for kind := 1; kind <= kinds; kind++ {
			if _, err := By([]api.Output{out(kind, 0, 0, b)}); err != api.OK {
				t.Errorf("By of the kind %d, the Backend %d: %v", kind, b, err)
			}
		}
	}
}

// P13.1 to P13.4: what no bound is told of may be any number.
func TestUnboundedFields(t *testing.T) {
	for _, n := range odd {
		for kind := 1; kind <= kinds; kind++ {
			o := api.Output{Kind: kind, Slot: n, Gen: n, Backend: 3, Request: n, Code: api.Errno(n)}
			for call, err := range errorsOf([]api.Output{out(accept, 0, 0, 0), o}) {
				if err != api.OK {
					t.Errorf("%s of %v: %v", call, o, err)
				}
			}
		}
	}
}
