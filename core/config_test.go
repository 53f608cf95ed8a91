package core

import (
	"slices"
	"testing"

	"usher/api"
)

// part of a config, with numbers that are right and others that are not.
type part struct {
	name  string
	set   func(c *api.Config, n int)
	right []int
	wrong []int
}

// parts of a config, with each bound, and one beyond it.
func parts() []part {
	return []part{
		{"Flows", func(c *api.Config, n int) { c.Flows = n }, []int{1, 2, 39, 40}, []int{0, 41, 42}},
		{"Num", func(c *api.Config, n int) { c.Num = n }, []int{1, 2, 19, 20}, []int{0, 21, 22}},
		{"Den", func(c *api.Config, n int) { c.Den = n }, []int{1, 2, 19, 20}, []int{0, 21, 22}},
		{"Num of Den 7", func(c *api.Config, n int) { c.Den, c.Num = 7, n }, []int{7, 8, 20}, []int{6, 5, 1, 0, 21}},
		{"Den of Num 7", func(c *api.Config, n int) { c.Num, c.Den = 7, n }, []int{1, 6, 7}, []int{0, 8, 9, 20}},
		{"Num and Den", func(c *api.Config, n int) { c.Num, c.Den = n, n }, []int{1, 2, 19, 20}, []int{0, 21, 22}},
		{"Tries", func(c *api.Config, n int) { c.Tries = n }, []int{0, 1, 11, 12}, []int{13, 14}},
		{"Warm", func(c *api.Config, n int) { c.Warm = n }, []int{0, 1, 499, 500}, []int{501, 502}},
		{"Drain", func(c *api.Config, n int) { c.Drain = n }, []int{1, 2, 499, 500}, []int{0, 501, 502}},
		{"Idle", func(c *api.Config, n int) { c.Idle = n }, []int{1, 2, 499, 500}, []int{0, 501, 502}},
		{"Connect", func(c *api.Config, n int) { c.Connect = n }, []int{1, 2, 499, 500}, []int{0, 501, 502}},
		{"Retries", func(c *api.Config, n int) { c.Retries = n }, []int{0, 1, 19, 20}, []int{21, 22}},
		{"Most", func(c *api.Config, n int) { c.Most = n }, []int{0, 1, 99, 100}, []int{101, 102}},
		{"Budget.Num", func(c *api.Config, n int) { c.Budget.Num = n }, []int{0, 1, 20}, []int{21, 22}},
		{"Budget.Den", func(c *api.Config, n int) { c.Budget.Den = n }, []int{1, 2, 20}, []int{0, 21, 22}},
		{"Budget.Burst", func(c *api.Config, n int) { c.Budget.Burst = n }, []int{0, 1, 20}, []int{21, 22}},
		{"Watch.Window", func(c *api.Config, n int) { c.Watch.Window = n }, []int{2, 3, 16}, []int{0, 1, 17, 18}},
		{"Watch.Fails", func(c *api.Config, n int) { c.Watch.Fails = n }, []int{1, 2, 4}, []int{0, 5, 6}},
		{"Watch.Hold", func(c *api.Config, n int) { c.Watch.Hold = n }, []int{1, 2, 500}, []int{0, 501, 502}},
	}
}

func wantRight(t *testing.T, what string, c api.Config) {
	t.Helper()
	if err := Check(c); err != api.OK {
		t.Errorf("%s: Check(%+v): %v", what, c, err)
	}
	w, err := Begin(c)
	if err != api.OK || !same(w, begun(c)) {
		t.Errorf("%s: Begin(%+v): %+v, %v, want %+v", what, c, w, err, begun(c))
	}
	wantMay(t, what, w)
}

// wantWrong: nor may a world be that has the config, whatever else is in it.
func wantWrong(t *testing.T, what string, c api.Config) {
	t.Helper()
	if err := Check(c); err != api.ErrRange {
		t.Errorf("%s: Check(%+v): %v, want %v", what, c, err, api.ErrRange)
	}
	if w, err := Begin(c); !isZero(w) || err != api.ErrRange {
		t.Errorf("%s: Begin(%+v): %+v, %v, want %v", what, c, w, err, api.ErrRange)
	}
	w := begun(config())
	w.Config = c
	wantMayNot(t, what, w)
	w.Bucket.Tokens = 0
	wantMayNot(t, what, w)
	if c.Flows > 0 && c.Flows < 100 {
		w.Table.Slots = make([]api.Slot, c.Flows)
		wantMayNot(t, what, w)
	}
}

// begun: a world as it is at first, by the chapter's words.
func begun(c api.Config) api.World {
	return api.World{
		Config: c,
		Table:  api.Table{Slots: slices.Repeat([]api.Slot{{}}, max(0, min(c.Flows, 1000)))},
		Health: slices.Repeat([]api.Health{{}}, 12),
		Bucket: api.Bucket{Tokens: c.Budget.Burst * c.Budget.Den},
		Wheel:  api.Wheel{Lists: slices.Repeat([][]api.Timer{nil}, 25)},
	}
}

// P12.1 and P12.3: number by number.
func TestConfigs(t *testing.T) {
	wantRight(t, "plain", config())
	for _, p := range parts() {
		for _, n := range p.right {
			c := config()
			p.set(&c, n)
			wantRight(t, p.name, c)
		}
		for _, n := range slices.Concat(p.wrong, negatives, huge) {
			c := config()
			p.set(&c, n)
			wantWrong(t, p.name, c)
		}
	}
	wantWrong(t, "empty", api.Config{})
}

// P12.1: a wrong number is seen beside others at their bounds.
func TestConfigsAtTheirBounds(t *testing.T) {
	low := api.Config{Flows: 1, Num: 1, Den: 1, Drain: 1, Idle: 1, Connect: 1, Budget: api.Budget{Den: 1}, Watch: api.Watch{Window: 1, Fails: 1, Hold: 1}}
	high := api.Config{
		Flows: 40, Num: 20, Den: 20, Tries: 12, Warm: 500, Drain: 500, Idle: 500, Connect: 500, Retries: 20, Most: 100,
		Budget: api.Budget{Num: 20, Den: 20, Burst: 20}, Watch: api.Watch{Window: 16, Fails: 16, Hold: 500},
	}
	wantRight(t, "low", low)
	wantRight(t, "high", high)
	for _, p := range parts() {
		for _, n := range slices.Concat(negatives, huge) {
			for _, c := range []api.Config{low, high} {
				p.set(&c, n)
				wantWrong(t, p.name, c)
			}
		}
	}
}

// P12.3: the world at first, part by part.
func TestBegin(t *testing.T) {
	for flows := 1; flows <= api.MaxFlows; flows++ {
		c := config()
		c.Flows = flows
		c.Budget.Burst, c.Budget.Den = flows%21, 1+flows%20
		w, err := Begin(c)
		if err != api.OK {
			t.Fatalf("Begin(%+v): %v", c, err)
		}
		if w.Config != c || w.Now != 0 {
			t.Errorf("the config %+v at %d, want %+v at 0", w.Config, w.Now, c)
		}
		if len(w.Table.Slots) != flows || slices.ContainsFunc(w.Table.Slots, func(s api.Slot) bool { return s != api.Slot{} }) {
			t.Errorf("the table %+v", w.Table)
		}
		if w.Bucket.Tokens != (flows%21)*(1+flows%20) {
			t.Errorf("%d tokens of %+v", w.Bucket.Tokens, c.Budget)
		}
		if len(w.Health) != 12 || slices.ContainsFunc(w.Health, func(h api.Health) bool { return !sameHealth(h, api.Health{}) }) {
			t.Errorf("the healths %+v", w.Health)
		}
		if w.Wheel.Now != 0 || len(w.Wheel.Lists) != 25 || len(slices.Concat(w.Wheel.Lists...)) != 0 {
			t.Errorf("the wheel %+v", w.Wheel)
		}
		if len(w.Flows)+len(w.Book.Lives)+len(w.Book.Requests)+len(w.Ring.Spots) != 0 {
			t.Errorf("flows %v, a book %v or spots %v", w.Flows, w.Book, w.Ring)
		}
	}
}

// The document's example of the whole, event by event.
func TestExample(t *testing.T) {
	c := api.Config{
		Flows: 2, Num: 5, Den: 4, Tries: 2, Warm: 0, Drain: 3, Idle: 4, Connect: 2, Retries: 1, Most: 50,
		Budget: api.Budget{Num: 1, Den: 1, Burst: 1}, Watch: api.Watch{Window: 4, Fails: 2, Hold: 5},
	}
	w, _ := Begin(c)
	f := waits(0, 0, 7, 0, 3)
	for i, step := range []struct {
		e     api.Event
		out   []api.Output
		state int
	}{
		{asksJoin(1, 0, 4), []api.Output{reply(1, api.OK)}, api.Joining},
		{tick, nil, api.Active},
		{opens(7), []api.Output{outOf(api.Accept, f)}, api.Active},
		{good(f), []api.Output{outOf(api.Serve, f)}, api.Active},
		{asksRetire(2, 0), []api.Output{reply(2, api.OK)}, api.Draining},
		{opens(8), []api.Output{codeOut(api.Refuse, api.ErrBusy)}, api.Draining},
		{tick, nil, api.Draining},
		{tick, nil, api.Draining},
		{tick, []api.Output{resetOf(f, api.WhyDrain), gone(0, 2)}, api.Retired},
	} {
		next, out, err := Do(w, step.e)
		if err != api.OK || !slices.Equal(out, step.out) || lifeIn(&next, 0).State != step.state {
			t.Fatalf("step %d: %+v goes out, %v, the life %+v, want %+v, state %d", i, out, err, next.Book.Lives, step.out, step.state)
		}
		w = next
	}
	if w.Now != 4 || w.Book.Lives[0].Until != 4 {
		t.Errorf("at %d, the drain till %d, want 4 and 4", w.Now, w.Book.Lives[0].Until)
	}
}
