package gate

import (
	"math/rand"
	"slices"
	"testing"

	"usher/api"
)

// keeper of what comes of it, by what comes and goes out alone. Nobody may be thrown out, and all have their whole weight at once, so that the shares hang on nothing else.
type keeper struct {
	c       api.Config
	now     int
	joining map[int]int // weights
	active  map[int]int
	at      map[api.Handle]int // backends of flows that are live
	done    map[api.Handle]int
	answers map[int]api.Errno
	until   map[int]int // deadlines of drains, by backend
	given   int
	drained int
	cut     int // flows that a deadline ended
	repeats int
}

func keeperOf(c api.Config) *keeper {
	return &keeper{
		c: c, joining: map[int]int{}, active: map[int]int{}, at: map[api.Handle]int{}, done: map[api.Handle]int{},
		answers: map[int]api.Errno{}, until: map[int]int{},
	}
}

// come: an event, and what goes out.
func (k *keeper) come(t *testing.T, e api.Event, out []api.Output) {
	t.Helper()
	if e == tick {
		k.now++
		for b, weight := range k.joining {
			k.active[b] = weight
		}
		clear(k.joining)
	}
	for _, o := range out {
		switch o.Kind {
		case api.Accept, api.Again:
			k.give(t, o)
		case api.Closed, api.Reset:
			k.end(t, o)
		case api.Reply:
			k.reply(t, e, o)
		case api.Gone:
			delete(k.until, o.Backend)
			k.drained++
		}
	}
	for b, until := range k.until {
		if k.now >= until {
			t.Fatalf("the backend %d drains at %d, its deadline was %d", b, k.now, until)
		}
	}
}

// give a flow: it is new, or live at another backend, and who gets it has no more than its share with it.
func (k *keeper) give(t *testing.T, o api.Output) {
	t.Helper()
	h := api.Handle{Slot: o.Slot, Gen: o.Gen}
	_, live := k.at[h]
	if _, was := k.done[h]; was || live != (o.Kind == api.Again) {
		t.Fatalf("%+v of a flow that is live: %v, or ended: %v", o, live, was)
	}
	delete(k.at, h)
	flows, own, total := len(k.at), 0, 0
	for _, b := range k.at {
		if b == o.Backend {
			own++
		}
	}
	for _, weight := range k.active {
		total += weight
	}
	// The share, rounded up: own + 1 is at most it, if own is below the exact one.
	if own*k.c.Den*total >= k.c.Num*(flows+1)*k.active[o.Backend] {
		t.Fatalf("%+v: the backend has %d of %d flows, its weight is %d of %d", o, own, flows, k.active[o.Backend], total)
	}
	k.at[h] = o.Backend
	k.given++
}

// end a flow, which is live, for it ends once.
func (k *keeper) end(t *testing.T, o api.Output) {
	t.Helper()
	h := api.Handle{Slot: o.Slot, Gen: o.Gen}
	if b, live := k.at[h]; !live || b != o.Backend {
		t.Fatalf("%+v of a flow that is not live there", o)
	}
	if o.Why == api.WhyDrain {
		k.cut++
	}
	delete(k.at, h)
	k.done[h]++
}

// reply to a request: as it was, if it comes again.
func (k *keeper) reply(t *testing.T, e api.Event, o api.Output) {
	t.Helper()
	if o.Request != e.Request {
		t.Fatalf("%+v is the answer to %+v", o, e)
	}
	old, again := k.answers[o.Request]
	if again && old != o.Code {
		t.Fatalf("the request %d was answered %v, now %v", o.Request, old, o.Code)
	}
	if k.answers[o.Request] = o.Code; again {
		k.repeats++
	}
	if again || o.Code != api.OK {
		return
	}
	if e.Kind == api.Join {
		k.joining[e.Backend] = e.Weight
		return
	}
	delete(k.joining, e.Backend)
	delete(k.active, e.Backend)
	k.until[e.Backend] = k.now + k.c.Drain
}

// live flows, in the order of a world's.
func (k *keeper) live() []api.Handle {
	var l []api.Handle
	for h := range k.at {
		l = append(l, h)
	}
	slices.SortFunc(l, func(a, b api.Handle) int { return a.Slot - b.Slot })
	return l
}

// What comes of it: each flow that is taken ends once, or is live; each request is answered the same each time; no backend has more flows than its share when it is given one; a drain ends by its deadline.
func TestWhatComesOfIt(t *testing.T) {
	dice := rand.New(rand.NewSource(20))
	given, drained, cut, repeats := 0, 0, 0, 0
	for range 80 {
		c := drawnConfig(dice)
		c.Warm, c.Most = 0, 0
		d := drawn(t, dice, c, 400)
		w, out, err := Run(c, d.events)
		if err != api.OK || len(out) != len(d.events) {
			t.Fatalf("Run: %d lists, %v", len(out), err)
		}
		k := keeperOf(c)
		for i, e := range d.events {
			k.come(t, e, out[i])
		}
		live := k.live()
		if k.now != w.Now || !slices.EqualFunc(w.Flows, live, func(f api.Flow, h api.Handle) bool { return f.Handle == h && f.Backend == k.at[h] }) {
			t.Fatalf("live are %+v at %d, in the world %+v at %d", live, k.now, w.Flows, w.Now)
		}
		given, drained, cut, repeats = given+k.given, drained+k.drained, cut+k.cut, repeats+k.repeats
	}
	if given < 1000 || drained < 100 || cut < 50 || repeats < 300 {
		t.Errorf("only %d were given, %d drained, %d cut off, %d requests came again", given, drained, cut, repeats)
	}
}

// Each request is answered the same each time, also where there is no room for more of them.
func TestRequestsBeyondTheirNumber(t *testing.T) {
	var l []api.Event
	var out [][]api.Output
	for range 3 {
		for id := range 130 {
			code := api.ErrTwice
			switch {
			case id >= 100:
				code = api.ErrFull
			case id < backends:
				code = api.OK
			}
			l, out = append(l, joins(id, id%backends, 1)), append(out, outs(reply(id, code)))
		}
	}
	world := fresh(config())
	for id, e := range l[:100] {
		r := api.Request{Id: id, Kind: api.AskJoin, Backend: e.Backend, Weight: 1, Answer: out[id][0].Code}
		world.Book.Requests = append(world.Book.Requests, r)
	}
	for b := range backends {
		world.Book.Lives = append(world.Book.Lives, api.Life{Backend: b, State: api.Joining, Weight: 1})
	}
	wantBoth(t, config(), l, world, out)
}
