package gate

import (
	"math/rand"
	"slices"
	"testing"

	"usher/api"
	"usher/core"
	"usher/wire"
)

func oneOf(dice *rand.Rand, l ...int) int { return l[dice.Intn(len(l))] }

// drawnConfig: small numbers mostly, so that much happens.
func drawnConfig(dice *rand.Rand) api.Config {
	wait := func() int { return oneOf(dice, 1+dice.Intn(4), 1+dice.Intn(10), 1+dice.Intn(500)) }
	num, window := 1+dice.Intn(oneOf(dice, 3, 20)), 1+dice.Intn(oneOf(dice, 4, 16))
	return api.Config{
		Flows: oneOf(dice, 1+dice.Intn(6), 1+dice.Intn(40)), Num: num, Den: 1 + dice.Intn(num), Tries: dice.Intn(13),
		Warm: oneOf(dice, 0, dice.Intn(10), dice.Intn(501)), Drain: wait(), Idle: wait(), Connect: wait(),
		Retries: dice.Intn(oneOf(dice, 3, 21)), Most: oneOf(dice, 0, 50, 100),
		Budget: api.Budget{Num: dice.Intn(5), Den: 1 + dice.Intn(5), Burst: dice.Intn(oneOf(dice, 4, 21))},
		Watch:  api.Watch{Window: window, Fails: 1 + dice.Intn(window), Hold: wait()},
	}
}

// drawnEvent that may come: its handle is mostly that of a flow.
func drawnEvent(dice *rand.Rand, flows []api.Flow) api.Event {
	var h api.Handle
	if h.Slot, h.Gen = dice.Intn(40), dice.Intn(4); len(flows) > 0 && dice.Intn(5) > 0 {
		h = flows[dice.Intn(len(flows))].Handle
	}
	switch dice.Intn(14) {
	case 0, 1, 2, 3:
		return opens(oneOf(dice, dice.Intn(1000), dice.Intn(1<<32)))
	case 4:
		return data(h.Slot, h.Gen)
	case 5:
		return closes(h.Slot, h.Gen)
	case 6, 7, 8:
		return answers(h.Slot, h.Gen, dice.Intn(2) == 0)
	case 9:
		return joins(dice.Intn(150), dice.Intn(backends), 1+dice.Intn(8))
	case 10:
		return retires(dice.Intn(150), dice.Intn(backends))
	}
	return tick
}

// drawing of a gate: what comes to it, told and sent, and what Begin and Do make of it. Where an event may not come, the frame is refused, too, but for its own reason.
type drawing struct {
	c        api.Config
	events   []api.Event
	frames   [][]byte
	world    api.World
	ofEvents [][]api.Output
	ofFrames [][]api.Output
}

func drawn(t *testing.T, dice *rand.Rand, c api.Config, n int) *drawing {
	t.Helper()
	world, err := core.Begin(c)
	if err != api.OK {
		t.Fatal(err)
	}
	d := &drawing{c: c, world: world}
	for b := range 1 + dice.Intn(backends) {
		d.come(t, joins(1000+b, b, 1+dice.Intn(8)))
	}
	for range n {
		if dice.Intn(8) == 0 {
			d.wrong(dice)
		} else {
			d.come(t, drawnEvent(dice, d.world.Flows))
		}
	}
	return d
}

func (d *drawing) come(t *testing.T, e api.Event) {
	t.Helper()
	world, out, err := core.Do(d.world, e)
	b, no := wire.Encode(e)
	if err != api.OK || no != api.OK {
		t.Fatalf("Do(.., %+v): %v, Encode: %v", e, err, no)
	}
	d.world = world
	d.events, d.frames = append(d.events, e), append(d.frames, b)
	d.ofEvents, d.ofFrames = append(d.ofEvents, out), append(d.ofFrames, out)
}

func (d *drawing) wrong(dice *rand.Rand) {
	events, bytes := wrongEvents(), wrongFrames()
	e, b := events[dice.Intn(len(events))].e, bytes[dice.Intn(len(bytes))].b
	_, code := wire.Decode(b)
	d.events, d.frames = append(d.events, e), append(d.frames, b)
	d.ofEvents, d.ofFrames = append(d.ofEvents, outs(bad(wire.Check(e)))), append(d.ofFrames, outs(bad(code)))
}

// P15.1, P15.2: drawn gates are what Begin and Do make of them, event by event.
func TestDrawn(t *testing.T) {
	dice := rand.New(rand.NewSource(15))
	var outputs [11]int
	for range 150 {
		d := drawn(t, dice, drawnConfig(dice), dice.Intn(250))
		wantRun(t, d.c, d.events, d.world, d.ofEvents)
		wantPlay(t, d.c, d.frames, d.world, d.ofFrames)
		for _, o := range slices.Concat(d.ofEvents...) {
			outputs[o.Kind]++
		}
	}
	if slices.Min(outputs[1:]) < 50 {
		t.Errorf("too few outputs of some kinds: %v", outputs)
	}
}

// P15.1, P15.2: as many events as may come, of all kinds.
func TestDrawnToTheLimit(t *testing.T) {
	dice := rand.New(rand.NewSource(16))
	for range 2 {
		d := drawn(t, dice, drawnConfig(dice), maxEvents)
		d.events, d.frames = d.events[:maxEvents], d.frames[:maxEvents]
		w, got, err := Run(d.c, d.events)
		sentWorld, sentOut, sentErr := Play(d.c, d.frames)
		if err != api.OK || text(got) != text(d.ofEvents[:maxEvents]) {
			t.Errorf("Run of as many as may come: %v", err)
		}
		if sentErr != api.OK || text(sentOut) != text(d.ofFrames[:maxEvents]) || text(w) != text(sentWorld) {
			t.Errorf("Play of as many as may come: %v", sentErr)
		}
		if w.Now < 100 {
			t.Errorf("only %d ticks", w.Now)
		}
	}
}

// P15.2: drawn bytes, few of which are events: each alone makes what Decode and Do say.
func TestDrawnFrames(t *testing.T) {
	dice := rand.New(rand.NewSource(17))
	for range 300 {
		world, l, out := fresh(config()), [][]byte(nil), [][]api.Output(nil)
		for range dice.Intn(40) {
			b := make([]byte, oneOf(dice, dice.Intn(5), dice.Intn(10), dice.Intn(70)))
			for i := range b {
				b[i] = byte(oneOf(dice, dice.Intn(9), dice.Intn(256), 128+dice.Intn(128)))
			}
			e, err := wire.Decode(b)
			told := outs(bad(err))
			if err == api.OK {
				world, told, _ = core.Do(world, e)
			}
			l, out = append(l, b), append(out, told)
		}
		wantPlay(t, config(), l, world, out)
	}
}

// No call panics, whatever is in the events, and each is answered for.
func TestOddEvents(t *testing.T) {
	dice := rand.New(rand.NewSource(18))
	odd := []int{-1 << 63, -1 << 32, -1, 0, 1, 2, 3, 7, 8, 11, 12, 39, 40, 1 << 20, 1<<20 + 1, 1 << 32, 1<<63 - 1}
	n := func() int { return oneOf(dice, 0, 0, 0, oneOf(dice, odd...)) }
	for range 500 {
		l := make([]api.Event, 20)
		for i := range l {
			l[i] = api.Event{Kind: dice.Intn(9), Key: n(), Slot: n(), Gen: n(), Good: dice.Intn(4) == 0, Request: n(), Backend: n(), Weight: n()}
		}
		_, out, err := Run(config(), l)
		if err != api.OK || len(out) != len(l) {
			t.Fatalf("Run(%+v): %d lists, %v", l, len(out), err)
		}
		for i, e := range l {
			if code := wire.Check(e); code != api.OK && text(out[i]) != text(outs(bad(code))) {
				t.Fatalf("Run: of %+v there goes out %+v, want Bad with %v", e, out[i], code)
			}
		}
	}
}
