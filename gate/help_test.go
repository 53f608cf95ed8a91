package gate

import (
	"fmt"
	"math"
	"slices"
	"testing"

	"usher/api"
)

// The faces stay as the chapter writes them.
var (
	_ func(api.Config, []api.Event) (api.World, [][]api.Output, api.Errno) = Run
	_ func(api.Config, [][]byte) (api.World, [][]api.Output, api.Errno)    = Play
)

// The numbers as the document has them, so that no bound is asked of itself.
const (
	backends  = 12
	maxEvents = 4000
	maxFrame  = 64
)

// config of the document's example of the whole.
func config() api.Config {
	return api.Config{
		Flows: 2, Num: 5, Den: 4, Tries: 2, Warm: 0, Drain: 3, Idle: 4, Connect: 2, Retries: 1, Most: 50,
		Budget: api.Budget{Num: 1, Den: 1, Burst: 1},
		Watch:  api.Watch{Window: 4, Fails: 2, Hold: 5},
	}
}

var tick = api.Event{Kind: 7}

func opens(key int) api.Event { return api.Event{Kind: 1, Key: key} }

func data(slot, gen int) api.Event { return api.Event{Kind: 2, Slot: slot, Gen: gen} }

func closes(slot, gen int) api.Event { return api.Event{Kind: 3, Slot: slot, Gen: gen} }

func answers(slot, gen int, good bool) api.Event {
	return api.Event{Kind: 4, Slot: slot, Gen: gen, Good: good}
}

func joins(request, backend, weight int) api.Event {
	return api.Event{Kind: 5, Request: request, Backend: backend, Weight: weight}
}

func retires(request, backend int) api.Event {
	return api.Event{Kind: 6, Request: request, Backend: backend}
}

// outs of one event.
func outs(l ...api.Output) []api.Output { return l }

func ofFlow(kind, slot, gen, backend int) api.Output {
	return api.Output{Kind: kind, Slot: slot, Gen: gen, Backend: backend}
}

func reset(slot, gen, backend, why int) api.Output {
	return api.Output{Kind: api.Reset, Slot: slot, Gen: gen, Backend: backend, Why: why}
}

func refuse(code api.Errno) api.Output { return api.Output{Kind: api.Refuse, Code: code} }

func bad(code api.Errno) api.Output { return api.Output{Kind: api.Bad, Code: code} }

func reply(request int, code api.Errno) api.Output {
	return api.Output{Kind: api.Reply, Request: request, Code: code}
}

func gone(backend, request int) api.Output {
	return api.Output{Kind: api.Gone, Backend: backend, Request: request}
}

// fresh: the world at the beginning, by the words of P12.3.
func fresh(c api.Config) api.World {
	return api.World{
		Config: c,
		Table:  api.Table{Slots: make([]api.Slot, c.Flows)},
		Health: make([]api.Health, backends),
		Bucket: api.Bucket{Tokens: c.Budget.Burst * c.Budget.Den},
		Wheel:  api.Wheel{Lists: make([][]api.Timer, 25)},
	}
}

// story: what comes, what goes out for each, and the world behind all.
type story struct {
	c      api.Config
	events []api.Event
	out    [][]api.Output
	world  api.World
}

// and: one event more, with what goes out.
func (s *story) and(e api.Event, out ...api.Output) {
	s.events = append(s.events, e)
	s.out = append(s.out, out)
}

// example of the whole, as the document tells it.
func example() story {
	s := story{c: config()}
	s.and(joins(1, 0, 4), reply(1, api.OK))
	s.and(tick)
	s.and(opens(7), ofFlow(api.Accept, 0, 0, 0))
	s.and(answers(0, 0, true), ofFlow(api.Serve, 0, 0, 0))
	s.and(retires(2, 0), reply(2, api.OK))
	s.and(opens(8), refuse(api.ErrBusy))
	s.and(tick)
	s.and(tick)
	s.and(tick, reset(0, 0, 0, api.WhyDrain), gone(0, 2))
	s.world = fresh(s.c)
	s.world.Now, s.world.Wheel.Now = 4, 4
	s.world.Table.Slots[0].Gen = 1
	s.world.Health[0].Marks = []bool{false}
	s.world.Book = api.Book{
		Lives:    []api.Life{{Backend: 0, State: api.Retired, Weight: 4, Since: 1, Until: 4, Request: 2}},
		Requests: []api.Request{{Id: 1, Kind: api.AskJoin, Weight: 4}, {Id: 2, Kind: api.AskRetire}},
	}
	return s
}

// longer story: each kind of event, each kind of output, and each why but that of the example.
func longer() story {
	s := story{c: config()}
	s.and(joins(5, 3, 2), reply(5, api.OK))
	s.and(joins(5, 4, 1), reply(5, api.OK))
	s.and(joins(6, 3, 1), reply(6, api.ErrTwice))
	s.and(tick)
	s.and(opens(10), ofFlow(api.Accept, 0, 0, 3))
	s.and(opens(11), ofFlow(api.Accept, 1, 0, 3))
	s.and(opens(12), refuse(api.ErrFull))
	s.and(data(0, 0), ofFlow(api.Forward, 0, 0, 3))
	s.and(answers(0, 0, true), ofFlow(api.Serve, 0, 0, 3))
	s.and(answers(0, 0, false), bad(api.ErrTwice))
	s.and(answers(1, 0, false), ofFlow(api.Again, 1, 0, 3))
	s.and(answers(1, 0, false), reset(1, 0, 3, api.WhyFailed))
	s.and(data(1, 0), bad(api.ErrStale))
	s.and(data(2, 0), bad(api.ErrNone))
	s.and(opens(13), ofFlow(api.Accept, 1, 1, 3))
	s.and(tick)
	s.and(tick, ofFlow(api.Again, 1, 1, 3))
	s.and(tick)
	s.and(tick, reset(0, 0, 3, api.WhyIdle), reset(1, 1, 3, api.WhyConnect))
	s.and(retires(7, 9), reply(7, api.ErrNone))
	s.and(retires(8, 3), reply(8, api.OK), gone(3, 8))
	s.and(opens(14), refuse(api.ErrBusy))
	s.and(closes(0, 0), bad(api.ErrStale))
	s.and(joins(9, 4, 8), reply(9, api.OK))
	s.and(retires(10, 4), reply(10, api.OK), gone(4, 10))
	s.and(joins(11, 0, 1), reply(11, api.OK))
	s.and(tick)
	s.and(opens(1), ofFlow(api.Accept, 0, 1, 0))
	s.and(closes(0, 1), ofFlow(api.Closed, 0, 1, 0))
	s.and(opens(2), ofFlow(api.Accept, 0, 2, 0))
	s.and(retires(12, 0), reply(12, api.OK))
	s.and(retires(13, 0), reply(13, api.ErrDone))
	s.and(answers(0, 2, false), reset(0, 2, 0, api.WhyNobody), gone(0, 12))
	s.world = longerWorld()
	return s
}

func longerWorld() api.World {
	w := fresh(config())
	w.Now, w.Wheel.Now = 6, 6
	w.Table.Slots[0].Gen, w.Table.Slots[1].Gen = 3, 2
	w.Health[0].Marks = []bool{true}
	w.Health[3].Marks = []bool{true, true, true, true}
	w.Book.Lives = []api.Life{
		{Backend: 0, State: api.Retired, Weight: 1, Since: 6, Until: 9, Request: 12},
		{Backend: 3, State: api.Retired, Weight: 2, Since: 1, Until: 8, Request: 8},
		{Backend: 4, State: api.Retired, Weight: 8, Since: 0, Until: 8, Request: 10},
	}
	w.Book.Requests = []api.Request{
		{Id: 5, Kind: api.AskJoin, Backend: 3, Weight: 2},
		{Id: 6, Kind: api.AskJoin, Backend: 3, Weight: 1, Answer: api.ErrTwice},
		{Id: 7, Kind: api.AskRetire, Backend: 9, Answer: api.ErrNone},
		{Id: 8, Kind: api.AskRetire, Backend: 3},
		{Id: 9, Kind: api.AskJoin, Backend: 4, Weight: 8},
		{Id: 10, Kind: api.AskRetire, Backend: 4},
		{Id: 11, Kind: api.AskJoin, Backend: 0, Weight: 1},
		{Id: 12, Kind: api.AskRetire, Backend: 0},
		{Id: 13, Kind: api.AskRetire, Backend: 0, Answer: api.ErrDone},
	}
	return w
}

// standing: a story at whose end there are a flow, a life, spots and a timer.
func standing() story {
	s := story{c: config()}
	s.and(joins(1, 2, 1), reply(1, api.OK))
	s.and(tick)
	s.and(opens(9), ofFlow(api.Accept, 0, 0, 2))
	s.world = fresh(s.c)
	s.world.Now, s.world.Wheel.Now = 1, 1
	s.world.Table.Slots[0] = api.Slot{Used: true, Key: 9, Backend: 2}
	s.world.Flows = []api.Flow{{Key: 9, Backend: 2, Due: 3}}
	s.world.Wheel.Lists[3] = []api.Timer{{At: 3, Id: 0}}
	s.world.Ring.Spots = spotsOf(2, 1)
	s.world.Book = api.Book{
		Lives:    []api.Life{{Backend: 2, State: api.Active, Weight: 1, Since: 1}},
		Requests: []api.Request{{Id: 1, Kind: api.AskJoin, Backend: 2, Weight: 1}},
	}
	return s
}

// spotsOf one backend (P1.1, P1.3, P4.1).
func spotsOf(backend, weight int) []api.Spot {
	var l []api.Spot
	for i := range 4 * weight {
		n := uint32(2166136261)
		for _, b := range []byte{98, byte(backend), byte(i), 115} {
			n = (n ^ uint32(b)) * 16777619
		}
		l = append(l, api.Spot{Hash: int(n), Backend: backend})
	}
	slices.SortFunc(l, func(a, b api.Spot) int { return a.Hash - b.Hash })
	return l
}

func stories() []story { return []story{example(), longer(), standing()} }

// number as its bytes (P2.2).
func number(n int) []byte {
	if n < 128 {
		return []byte{byte(n)}
	}
	return append([]byte{byte(128 + n%128)}, number(n/128)...)
}

// frame of an event that may come (P2.1, P2.2).
func frame(e api.Event) []byte {
	good := 0
	if e.Good {
		good = 1
	}
	fields := [8][]int{
		1: {e.Key}, 2: {e.Slot, e.Gen}, 3: {e.Slot, e.Gen}, 4: {e.Slot, e.Gen, good},
		5: {e.Request, e.Backend, e.Weight}, 6: {e.Request, e.Backend}, 7: {},
	}
	b := []byte{byte(e.Kind)}
	for _, n := range fields[e.Kind] {
		b = append(b, number(n)...)
	}
	return b
}

func frames(l []api.Event) [][]byte {
	var bytes [][]byte
	for _, e := range l {
		bytes = append(bytes, frame(e))
	}
	return bytes
}

// wrongEvent: one that may not come, and why.
type wrongEvent struct {
	e    api.Event
	code api.Errno
}

func wrongEvents() []wrongEvent {
	return []wrongEvent{
		{api.Event{}, api.ErrKind},
		{api.Event{Kind: 8}, api.ErrKind},
		{api.Event{Kind: -1, Key: -1, Good: true}, api.ErrKind},
		{api.Event{Kind: 257, Key: 5}, api.ErrKind},
		{api.Event{Kind: math.MinInt}, api.ErrKind},
		{api.Event{Kind: math.MaxInt, Weight: 9}, api.ErrKind},
		{opens(-1), api.ErrRange},
		{opens(1 << 32), api.ErrRange},
		{data(-1, 0), api.ErrRange},
		{data(40, 0), api.ErrRange},
		{data(0, -1), api.ErrRange},
		{closes(40, 0), api.ErrRange},
		{closes(0, 1<<20+1), api.ErrRange},
		{answers(40, 0, true), api.ErrRange},
		{answers(0, -1, false), api.ErrRange},
		{joins(-1, 0, 1), api.ErrRange},
		{joins(1<<20+1, 0, 1), api.ErrRange},
		{joins(50, 12, 1), api.ErrRange},
		{joins(50, 0, 0), api.ErrRange},
		{joins(50, 0, 9), api.ErrRange},
		{retires(-1, 0), api.ErrRange},
		{retires(50, -1), api.ErrRange},
		{retires(50, 12), api.ErrRange},
		{api.Event{Kind: 1, Key: -1, Slot: 1}, api.ErrRange},
		{api.Event{Kind: 5, Request: 50, Good: true}, api.ErrRange},
		{api.Event{Kind: 1, Key: 5, Slot: 1}, api.ErrForm},
		{api.Event{Kind: 2, Good: true}, api.ErrForm},
		{api.Event{Kind: 3, Key: -1}, api.ErrForm},
		{api.Event{Kind: 4, Good: true, Weight: 1}, api.ErrForm},
		{api.Event{Kind: 5, Request: 50, Weight: 1, Gen: 1}, api.ErrForm},
		{api.Event{Kind: 6, Request: 50, Weight: 1}, api.ErrForm},
		{api.Event{Kind: 7, Request: 1}, api.ErrForm},
		{api.Event{Kind: 7, Backend: math.MinInt}, api.ErrForm},
	}
}

// wrongFrame: one that is refused, and why.
type wrongFrame struct {
	b    []byte
	code api.Errno
}

// long: the bytes, with noughts behind them up to a length.
func long(length int, b ...byte) []byte { return append(b, make([]byte, length-len(b))...) }

func wrongFrames() []wrongFrame {
	return []wrongFrame{
		{long(maxFrame+1, 7), api.ErrSize},
		{long(maxFrame+1, 1, 5), api.ErrSize},
		{long(maxFrame+1, 9), api.ErrSize},
		{long(100000), api.ErrSize},
		{slices.Repeat([]byte{255}, maxFrame+1), api.ErrSize},
		{nil, api.ErrShort},
		{[]byte{}, api.ErrShort},
		{[]byte{0}, api.ErrKind},
		{[]byte{8}, api.ErrKind},
		{[]byte{9, 128}, api.ErrKind},
		{[]byte{135}, api.ErrKind},
		{long(maxFrame, 255), api.ErrKind},
		{[]byte{1, 128, 128, 128, 128, 128, 128, 1}, api.ErrRange},
		{append([]byte{1}, slices.Repeat([]byte{255}, maxFrame-1)...), api.ErrRange},
		{[]byte{1}, api.ErrShort},
		{[]byte{1, 128}, api.ErrShort},
		{[]byte{1, 128, 128, 128, 128, 128, 128}, api.ErrShort},
		{[]byte{2, 0}, api.ErrShort},
		{[]byte{4, 0, 0}, api.ErrShort},
		{[]byte{5, 50, 0}, api.ErrShort},
		{[]byte{6, 50}, api.ErrShort},
		{[]byte{1, 128, 0}, api.ErrForm},
		{[]byte{1, 133, 0}, api.ErrForm},
		{[]byte{2, 0, 128, 0}, api.ErrForm},
		{[]byte{1, 128, 128, 128, 128, 16}, api.ErrRange},
		{[]byte{2, 40, 0}, api.ErrRange},
		{[]byte{3, 0, 129, 128, 64}, api.ErrRange},
		{[]byte{4, 0, 0, 2}, api.ErrRange},
		{[]byte{5, 50, 12, 1}, api.ErrRange},
		{[]byte{5, 50, 0, 0}, api.ErrRange},
		{[]byte{5, 50, 0, 9}, api.ErrRange},
		{[]byte{6, 50, 12}, api.ErrRange},
		{[]byte{1, 5, 5}, api.ErrForm},
		{[]byte{7, 7}, api.ErrForm},
		{[]byte{7, 0}, api.ErrForm},
		{[]byte{4, 0, 0, 1, 0}, api.ErrForm},
		{long(maxFrame, 7), api.ErrForm},
	}
}

// text of a value: alike values have the same, and a list without elements is told as none.
func text(x any) string { return fmt.Sprintf("%+v", x) }

// brief: as much of a value as can be read.
func brief(x any) string {
	s := text(x)
	if len(s) > 600 {
		return s[:600] + ".."
	}
	return s
}

// wantAll: is that what a call answered? The call is told only where it is not.
func wantAll(t *testing.T, call func() string, w api.World, l [][]api.Output, err api.Errno, world api.World, out [][]api.Output) {
	t.Helper()
	if err != api.OK {
		t.Fatalf("%s: %v", call(), err)
	}
	if len(l) != len(out) {
		t.Fatalf("%s: what went out for %d events, want %d", call(), len(l), len(out))
	}
	for i := range out {
		if !slices.Equal(l[i], out[i]) {
			t.Fatalf("%s: event %d: %s goes out, want %s", call(), i, brief(l[i]), brief(out[i]))
		}
	}
	if text(w) != text(world) {
		t.Fatalf("%s: the world\n%+v, want\n%+v", call(), w, world)
	}
}

func wantRun(t *testing.T, c api.Config, l []api.Event, world api.World, out [][]api.Output) {
	t.Helper()
	w, got, err := Run(c, l)
	wantAll(t, func() string { return "Run of " + brief(l) }, w, got, err, world, out)
}

func wantPlay(t *testing.T, c api.Config, l [][]byte, world api.World, out [][]api.Output) {
	t.Helper()
	w, got, err := Play(c, l)
	wantAll(t, func() string { return "Play of " + brief(l) }, w, got, err, world, out)
}

// wantBoth: do the events and their frames make the same?
func wantBoth(t *testing.T, c api.Config, l []api.Event, world api.World, out [][]api.Output) {
	t.Helper()
	wantRun(t, c, l, world, out)
	wantPlay(t, c, frames(l), world, out)
}

// isNothing: is it as it must be beside an error?
func isNothing(w api.World, l [][]api.Output) bool {
	return len(l) == 0 && text(w) == text(api.World{})
}

func noRun(t *testing.T, c api.Config, l []api.Event, want api.Errno) {
	t.Helper()
	if w, got, err := Run(c, l); err != want || !isNothing(w, got) {
		t.Fatalf("Run(%+v, %s): %s, %s, %v, want nothing and %v", c, brief(l), brief(w), brief(got), err, want)
	}
}

func noPlay(t *testing.T, c api.Config, l [][]byte, want api.Errno) {
	t.Helper()
	if w, got, err := Play(c, l); err != want || !isNothing(w, got) {
		t.Fatalf("Play(%+v, %s): %s, %s, %v, want nothing and %v", c, brief(l), brief(w), brief(got), err, want)
	}
}

// inserted: a list of its own with one more at a place.
func inserted[E any](l []E, i int, one E) []E { return slices.Insert(slices.Clone(l), i, one) }
