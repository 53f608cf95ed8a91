package gate

import (
	"math"
	"slices"
	"testing"

	"usher/api"
)

// The bounds are those of package api.
func TestBounds(t *testing.T) {
	if backends != api.MaxBackends || maxEvents != api.MaxEvents || maxFrame != api.MaxFrame {
		t.Error("a bound of the tests is not that of package api")
	}
}

// P15.1, P15.2: without events the world is that of the beginning, and nothing goes out.
func TestNothing(t *testing.T) {
	other := config()
	other.Flows, other.Budget, other.Warm = 40, api.Budget{Num: 3, Den: 7, Burst: 5}, 9
	for _, c := range []api.Config{config(), other} {
		for _, l := range [][]api.Event{nil, {}, make([]api.Event, 0, 9), []api.Event{tick, {Kind: 99}}[:0]} {
			wantRun(t, c, l, fresh(c), nil)
		}
		for _, l := range [][][]byte{nil, {}, make([][]byte, 0, 9), [][]byte{{7}, {99}}[:0]} {
			wantPlay(t, c, l, fresh(c), nil)
		}
	}
}

// P15.1, P15.2: one event of each kind.
func TestOne(t *testing.T) {
	c := config()
	for _, s := range []struct {
		e   api.Event
		out []api.Output
	}{
		{opens(7), outs(refuse(api.ErrBusy))},
		{data(0, 0), outs(bad(api.ErrStale))},
		{data(1, 1<<20), outs(bad(api.ErrStale))},
		{data(2, 0), outs(bad(api.ErrNone))},
		{closes(1, 0), outs(bad(api.ErrStale))},
		{closes(39, 0), outs(bad(api.ErrNone))},
		{answers(0, 0, true), outs(bad(api.ErrStale))},
		{answers(39, 1<<20, false), outs(bad(api.ErrNone))},
	} {
		wantBoth(t, c, []api.Event{s.e}, fresh(c), [][]api.Output{s.out})
	}
	joining := fresh(c)
	joining.Book.Lives = []api.Life{{Backend: 11, State: api.Joining, Weight: 8}}
	joining.Book.Requests = []api.Request{{Id: 1 << 20, Kind: api.AskJoin, Backend: 11, Weight: 8}}
	wantBoth(t, c, []api.Event{joins(1<<20, 11, 8)}, joining, [][]api.Output{{reply(1<<20, api.OK)}})
	asked := fresh(c)
	asked.Book.Requests = []api.Request{{Id: 300, Kind: api.AskRetire, Backend: 5, Answer: api.ErrNone}}
	wantBoth(t, c, []api.Event{retires(300, 5)}, asked, [][]api.Output{{reply(300, api.ErrNone)}})
	later := fresh(c)
	later.Now, later.Wheel.Now = 1, 1
	wantBoth(t, c, []api.Event{tick}, later, [][]api.Output{nil})
}

// P15.1, P15.2: many events, as the document's example tells, and of each kind with each kind of output.
func TestMany(t *testing.T) {
	for _, s := range stories() {
		wantBoth(t, s.c, s.events, s.world, s.out)
	}
	var kinds [8]int
	var outputs [11]int
	var whys [6]int
	for _, s := range stories() {
		for i, e := range s.events {
			kinds[e.Kind]++
			for _, o := range s.out[i] {
				outputs[o.Kind]++
				whys[o.Why]++
			}
		}
	}
	if slices.Contains(kinds[1:], 0) || slices.Contains(outputs[1:], 0) || slices.Contains(whys[1:], 0) {
		t.Errorf("something is in no story: %v %v %v", kinds, outputs, whys)
	}
}

// P15.1, P15.2: what goes out for an event does not hang on those that come later.
func TestBeginnings(t *testing.T) {
	for _, s := range stories() {
		for i := range s.events {
			_, got, err := Run(s.c, s.events[:i])
			if err != api.OK || text(got) != text(s.out[:i]) {
				t.Errorf("Run of the first %d: %s %v, want %s", i, brief(got), err, brief(s.out[:i]))
			}
			_, got, err = Play(s.c, frames(s.events[:i]))
			if err != api.OK || text(got) != text(s.out[:i]) {
				t.Errorf("Play of the first %d: %s %v, want %s", i, brief(got), err, brief(s.out[:i]))
			}
		}
	}
}

// P15.1: an event that may not come: one Bad with the Code of Check, and nothing changes: alone, and at each place among others.
func TestEventThatMayNotCome(t *testing.T) {
	for _, no := range wrongEvents() {
		out := outs(bad(no.code))
		wantRun(t, config(), []api.Event{no.e}, fresh(config()), [][]api.Output{out})
		for _, s := range stories() {
			for i := range len(s.events) + 1 {
				wantRun(t, s.c, inserted(s.events, i, no.e), s.world, inserted(s.out, i, out))
			}
		}
	}
}

// P15.2: a frame that is refused: one Bad with the Code of Decode, and nothing changes: alone, and at each place among others.
func TestFrameThatIsRefused(t *testing.T) {
	for _, no := range wrongFrames() {
		out := outs(bad(no.code))
		wantPlay(t, config(), [][]byte{no.b}, fresh(config()), [][]api.Output{out})
		for _, s := range stories() {
			for i := range len(s.events) + 1 {
				wantPlay(t, s.c, inserted(frames(s.events), i, no.b), s.world, inserted(s.out, i, out))
			}
		}
	}
}

// P15.1, P15.2: all that are wrong, one behind the other, and between others.
func TestManyWrong(t *testing.T) {
	var events []api.Event
	var bytes [][]byte
	var ofEvents, ofFrames [][]api.Output
	for _, no := range wrongEvents() {
		events, ofEvents = append(events, no.e), append(ofEvents, outs(bad(no.code)))
	}
	for _, no := range wrongFrames() {
		bytes, ofFrames = append(bytes, no.b), append(ofFrames, outs(bad(no.code)))
	}
	wantRun(t, config(), events, fresh(config()), ofEvents)
	wantPlay(t, config(), bytes, fresh(config()), ofFrames)
	for _, s := range stories() {
		all, out := slices.Clone(events), slices.Clone(ofEvents)
		sent, sentOut := slices.Clone(bytes), slices.Clone(ofFrames)
		for i, e := range s.events {
			all, out = append(append(all, e), events...), append(append(out, s.out[i]), ofEvents...)
			sent, sentOut = append(append(sent, frame(e)), bytes...), append(append(sentOut, s.out[i]), ofFrames...)
		}
		wantRun(t, s.c, all, s.world, out)
		wantPlay(t, s.c, sent, s.world, sentOut)
	}
}

// P15.2: as many bytes as a frame may have are looked at, one more are not; each number's frame at its bounds comes.
func TestFrameBounds(t *testing.T) {
	out := [][]api.Output{{bad(api.ErrForm)}, {bad(api.ErrSize)}, nil}
	later := fresh(config())
	later.Now, later.Wheel.Now = 1, 1
	wantPlay(t, config(), [][]byte{long(maxFrame, 7), long(maxFrame+1, 7), {7}}, later, out)
	l := [][]byte{{1, 0}, {1, 255, 255, 255, 255, 15}, {2, 39, 128, 128, 64}, {3, 0, 0}, {4, 39, 0, 1}, {5, 128, 128, 64, 11, 8}, {6, 128, 128, 64, 0}}
	w, got, err := Play(config(), l)
	want := [][]api.Output{{refuse(api.ErrBusy)}, {refuse(api.ErrBusy)}, {bad(api.ErrNone)}, {bad(api.ErrStale)}, {bad(api.ErrNone)}, {reply(1<<20, api.OK)}, {reply(1<<20, api.OK)}}
	if err != api.OK || text(got) != text(want) || len(w.Book.Requests) != 1 {
		t.Errorf("Play: %+v %+v %v, want %+v", w, got, err, want)
	}
}

// bound of a config's number, while the others are those of the tests' config.
type bound struct {
	n         *int
	low, high int
}

func bounds(c *api.Config) []bound {
	return []bound{
		{&c.Flows, 1, 40}, {&c.Num, 4, 20}, {&c.Den, 1, 5}, {&c.Tries, 0, 12}, {&c.Warm, 0, 500},
		{&c.Drain, 1, 500}, {&c.Idle, 1, 500}, {&c.Connect, 1, 500}, {&c.Retries, 0, 20}, {&c.Most, 0, 100},
		{&c.Budget.Num, 0, 20}, {&c.Budget.Den, 1, 20}, {&c.Budget.Burst, 0, 20},
		{&c.Watch.Window, 2, 16}, {&c.Watch.Fails, 1, 4}, {&c.Watch.Hold, 1, 500},
	}
}

// wrongConfigs: each number one beyond each of its bounds, and far beyond.
func wrongConfigs() []api.Config {
	l := []api.Config{{}}
	for i := range bounds(&api.Config{}) {
		b := bounds(&api.Config{})[i]
		for _, n := range []int{b.low - 1, b.high + 1, math.MinInt, math.MaxInt} {
			c := config()
			*bounds(&c)[i].n = n
			l = append(l, c)
		}
	}
	return l
}

// P15.1, P15.2: a config at its bounds is that of the world; what Begin refuses of one is refused with the same error, whatever comes and however much.
func TestConfigs(t *testing.T) {
	for i := range bounds(&api.Config{}) {
		b := bounds(&api.Config{})[i]
		for _, n := range []int{b.low, b.high} {
			c := config()
			*bounds(&c)[i].n = n
			wantBoth(t, c, nil, fresh(c), nil)
			later := fresh(c)
			later.Now, later.Wheel.Now = 1, 1
			wantBoth(t, c, []api.Event{tick}, later, [][]api.Output{nil})
		}
	}
	s := longer()
	events := [][]api.Event{nil, {}, {tick}, {{Kind: 8}}, s.events, slices.Repeat([]api.Event{tick}, maxEvents), slices.Repeat([]api.Event{tick}, maxEvents+1), make([]api.Event, maxEvents+1)}
	bytes := [][][]byte{nil, {}, {{7}}, {nil}, frames(s.events), slices.Repeat([][]byte{{7}}, maxEvents), slices.Repeat([][]byte{{7}}, maxEvents+1), make([][]byte, maxEvents+1)}
	for _, c := range wrongConfigs() {
		for _, l := range events {
			noRun(t, c, l, api.ErrRange)
		}
		for _, l := range bytes {
			noPlay(t, c, l, api.ErrRange)
		}
	}
}

// P15.1, P15.2: as many as may come, and one more.
func TestSize(t *testing.T) {
	ticks := slices.Repeat([]api.Event{tick}, maxEvents)
	last := fresh(config())
	last.Now, last.Wheel.Now = maxEvents, maxEvents
	wantBoth(t, config(), ticks, last, make([][]api.Output, maxEvents))
	last.Now, last.Wheel.Now = maxEvents-1, maxEvents-1
	wantBoth(t, config(), ticks[1:], last, make([][]api.Output, maxEvents-1))
	for _, e := range []api.Event{opens(7), data(0, 0), closes(0, 0), answers(0, 0, true), joins(1, 0, 4), retires(1, 0), tick, {}, {Kind: 8}, opens(-1), {Kind: 7, Key: 1}} {
		noRun(t, config(), append(slices.Clone(ticks), e), api.ErrSize)
		noRun(t, config(), inserted(ticks, 0, e), api.ErrSize)
		noRun(t, config(), slices.Repeat([]api.Event{e}, maxEvents+1), api.ErrSize)
		noRun(t, config(), slices.Repeat([]api.Event{e}, 50000), api.ErrSize)
	}
	for _, b := range [][]byte{{1, 7}, {2, 0, 0}, {3, 0, 0}, {4, 0, 0, 1}, {5, 1, 0, 4}, {6, 1, 0}, {7}, nil, {}, {8}, {1, 128}, long(maxFrame+1, 7)} {
		noPlay(t, config(), append(frames(ticks), b), api.ErrSize)
		noPlay(t, config(), inserted(frames(ticks), 0, b), api.ErrSize)
		noPlay(t, config(), slices.Repeat([][]byte{b}, maxEvents+1), api.ErrSize)
		noPlay(t, config(), slices.Repeat([][]byte{b}, 50000), api.ErrSize)
	}
}

// P15.1, P15.2: what may not come counts among those that come, and as many of them as may come are told.
func TestSizeOfWrong(t *testing.T) {
	for _, no := range wrongEvents() {
		wantRun(t, config(), slices.Repeat([]api.Event{no.e}, maxEvents), fresh(config()), slices.Repeat([][]api.Output{{bad(no.code)}}, maxEvents))
	}
	for _, no := range wrongFrames() {
		wantPlay(t, config(), slices.Repeat([][]byte{no.b}, maxEvents), fresh(config()), slices.Repeat([][]api.Output{{bad(no.code)}}, maxEvents))
	}
	ticks := slices.Repeat([]api.Event{tick}, maxEvents-1)
	last := fresh(config())
	last.Now, last.Wheel.Now = maxEvents-1, maxEvents-1
	out := make([][]api.Output, maxEvents-1)
	for _, i := range []int{0, 1, 2000, maxEvents - 1} {
		wantRun(t, config(), inserted(ticks, i, api.Event{Kind: 8}), last, inserted(out, i, outs(bad(api.ErrKind))))
		wantPlay(t, config(), inserted(frames(ticks), i, nil), last, inserted(out, i, outs(bad(api.ErrShort))))
	}
}
