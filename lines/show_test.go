package lines

import (
	"math"
	"slices"
	"strings"
	"testing"

	"usher/api"
	"usher/wire"
)

// The bounds are those of package api.
func TestBounds(t *testing.T) {
	for _, c := range []struct{ here, there int }{
		{key.high, api.MaxKey}, {slot.high, api.MaxFlows - 1}, {gen.high, api.MaxGen}, {request.high, api.MaxRequest},
		{backend.high, api.MaxBackends - 1}, {weight.high, api.MaxWeight}, {maxEvents, api.MaxEvents}, {maxText, api.MaxText},
	} {
		if c.here != c.there {
			t.Errorf("a bound of the tests is %d, of package api %d", c.here, c.there)
		}
	}
}

// P14.2: no event at all.
func TestShowNothing(t *testing.T) {
	for _, l := range [][]api.Event{nil, {}, make([]api.Event, 0, 5), []api.Event{{Kind: 99}}[:0]} {
		wantShow(t, l, "")
	}
}

// P14.1, P14.2: one event of each kind; the words and the order of the fields.
func TestShowOne(t *testing.T) {
	for _, c := range []struct {
		e    api.Event
		want string
	}{
		{api.Event{Kind: api.Open, Key: 7}, "open 7\n"},
		{api.Event{Kind: api.Open}, "open 0\n"},
		{api.Event{Kind: api.Data, Slot: 1, Gen: 2}, "data 1 2\n"},
		{api.Event{Kind: api.Close, Slot: 3, Gen: 4}, "close 3 4\n"},
		{api.Event{Kind: api.Answer, Slot: 0, Gen: 3, Good: true}, "answer 0 3 good\n"},
		{api.Event{Kind: api.Answer, Slot: 5, Gen: 6}, "answer 5 6 bad\n"},
		{api.Event{Kind: api.Join, Request: 9, Backend: 8, Weight: 7}, "join 9 8 7\n"},
		{api.Event{Kind: api.Retire, Request: 10, Backend: 11}, "retire 10 11\n"},
		{api.Event{Kind: api.Tick}, "tick\n"},
	} {
		wantShow(t, []api.Event{c.e}, c.want)
		wantRead(t, c.want, c.e)
	}
}

// P14.1 to P14.3: each field at its bounds and where its digits grow, shown and read.
func TestEdges(t *testing.T) {
	eachEvent(func(kind int, n []int) {
		e, line := made(kind, n), lined(kind, n)
		wantShow(t, []api.Event{e}, line)
		wantRead(t, line, e)
		if told, ok := toldLine(line); !ok || told != e {
			t.Errorf("the tests read %q as %+v, %v", line, told, ok)
		}
	})
}

// P14.2, P14.3: many events, the lines one behind the other, in their order.
func TestMany(t *testing.T) {
	l, right := some()
	for i := range l {
		for j := i; j <= len(l); j++ {
			wantShow(t, l[i:j], strings.Join(right[i:j], ""))
			wantRead(t, strings.Join(right[i:j], ""), l[i:j]...)
		}
	}
	slices.Reverse(l)
	slices.Reverse(right)
	wantShow(t, l, strings.Join(right, ""))
	wantRead(t, strings.Join(right, ""), l...)
	for i, e := range l {
		wantShow(t, []api.Event{e, e, e}, strings.Repeat(right[i], 3))
		wantRead(t, strings.Repeat(right[i], 3), e, e, e)
	}
}

// P14.2: an event that may not come, alone and at each place: Check's error, and its own place.
func TestShowWrong(t *testing.T) {
	right, _ := some()
	for e, want := range wrong() {
		if got := wire.Check(e); got != want {
			t.Errorf("Check(%+v): %v, want %v", e, got, want)
		}
		noShow(t, []api.Event{e}, 0, want)
		for i := range len(right) + 1 {
			noShow(t, slices.Insert(slices.Clone(right), i, e), i, want)
		}
	}
}

// P14.2: the first one counts, whatever is wrong with those behind it.
func TestShowFirstWrong(t *testing.T) {
	right, _ := some()
	for e, want := range map[api.Event]api.Errno{
		{Kind: 8}:                       api.ErrKind,
		{Kind: 1, Key: -1}:              api.ErrRange,
		{Kind: 7, Key: 1}:               api.ErrForm,
		{Kind: 5}:                       api.ErrRange,
		{Kind: 2, Slot: 40}:             api.ErrRange,
		{Kind: 1, Good: true}:           api.ErrForm,
		{Kind: math.MinInt, Weight: -1}: api.ErrKind,
	} {
		for f := range wrong() {
			noShow(t, []api.Event{e, f}, 0, want)
			noShow(t, []api.Event{right[0], e, f, right[1]}, 1, want)
			noShow(t, []api.Event{right[0], e, right[1], f}, 1, want)
		}
	}
}

// P14.2: as many events as there may be, and one more; the size is looked at ahead of all events.
func TestShowSize(t *testing.T) {
	for kind := 1; kind <= 7; kind++ {
		l := slices.Repeat([]api.Event{made(kind, most(kind))}, maxEvents+1)
		text := strings.Repeat(lined(kind, most(kind)), maxEvents)
		wantShow(t, l[:maxEvents], text)
		wantShow(t, l[:maxEvents-1], text[:len(text)-len(lined(kind, most(kind)))])
		wantRead(t, text, l[:maxEvents]...)
		noShow(t, l, 0, api.ErrSize)
		noShow(t, slices.Repeat(l, 3), 0, api.ErrSize)
		for _, i := range []int{0, 1, maxEvents - 1, maxEvents} {
			some := slices.Clone(l)
			some[i] = api.Event{Kind: 8}
			noShow(t, some, 0, api.ErrSize)
			if i < maxEvents {
				noShow(t, some[:maxEvents], i, api.ErrKind)
			}
		}
	}
	noShow(t, make([]api.Event, maxEvents+1), 0, api.ErrSize)
	noShow(t, make([]api.Event, maxEvents), 0, api.ErrKind)
}
