package wheel

import (
	"math"
	"math/rand"
	"slices"
	"testing"

	"usher/api"
)

// The faces stay as the chapter writes them.
var (
	_ func(int) (api.Wheel, api.Errno)                 = New
	_ func(api.Wheel, int, int) (api.Wheel, api.Errno) = Arm
	_ func(api.Wheel, int) (api.Wheel, api.Errno)      = Cancel
	_ func(api.Wheel) (api.Wheel, []int, api.Errno)    = Advance
)

const (
	maxTick = 1 << 40
	maxSpan = 500
	maxId   = 199
)

// placeTold: a timer's place by the chapter's words, apart from the program's own.
func placeTold(at, now int) int {
	switch {
	case at>>3 == now>>3:
		return at & 7
	case at>>6 == now>>6:
		return 8 + at>>3&7
	case at>>9 == now>>9:
		return 16 + at>>6&7
	}
	return 24
}

// told: the wheel that the chapter asks for, with these timers.
func told(now int, all ...api.Timer) api.Wheel {
	l := slices.Clone(all)
	slices.SortFunc(l, func(a, b api.Timer) int {
		if a.At != b.At {
			return a.At - b.At
		}
		return a.Id - b.Id
	})
	w := api.Wheel{Now: now, Lists: make([][]api.Timer, 25)}
	for _, t := range l {
		p := placeTold(t.At, now)
		w.Lists[p] = append(w.Lists[p], t)
	}
	return w
}

// timers of these numbers: an At, an Id, an At, an Id, ..
func timers(n ...int) []api.Timer {
	var l []api.Timer
	for i := 0; i < len(n); i += 2 {
		l = append(l, api.Timer{At: n[i], Id: n[i+1]})
	}
	return l
}

func same(a, b api.Wheel) bool {
	return a.Now == b.Now && slices.EqualFunc(a.Lists, b.Lists, slices.Equal[[]api.Timer])
}

// isZero: as a wheel must be beside an error.
func isZero(w api.Wheel) bool { return w.Now == 0 && len(w.Lists) == 0 }

// copyOf a wheel, with spare room in its lists that is filled with the same numbers each time.
func copyOf(w api.Wheel) api.Wheel {
	c := api.Wheel{Now: w.Now, Lists: make([][]api.Timer, len(w.Lists), len(w.Lists)+3)}
	for i, l := range w.Lists {
		room := make([]api.Timer, len(l)+4)
		copy(room, l)
		for j := len(l); j < len(room); j++ {
			room[j] = api.Timer{At: -7, Id: -8}
		}
		c.Lists[i] = room[:len(l)]
	}
	spare := c.Lists[len(w.Lists):cap(c.Lists)]
	for i := range spare {
		spare[i] = []api.Timer{{At: -9, Id: -10}}
	}
	return c
}

// whole wheel, with the spare room of its lists.
func whole(w api.Wheel) api.Wheel {
	c := api.Wheel{Now: w.Now}
	for _, l := range w.Lists[:cap(w.Lists)] {
		c.Lists = append(c.Lists, slices.Clone(l[:cap(l)]))
	}
	return c
}

// scribble over a wheel's lists, their spare room too.
func scribble(w api.Wheel) {
	for i, l := range w.Lists[:cap(w.Lists)] {
		l = l[:cap(l)]
		for j := range l {
			l[j] = api.Timer{At: -100 - i, Id: -200 - j}
		}
		w.Lists[:cap(w.Lists)][i] = nil
	}
}

// armed: a wheel with these timers, by Arm.
func armed(t *testing.T, now int, all ...api.Timer) api.Wheel {
	t.Helper()
	w, e := New(now)
	if e != api.OK {
		t.Fatalf("New(%d): %v", now, e)
	}
	for _, x := range all {
		if w, e = Arm(w, x.Id, x.At); e != api.OK {
			t.Fatalf("Arm of %v at %d: %v", x, now, e)
		}
	}
	return w
}

// advanced by a number of ticks, with what went off at the last one.
func advanced(t *testing.T, w api.Wheel, ticks int) (api.Wheel, []int) {
	t.Helper()
	var off []int
	var e api.Errno
	for range ticks {
		if w, off, e = Advance(w); e != api.OK {
			t.Fatalf("Advance at %d: %v", w.Now, e)
		}
	}
	return w, off
}

// some timers at a tick that is not near MaxTick: in all four kinds of lists, if the tick leaves room there, some of one At.
func some(now int) []api.Timer {
	return timers(
		now+500, 4, now+1, 9, now+3, 2, now+1, 3, now+70, 0, now+499, 199,
		now+9, 5, now+70, 8, now+130, 1, now+17, 7, now+500, 6, now+7, 10,
	)
}

// P3.1: the places at both ends of blocks, and beyond them.
func TestPlaces(t *testing.T) {
	for _, c := range []struct{ now, at, list int }{
		{0, 1, 1}, {0, 7, 7}, {0, 8, 9}, {0, 15, 9}, {0, 16, 10}, {0, 63, 15}, {0, 64, 17}, {0, 127, 17}, {0, 128, 18}, {0, 447, 22}, {0, 448, 23}, {0, 500, 23},
		{6, 7, 7}, {7, 8, 9}, {8, 9, 1}, {8, 15, 7}, {8, 16, 10}, {15, 16, 10},
		{55, 56, 15}, {55, 63, 15}, {56, 57, 1}, {56, 63, 7}, {56, 64, 17}, {62, 63, 7}, {63, 64, 17}, {64, 65, 1}, {64, 72, 9}, {64, 127, 15}, {64, 128, 18},
		{447, 448, 23}, {448, 504, 15}, {448, 511, 15}, {448, 512, 24}, {448, 948, 24}, {504, 511, 7}, {504, 512, 24}, {510, 511, 7}, {510, 512, 24}, {511, 512, 24}, {511, 1011, 24},
		{12, 511, 23}, {12, 512, 24}, {13, 511, 23}, {13, 512, 24}, {13, 513, 24}, {512, 513, 1}, {512, 520, 9}, {512, 576, 17}, {512, 1012, 23}, {600, 1024, 24}, {600, 1100, 24},
		{1023, 1024, 24}, {1024, 1025, 1}, {4095, 4096, 24},
		{maxTick - 1, maxTick, 24}, {maxTick - 2, maxTick - 1, 7}, {maxTick - 500, maxTick, 24}, {maxTick - 500, maxTick - 1, 23}, {maxTick - 512, maxTick - 449, 15}, {maxTick - 512, maxTick - 448, 17},
	} {
		w := armed(t, c.now, api.Timer{At: c.at, Id: 5})
		if w.Now != c.now || len(w.Lists) != 25 {
			t.Fatalf("at %d: Now %d, %d lists", c.now, w.Now, len(w.Lists))
		}
		for i, l := range w.Lists {
			if i == c.list != slices.Equal(l, []api.Timer{{At: c.at, Id: 5}}) || i != c.list && len(l) > 0 {
				t.Errorf("at %d a timer of %d should be in the list %d: %v in %d", c.now, c.at, c.list, l, i)
			}
		}
	}
}

// P3.1: each place that a timer can have, at all ticks of three blocks of 512 and of the last one.
func TestAllPlaces(t *testing.T) {
	for _, begin := range []int{0, 512, 4096, maxTick - 1000} {
		for now := begin; now < begin+512; now++ {
			for span := 1; span <= maxSpan && now+span <= maxTick; span += 1 + now%3 {
				if w := armed(t, now, api.Timer{At: now + span, Id: 7}); !same(w, told(now, api.Timer{At: now + span, Id: 7})) {
					t.Fatalf("at %d a timer of %d: %v", now, now+span, w.Lists)
				}
			}
		}
	}
}

// P3.1: in a list timers stand by At, of the same At by Id, in whatever order they came.
func TestOrder(t *testing.T) {
	want := map[int][]api.Timer{
		3:  timers(3, 0, 3, 1, 3, 150, 3, 199),
		9:  timers(8, 120, 9, 5, 9, 6, 15, 2),
		17: timers(64, 30, 65, 3, 65, 20, 127, 4),
	}
	var all []api.Timer
	for _, l := range want {
		all = append(all, l...)
	}
	dice := rand.New(rand.NewSource(1))
	for range 200 {
		dice.Shuffle(len(all), func(i, j int) { all[i], all[j] = all[j], all[i] })
		w := armed(t, 0, all...)
		for i, l := range w.Lists {
			if !slices.Equal(l, want[i]) {
				t.Fatalf("the list %d of %v: %v", i, all, l)
			}
		}
	}
	far := timers(1000, 9, 512, 11, 999, 10, 512, 2, 1000, 8)
	if w := armed(t, 500, far...); !slices.Equal(w.Lists[24], timers(512, 2, 512, 11, 999, 10, 1000, 8, 1000, 9)) {
		t.Errorf("the list 24: %v", w.Lists[24])
	}
}

// P3.2, P3.4: which timers fit.
func TestFits(t *testing.T) {
	for _, c := range []struct {
		now, id, at int
		want        api.Errno
	}{
		{0, 0, 0, 2}, {0, 0, 1, 0}, {0, 0, 500, 0}, {0, 0, 501, 2}, {0, 0, -1, 2}, {0, 0, 2, 0},
		{100, 0, 99, 2}, {100, 0, 100, 2}, {100, 0, 101, 0}, {100, 0, 600, 0}, {100, 0, 601, 2}, {100, 0, 0, 2}, {100, 0, -100, 2},
		{100, -1, 101, 2}, {100, 0, 101, 0}, {100, 199, 101, 0}, {100, 200, 101, 2}, {100, math.MinInt, 101, 2}, {100, math.MaxInt, 101, 2},
		{maxTick - 500, 1, maxTick, 0}, {maxTick - 499, 1, maxTick, 0}, {maxTick - 499, 1, maxTick + 1, 2}, {maxTick - 1, 1, maxTick, 0}, {maxTick - 1, 1, maxTick + 1, 2}, {maxTick - 501, 1, maxTick, 2}, {maxTick - 501, 1, maxTick - 1, 0},
		{maxTick, 1, maxTick, 2}, {maxTick, 1, maxTick + 1, 2}, {maxTick, 1, maxTick - 1, 2},
		{0, 0, math.MinInt, 2}, {0, 0, math.MaxInt, 2}, {maxTick, 0, math.MinInt, 2}, {maxTick, 0, math.MaxInt, 2}, {1, 0, math.MinInt, 2}, {1, 0, math.MinInt + 2, 2},
		{100, -1, 100, 2}, {100, 200, 601, 2},
	} {
		w, e := Arm(armed(t, c.now), c.id, c.at)
		if e != c.want || e != api.OK && !isZero(w) {
			t.Errorf("at %d the timer %d of %d: %v %v, wanted %v", c.now, c.id, c.at, w, e, c.want)
		}
		if e == api.OK && !same(w, told(c.now, api.Timer{At: c.at, Id: c.id})) {
			t.Errorf("at %d the timer %d of %d: %v", c.now, c.id, c.at, w)
		}
	}
}

// with: the wheel, a list of it put in place of another.
func with(w api.Wheel, list int, l ...api.Timer) api.Wheel {
	c := copyOf(w)
	c.Lists[list] = l
	return c
}

// mayNotBe: wheels that are refused, by what is wrong with them.
func mayNotBe() map[string]api.Wheel {
	plain, last := told(100, some(100)...), told(maxTick)
	l := map[string]api.Wheel{
		"none":                        {},
		"no lists":                    {Now: 100},
		"24 lists":                    {Now: 100, Lists: plain.Lists[:24]},
		"24 lists without timers":     {Now: 100, Lists: make([][]api.Timer, 24)},
		"26 lists":                    {Now: 100, Lists: append(copyOf(plain).Lists, nil)},
		"26 lists without timers":     {Now: 0, Lists: make([][]api.Timer, 26)},
		"1000 lists":                  {Now: 0, Lists: make([][]api.Timer, 1000)},
		"Now below 0":                 {Now: -1, Lists: told(0).Lists},
		"Now below 0, with a timer":   {Now: -1, Lists: told(0, api.Timer{At: 1}).Lists},
		"Now above MaxTick":           {Now: maxTick + 1, Lists: told(0).Lists},
		"Now the least number":        {Now: math.MinInt, Lists: told(0).Lists},
		"Now the greatest number":     {Now: math.MaxInt, Lists: told(0).Lists},
		"At as Now":                   with(told(0), 0, api.Timer{At: 0}),
		"At as a later Now":           with(told(100), 4, api.Timer{At: 100}),
		"At below Now":                with(told(100), 3, api.Timer{At: 99}),
		"At below 0":                  with(told(0), 0, api.Timer{At: -1}),
		"At far below 0":              with(told(0), 0, api.Timer{At: math.MinInt}),
		"At above Now by 501":         with(told(0), 23, api.Timer{At: 501}),
		"At above Now by 501 in 24":   with(told(100), 24, api.Timer{At: 601}),
		"At the greatest number":      with(told(100), 24, api.Timer{At: math.MaxInt}),
		"At above MaxTick":            with(told(maxTick-1), 24, api.Timer{At: maxTick + 1}),
		"At above MaxTick, Now it":    with(last, 1, api.Timer{At: maxTick + 1}),
		"At as MaxTick, Now it":       with(last, 0, api.Timer{At: maxTick}),
		"Id below 0":                  with(told(100), 5, api.Timer{At: 101, Id: -1}),
		"Id 200":                      with(told(100), 5, api.Timer{At: 101, Id: 200}),
		"Id the least number":         with(told(100), 5, api.Timer{At: 101, Id: math.MinInt}),
		"Id the greatest number":      with(told(100), 5, api.Timer{At: 101, Id: math.MaxInt}),
		"order by At":                 with(told(0), 9, api.Timer{At: 9, Id: 1}, api.Timer{At: 8, Id: 2}),
		"order by At, Ids too":        with(told(0), 9, api.Timer{At: 9, Id: 2}, api.Timer{At: 8, Id: 1}),
		"order by Id":                 with(told(0), 7, api.Timer{At: 7, Id: 2}, api.Timer{At: 7, Id: 1}),
		"order at the end":            with(told(0), 17, api.Timer{At: 64, Id: 1}, api.Timer{At: 70, Id: 2}, api.Timer{At: 69, Id: 3}),
		"order in 24":                 with(told(500), 24, api.Timer{At: 900, Id: 1}, api.Timer{At: 600, Id: 2}),
		"one timer twice":             with(told(0), 7, api.Timer{At: 7, Id: 2}, api.Timer{At: 7, Id: 2}),
		"one Id twice in a list":      with(told(0), 9, api.Timer{At: 8, Id: 2}, api.Timer{At: 9, Id: 2}),
		"one Id twice, with others":   with(told(0), 9, api.Timer{At: 8, Id: 2}, api.Timer{At: 8, Id: 3}, api.Timer{At: 9, Id: 2}),
		"one Id in two lists":         with(told(0, api.Timer{At: 7, Id: 2}), 23, api.Timer{At: 500, Id: 2}),
		"one Id in near and far":      with(told(500, api.Timer{At: 501, Id: 0}), 24, api.Timer{At: 900, Id: 0}),
		"the last timer does not fit": with(told(100, some(100)...), 24, api.Timer{At: 601, Id: 100}),
	}
	many := make([]api.Timer, 100000)
	for i := range many {
		many[i] = api.Timer{At: 7, Id: i}
	}
	l["more timers than Ids"] = with(told(0), 7, many...)
	return l
}

// P3.2: wheels that may not be are refused by all three, ahead of all else.
func TestMayNotBe(t *testing.T) {
	for name, w := range mayNotBe() {
		for _, id := range []int{-1, 0, 2, 9, 77, 199, 200, math.MinInt, math.MaxInt} {
			for _, at := range []int{0, 1, w.Now, w.Now + 1, w.Now + 501, maxTick + 1, math.MinInt, math.MaxInt} {
				if got, e := Arm(w, id, at); e != api.ErrState || !isZero(got) {
					t.Errorf("%s: Arm of %d, %d: %v %v", name, id, at, got, e)
				}
			}
			if got, e := Cancel(w, id); e != api.ErrState || !isZero(got) {
				t.Errorf("%s: Cancel of %d: %v %v", name, id, got, e)
			}
		}
		if got, off, e := Advance(w); e != api.ErrState || !isZero(got) || len(off) != 0 {
			t.Errorf("%s: Advance: %v %v %v", name, got, off, e)
		}
	}
}

// P3.2: a timer in each list but its own is refused, and in its own is not.
func TestOwnPlaceOnly(t *testing.T) {
	for _, c := range []struct{ now, at int }{{0, 1}, {0, 7}, {0, 8}, {0, 63}, {0, 64}, {0, 500}, {100, 110}, {7, 8}, {63, 64}, {511, 512}, {500, 1000}, {504, 511}, {maxTick - 1, maxTick}, {maxTick - 8, maxTick - 1}} {
		for list := range 25 {
			w := with(told(c.now), list, api.Timer{At: c.at, Id: 3})
			want := api.ErrState
			if list == placeTold(c.at, c.now) {
				want = api.OK
			}
			_, arm := Arm(w, 4, c.at)
			_, cancel := Cancel(w, 3)
			_, _, advance := Advance(w)
			if arm != want || cancel != want || advance != want {
				t.Errorf("at %d a timer of %d in the list %d: %v %v %v, wanted %v", c.now, c.at, list, arm, cancel, advance, want)
			}
		}
	}
}

// P3.2: wheels that may be: without timers, with one for each Id, and lists that are nil, empty or with spare room.
func TestMayBe(t *testing.T) {
	var full []api.Timer
	for id := range 200 {
		full = append(full, api.Timer{At: 101 + id*5/2, Id: 199 - id})
	}
	hollow := api.Wheel{Now: 5, Lists: make([][]api.Timer, 25)}
	for i := range hollow.Lists {
		hollow.Lists[i] = []api.Timer{}
	}
	for _, w := range []api.Wheel{told(0), told(maxTick - 1), hollow, told(0, some(0)...), told(490, some(490)...), told(100, full...), copyOf(told(100, full...))} {
		next, off, e := Advance(w)
		if e != api.OK || next.Now != w.Now+1 || len(next.Lists) != 25 {
			t.Errorf("Advance at %d: %v %v %v", w.Now, next, off, e)
		}
		if _, e := Cancel(w, 200); e != api.ErrNone {
			t.Errorf("Cancel of 200 at %d: %v", w.Now, e)
		}
		if _, e := Arm(w, 200, w.Now+1); e != api.ErrRange {
			t.Errorf("Arm of 200 at %d: %v", w.Now, e)
		}
	}
	if w, e := Arm(hollow, 7, 6); e != api.OK || !same(w, told(5, api.Timer{At: 6, Id: 7})) {
		t.Errorf("Arm in empty lists: %v %v", w, e)
	}
}

// P3.3: New at its bounds, and beyond them.
func TestNew(t *testing.T) {
	for _, now := range []int{0, 1, 7, 8, 511, 512, 123456789, maxTick - 1, maxTick} {
		if w, e := New(now); e != api.OK || !same(w, told(now)) {
			t.Errorf("New(%d): %v %v", now, w, e)
		}
	}
	for _, now := range []int{-1, -8, maxTick + 1, math.MinInt, math.MaxInt} {
		if w, e := New(now); e != api.ErrRange || !isZero(w) {
			t.Errorf("New(%d): %v %v", now, w, e)
		}
	}
}

// P3.4: Arm adds one timer to those that are there; an Id that is there already, and a timer that does not fit ahead of it.
func TestArm(t *testing.T) {
	for _, now := range []int{0, 5, 100, 490, 511, maxTick - 500} {
		l := some(now)
		for n := range l {
			w, e := Arm(told(now, l[:n]...), l[n].Id, l[n].At)
			if e != api.OK || !same(w, told(now, l[:n+1]...)) {
				t.Errorf("Arm of %v at %d: %v %v", l[n], now, w, e)
			}
		}
		w := told(now, l...)
		for _, x := range l {
			for _, c := range []struct {
				at   int
				want api.Errno
			}{{x.At, api.ErrTwice}, {now + 1, api.ErrTwice}, {now + 2, api.ErrTwice}, {now + 500, api.ErrTwice}, {now, api.ErrRange}, {now + 501, api.ErrRange}, {-1, api.ErrRange}} {
				if got, e := Arm(w, x.Id, c.at); e != c.want || !isZero(got) {
					t.Errorf("Arm of %d, %d at %d once more: %v %v, wanted %v", x.Id, c.at, now, got, e, c.want)
				}
			}
		}
	}
}

// P3.4: as many timers as there are Ids; then each Id is there.
func TestArmAll(t *testing.T) {
	w := armed(t, 3)
	var l []api.Timer
	for id := range 200 {
		l = append(l, api.Timer{At: 4 + id*37%500, Id: id})
		w = armedMore(t, w, l[id])
		if !same(w, told(3, l...)) {
			t.Fatalf("with %d timers: %v", id+1, w)
		}
	}
	for id := range 200 {
		if _, e := Arm(w, id, 4); e != api.ErrTwice {
			t.Errorf("Arm of %d once more: %v", id, e)
		}
	}
}

func armedMore(t *testing.T, w api.Wheel, x api.Timer) api.Wheel {
	t.Helper()
	next, e := Arm(w, x.Id, x.At)
	if e != api.OK {
		t.Fatalf("Arm of %v: %v", x, e)
	}
	return next
}

// P3.5: Cancel takes one timer out, and no other; an Id that is not there.
func TestCancel(t *testing.T) {
	for _, now := range []int{0, 5, 100, 490, 511, maxTick - 500} {
		l := some(now)
		for i, x := range l {
			w, e := Cancel(told(now, l...), x.Id)
			if e != api.OK || !same(w, told(now, slices.Delete(slices.Clone(l), i, i+1)...)) {
				t.Errorf("Cancel of %v at %d: %v %v", x, now, w, e)
			}
			if again, e := Cancel(w, x.Id); e != api.ErrNone || !isZero(again) {
				t.Errorf("Cancel of %v at %d once more: %v %v", x, now, again, e)
			}
			if back := armedMore(t, w, x); !same(back, told(now, l...)) {
				t.Errorf("Arm of %v at %d behind its Cancel: %v", x, now, back)
			}
		}
		for _, id := range []int{-1, 11, 198, 200, math.MinInt, math.MaxInt} {
			if w, e := Cancel(told(now, l...), id); e != api.ErrNone || !isZero(w) {
				t.Errorf("Cancel of %d at %d: %v %v", id, now, w, e)
			}
		}
	}
	for _, id := range []int{0, 199} {
		if w, e := Cancel(told(maxTick), id); e != api.ErrNone || !isZero(w) {
			t.Errorf("Cancel of %d of no timers: %v %v", id, w, e)
		}
		if w, e := Cancel(told(8, api.Timer{At: 9, Id: id}), id); e != api.OK || !same(w, told(8)) {
			t.Errorf("Cancel of %d: %v %v", id, w, e)
		}
	}
}

// P3.6: the chapter's examples.
func TestExamples(t *testing.T) {
	l := timers(7, 0, 8, 1, 64, 2, 500, 3)
	w := armed(t, 0, l...)
	for i, list := range []int{7, 9, 17, 23} {
		if !slices.Equal(w.Lists[list], l[i:i+1]) {
			t.Errorf("the list %d: %v", list, w.Lists[list])
		}
	}
	w, off := advanced(t, w, 7)
	if !slices.Equal(off, []int{0}) || !same(w, told(7, l[1:]...)) {
		t.Errorf("at 7: %v %v", w, off)
	}
	w, off = advanced(t, w, 1)
	if !slices.Equal(off, []int{1}) || !same(w, told(8, l[2:]...)) {
		t.Errorf("at 8: %v %v", w, off)
	}
}

// P3.6: timers of one At go off together, their Ids rising, from whatever list they come.
func TestGoOffTogether(t *testing.T) {
	for _, c := range []struct{ now, at int }{{0, 1}, {0, 7}, {7, 8}, {63, 64}, {511, 512}, {1023, 1024}, {0, 300}, {500, 1000}, {maxTick - 1, maxTick}} {
		var l []api.Timer
		for _, id := range []int{17, 0, 199, 3, 100, 18, 2} {
			l = append(l, api.Timer{At: c.at, Id: id})
		}
		w := armed(t, c.now, l...)
		w, off := advanced(t, w, c.at-c.now-1)
		if len(off) > 0 || !same(w, told(c.at-1, l...)) {
			t.Errorf("at %d: %v %v", c.at-1, w, off)
		}
		if w, off = advanced(t, w, 1); !slices.Equal(off, []int{0, 2, 3, 17, 18, 100, 199}) || !same(w, told(c.at)) {
			t.Errorf("at %d: %v %v", c.at, w, off)
		}
	}
}

// P3.6: at MaxTick there is no tick more; one ahead of it there is.
func TestLastTick(t *testing.T) {
	w := armed(t, maxTick-2, api.Timer{At: maxTick, Id: 4}, api.Timer{At: maxTick - 1, Id: 5})
	w, off, e := Advance(w)
	if e != api.OK || !slices.Equal(off, []int{5}) || !same(w, told(maxTick-1, api.Timer{At: maxTick, Id: 4})) {
		t.Errorf("ahead of MaxTick: %v %v %v", w, off, e)
	}
	w, off, e = Advance(w)
	if e != api.OK || !slices.Equal(off, []int{4}) || !same(w, told(maxTick)) {
		t.Errorf("at MaxTick: %v %v %v", w, off, e)
	}
	w, off, e = Advance(w)
	if e != api.ErrFull || len(off) > 0 || !isZero(w) {
		t.Errorf("beyond MaxTick: %v %v %v", w, off, e)
	}
}

// P3.6: each tick of more than two blocks of 512: the timers at their places, each of them told once, at its tick.
func TestEachOnce(t *testing.T) {
	for _, begin := range []int{0, 1, 7, 8, 63, 64, 490, 511, 512, 5000, maxTick - 1100} {
		var l []api.Timer
		for id := range 200 {
			l = append(l, api.Timer{At: begin + 1 + id*193%500, Id: id})
		}
		w := armed(t, begin, l...)
		gone := map[int]int{}
		for now := begin + 1; now <= begin+1100; now++ {
			var off []int
			w, off = advanced(t, w, 1)
			var want []int
			for id, x := range l {
				if x.At == now {
					want = append(want, id)
				}
			}
			if !slices.Equal(off, want) {
				t.Fatalf("at %d: %v went off, wanted %v", now, off, want)
			}
			for _, id := range off {
				gone[id]++
				if next := now + 1 + id*7%500; gone[id] < 3 && next <= begin+1100 { // the same Id again, till other blocks
					l[id].At = next
					w = armedMore(t, w, l[id])
				}
			}
			if left := slices.DeleteFunc(slices.Clone(l), func(x api.Timer) bool { return x.At <= now }); !same(w, told(now, left...)) {
				t.Fatalf("at %d: %v", now, w)
			}
		}
	}
}

// P3.4 to P3.6: drawn calls, one behind another, held against a plain list of timers.
func TestDrawn(t *testing.T) {
	for seed := range 12 {
		dice := rand.New(rand.NewSource(int64(seed)))
		now := []int{0, 490, 3000, maxTick - 1500}[seed%4]
		w := armed(t, now)
		var l []api.Timer
		for range 3000 {
			id := dice.Intn(60) - 2
			if id > 50 {
				id += 145
			}
			i := slices.IndexFunc(l, func(x api.Timer) bool { return x.Id == id })
			switch dice.Intn(4) {
			case 0, 1:
				at := now + dice.Intn([]int{10, 80, 506}[dice.Intn(3)]) - 2
				got, e := Arm(w, id, at)
				want := api.OK
				switch {
				case at <= now || at > now+maxSpan || at > maxTick || id < 0 || id > maxId:
					want = api.ErrRange
				case i >= 0:
					want = api.ErrTwice
				default:
					l = append(l, api.Timer{At: at, Id: id})
				}
				if e != want {
					t.Fatalf("Arm of %d, %d at %d: %v, wanted %v", id, at, now, e, want)
				}
				if e == api.OK {
					w = got
				}
			case 2:
				got, e := Cancel(w, id)
				if i < 0 != (e == api.ErrNone) || i >= 0 != (e == api.OK) {
					t.Fatalf("Cancel of %d at %d: %v", id, now, e)
				}
				if e == api.OK {
					w, l = got, slices.Delete(l, i, i+1)
				}
			default:
				if now == maxTick {
					continue
				}
				now++
				var off, want []int
				w, off = advanced(t, w, 1)
				l = slices.DeleteFunc(l, func(x api.Timer) bool {
					if x.At == now {
						want = append(want, x.Id)
					}
					return x.At == now
				})
				if slices.Sort(want); !slices.Equal(off, want) {
					t.Fatalf("at %d: %v went off, wanted %v", now, off, want)
				}
			}
			if !same(w, told(now, l...)) {
				t.Fatalf("at %d: %v, wanted %v", now, w, told(now, l...))
			}
		}
	}
}

// calls that change a wheel, some of which are refused.
var calls = []func(w api.Wheel) (api.Wheel, []int, api.Errno){
	func(w api.Wheel) (api.Wheel, []int, api.Errno) { n, e := Arm(w, 50, w.Now+4); return n, nil, e },
	func(w api.Wheel) (api.Wheel, []int, api.Errno) { n, e := Arm(w, 51, w.Now+70); return n, nil, e },
	func(w api.Wheel) (api.Wheel, []int, api.Errno) { n, e := Arm(w, 52, w.Now+500); return n, nil, e },
	func(w api.Wheel) (api.Wheel, []int, api.Errno) { n, e := Arm(w, 9, w.Now+4); return n, nil, e },
	func(w api.Wheel) (api.Wheel, []int, api.Errno) { n, e := Arm(w, 60, w.Now); return n, nil, e },
	func(w api.Wheel) (api.Wheel, []int, api.Errno) { n, e := Cancel(w, 9); return n, nil, e },
	func(w api.Wheel) (api.Wheel, []int, api.Errno) { n, e := Cancel(w, 0); return n, nil, e },
	func(w api.Wheel) (api.Wheel, []int, api.Errno) { n, e := Cancel(w, 4); return n, nil, e },
	func(w api.Wheel) (api.Wheel, []int, api.Errno) { n, e := Cancel(w, 90); return n, nil, e },
	Advance,
}

// No call changes the wheel that it was given, nor its spare room; what it answers has memory of its own, and so has each list of it.
func TestNothingShared(t *testing.T) {
	for _, now := range []int{0, 6, 7, 63, 100, 447, 490, 511, 1023} {
		for i, call := range calls {
			given := copyOf(told(now, some(now)...))
			before := whole(given)
			first, firstOff, e := call(given)
			if !same(whole(given), before) {
				t.Fatalf("call %d at %d changed its wheel", i, now)
			}
			second, secondOff, again := call(given)
			if e != again || !same(first, second) || !slices.Equal(firstOff, secondOff) {
				t.Fatalf("call %d at %d answers otherwise the second time", i, now)
			}
			kept := copyOf(second)
			scribble(first)
			for i := range firstOff[:cap(firstOff)] {
				firstOff[:cap(firstOff)][i] = -1
			}
			if !same(whole(given), before) || !same(second, kept) {
				t.Fatalf("call %d at %d: what it answers shares memory", i, now)
			}
			scribble(given)
			if !same(second, kept) {
				t.Fatalf("call %d at %d keeps its wheel", i, now)
			}
			apart(t, second)
		}
	}
	w, _ := New(8)
	other, _ := New(8)
	apart(t, w)
	scribble(w)
	w.Lists[3] = timers(9, 9)
	if !same(other, told(8)) {
		t.Error("two wheels of New share memory")
	}
}

// apart: does each list grow without touching another?
func apart(t *testing.T, w api.Wheel) {
	t.Helper()
	want := copyOf(w)
	for i, l := range w.Lists {
		l = append(l, api.Timer{At: i, Id: -i})
		for j := range l {
			l[j].At = -i
		}
		w.Lists[i] = nil
		for j := range l[:cap(l)] {
			l[:cap(l)][j].Id = -1000
		}
		for k := i + 1; k < len(w.Lists); k++ {
			if !slices.Equal(w.Lists[k], want.Lists[k]) {
				t.Fatalf("the lists %d and %d share memory", i, k)
			}
		}
	}
}
