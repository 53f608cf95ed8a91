package health

import (
	"math"
	"math/rand"
	"slices"
	"testing"

	"usher/api"
)

// The faces stay as the chapter writes them.
var (
	_ func(api.Watch) api.Errno                                                  = Check
	_ func(api.Watch, api.Health, bool, int, bool) (api.Health, bool, api.Errno) = Note
	_ func(api.Watch, api.Health, int) (api.Health, bool, api.Errno)             = Back
	_ func(int, int, int) (bool, api.Errno)                                      = Allowed
)

const (
	mostMarks    = 16
	mostSpan     = 500
	mostTick     = 1 << 40
	mostBackends = 12
	mostTimes    = 10
)

var (
	negatives = []int{-1, -2, -mostSpan, -1 << 32, -mostTick, math.MinInt + 1, math.MinInt}
	wrongNows = append([]int{mostTick + 1, mostTick + mostSpan, 1<<63 - 1 - mostSpan, math.MaxInt}, negatives...)
	ticks     = []int{0, 1, 5, 1 << 32, mostTick - 1, mostTick}
	truths    = []bool{false, true}
)

func watch(window, fails, hold int) api.Watch {
	return api.Watch{Window: window, Fails: fails, Hold: hold}
}

// marks of a text: x is a failure.
func marks(text string) []bool {
	var l []bool
	for _, c := range text {
		l = append(l, c == 'x')
	}
	return l
}

// in: a health that is not Out.
func in(text string, times int) api.Health {
	return api.Health{Marks: marks(text), Times: times}
}

// out: a health that is Out.
func out(text string, until, times int) api.Health {
	return api.Health{Marks: marks(text), Out: true, Until: until, Times: times}
}

func same(g, h api.Health) bool {
	return slices.Equal(g.Marks, h.Marks) && g.Out == h.Out && g.Until == h.Until && g.Times == h.Times
}

// noting: what Note is asked.
type noting struct {
	w      api.Watch
	h      api.Health
	failed bool
	now    int
	may    bool
}

func (n noting) want(t *testing.T, want api.Health, told bool) {
	t.Helper()
	if h, is, e := Note(n.w, n.h, n.failed, n.now, n.may); !same(h, want) || is != told || e != api.OK {
		t.Fatalf("Note(%+v): %+v, %v, %v, want %+v, %v", n, h, is, e, want, told)
	}
}

// wantNo: is it refused so, with zero values beside the error?
func (n noting) wantNo(t *testing.T, want api.Errno) {
	t.Helper()
	if h, is, e := Note(n.w, n.h, n.failed, n.now, n.may); !same(h, api.Health{}) || is || e != want {
		t.Fatalf("Note(%+v): %+v, %v, %v, want %v", n, h, is, e, want)
	}
}

func wantBack(t *testing.T, w api.Watch, h api.Health, now int, want api.Health, told bool) {
	t.Helper()
	if g, is, e := Back(w, h, now); !same(g, want) || is != told || e != api.OK {
		t.Fatalf("Back(%+v, %+v, %d): %+v, %v, %v, want %+v, %v", w, h, now, g, is, e, want, told)
	}
}

// wantNeither: do Note and Back refuse it so, whatever the outcome and whether it may be thrown out or not?
func wantNeither(t *testing.T, w api.Watch, h api.Health, now int, want api.Errno) {
	t.Helper()
	for _, failed := range truths {
		for _, may := range truths {
			noting{w, h, failed, now, may}.wantNo(t, want)
		}
	}
	if g, is, e := Back(w, h, now); !same(g, api.Health{}) || is || e != want {
		t.Fatalf("Back(%+v, %+v, %d): %+v, %v, %v, want %v", w, h, now, g, is, e, want)
	}
}

// wantBoth: is the health one that may be?
func wantBoth(t *testing.T, w api.Watch, h api.Health, now int) {
	t.Helper()
	for _, failed := range truths {
		for _, may := range truths {
			if _, _, e := Note(w, h, failed, now, may); e != api.OK {
				t.Fatalf("Note(%+v, %+v, %v, %d, %v): %v", w, h, failed, now, may, e)
			}
		}
	}
	if _, _, e := Back(w, h, now); e != api.OK {
		t.Fatalf("Back(%+v, %+v, %d): %v", w, h, now, e)
	}
}

func wantRight(t *testing.T, w api.Watch) {
	t.Helper()
	if e := Check(w); e != api.OK {
		t.Fatalf("Check(%+v): %v", w, e)
	}
	wantBoth(t, w, api.Health{}, 7)
}

// wantWrong: do all refuse the watch with the same error, whatever the health and the tick?
func wantWrong(t *testing.T, w api.Watch) {
	t.Helper()
	if e := Check(w); e != api.ErrRange {
		t.Fatalf("Check(%+v): %v, want %v", w, e, api.ErrRange)
	}
	for _, h := range []api.Health{
		{}, in("x", 1), out("", 9, 2), out("xxx", 3, 10),
		in("", -1), in("", 11), {Until: 1}, out("", -1, 0), out("", math.MaxInt, 0), {Marks: make([]bool, mostMarks+1)},
	} {
		for _, now := range []int{7, -1, mostTick + 1} {
			wantNeither(t, w, h, now, api.ErrRange)
		}
	}
}

// eachWatch: all windows and fails that are right, with the holds that are of interest.
func eachWatch(do func(w api.Watch)) {
	for window := 1; window <= mostMarks; window++ {
		for fails := 1; fails <= window; fails++ {
			for _, hold := range []int{1, 2, 3, 62, 63, 249, 250, 251, mostSpan - 1, mostSpan} {
				do(watch(window, fails, hold))
			}
		}
	}
}

// P10.1: watches at each bound, and all between.
func TestWatchesThatAreRight(t *testing.T) {
	for _, w := range []api.Watch{
		watch(4, 2, 5),
		watch(1, 1, 5), watch(mostMarks, 2, 5),
		watch(4, 1, 5), watch(4, 4, 5), watch(mostMarks, mostMarks, 5), watch(mostMarks, 1, 5),
		watch(4, 2, 1), watch(4, 2, mostSpan),
		watch(1, 1, 1), watch(1, 1, mostSpan), watch(mostMarks, mostMarks, 1), watch(mostMarks, mostMarks, mostSpan),
	} {
		wantRight(t, w)
	}
	for hold := 1; hold <= mostSpan; hold++ {
		wantRight(t, watch(4, 2, hold))
	}
	eachWatch(func(w api.Watch) { wantRight(t, w) })
}

// P10.1: Window beyond each of its bounds, also where Fails keeps to it.
func TestWindowOutOfRange(t *testing.T) {
	for _, window := range append([]int{0, mostMarks + 1, mostMarks + 2, 256 + 4, mostSpan, 1 << 32, 1<<32 + 4, math.MaxInt}, negatives...) {
		for _, fails := range []int{1, 2, mostMarks, window, window - 1, 0, -1} {
			for _, hold := range []int{1, 5, mostSpan} {
				wantWrong(t, watch(window, fails, hold))
			}
		}
	}
	wantWrong(t, api.Watch{})
}

// P10.1: Fails below 1, and above Window, by one and by more.
func TestFailsOutOfRange(t *testing.T) {
	for window := 1; window <= mostMarks; window++ {
		for _, fails := range append([]int{0, window + 1, window + 2, 256 + window, 1<<32 + window, math.MaxInt}, negatives...) {
			for _, hold := range []int{1, 5, mostSpan} {
				wantWrong(t, watch(window, fails, hold))
			}
		}
	}
}

// P10.1: Hold beyond each of its bounds.
func TestHoldOutOfRange(t *testing.T) {
	for _, hold := range append([]int{0, mostSpan + 1, mostSpan + 2, 65536 + 5, 1 << 32, 1<<32 + 5, math.MaxInt}, negatives...) {
		for _, w := range []api.Watch{watch(4, 2, hold), watch(1, 1, hold), watch(mostMarks, mostMarks, hold), watch(0, 0, hold), watch(2, 3, hold)} {
			wantWrong(t, w)
		}
	}
}

// P10.1: ticks at both bounds.
func TestTicksThatMayCome(t *testing.T) {
	for _, now := range ticks {
		wantBoth(t, watch(4, 2, 5), api.Health{}, now)
		wantBoth(t, watch(4, 2, 5), in("xx", 1), now)
		wantBoth(t, watch(4, 2, 5), out("", 1, 1), now)
	}
}

// P10.1: ticks beyond them, ahead of the health: of one that may be, and of one that may not, either.
func TestTicksOutOfRange(t *testing.T) {
	for _, now := range wrongNows {
		for _, h := range []api.Health{
			{}, in("x", 1), in("xxxx", 10), out("", 3, 1), out("", mostTick+mostSpan, 10), out("", 0, 0),
			in("xxxxx", 0), in("", -1), in("", 11), {Until: 1}, out("", -1, 1), out("", mostTick+mostSpan+1, 1), out("", math.MinInt, 1),
		} {
			wantNeither(t, watch(4, 2, 5), h, now, api.ErrRange)
		}
	}
}

// P10.2: Marks: none, one less than Window, and as many; one more may not be, nor more, though Window of them would be left.
func TestMarksThatMayBe(t *testing.T) {
	for window := 1; window <= mostMarks; window++ {
		for _, w := range []api.Watch{watch(window, 1, 5), watch(window, window, 5)} {
			for count := 0; count <= window; count++ {
				wantBoth(t, w, api.Health{Marks: make([]bool, count)}, 7)
				wantBoth(t, w, api.Health{Marks: make([]bool, count), Out: true, Until: 9, Times: 1}, 7)
			}
			for _, count := range []int{window + 1, window + 2, mostMarks + 1, 256 + window, 65536} {
				wantNeither(t, w, api.Health{Marks: make([]bool, count)}, 7, api.ErrState)
				wantNeither(t, w, api.Health{Marks: make([]bool, count), Out: true, Until: 7, Times: 1}, 7, api.ErrState)
			}
		}
	}
}

// P10.2: Times at each bound and beyond, Out or not.
func TestTimesThatMayBe(t *testing.T) {
	w := watch(4, 2, 5)
	for times := 0; times <= mostTimes; times++ {
		wantBoth(t, w, in("xx", times), 7)
		wantBoth(t, w, out("xx", 7, times), 7)
	}
	for _, times := range append([]int{11, 12, 63, 64, 256, 1 << 32, math.MaxInt}, negatives...) {
		for _, h := range []api.Health{in("", times), in("xx", times), out("", 7, times), out("", 8, times)} {
			wantNeither(t, w, h, 7, api.ErrState)
		}
	}
}

// P10.2: Until of one that is Out, at each bound and beyond, whatever the tick is.
func TestUntilThatMayBe(t *testing.T) {
	w := watch(4, 2, 5)
	for _, now := range ticks {
		for _, until := range []int{0, 1, 7, mostTick, mostTick + 1, mostTick + mostSpan - 1, mostTick + mostSpan} {
			wantBoth(t, w, out("", until, 1), now)
			wantBoth(t, w, out("xx", until, 0), now)
		}
		for _, until := range append([]int{mostTick + mostSpan + 1, mostTick + mostSpan + 2, 2 * mostTick, math.MaxInt}, negatives...) {
			wantNeither(t, w, out("", until, 1), now, api.ErrState)
			wantNeither(t, w, out("xx", until, 0), now, api.ErrState)
		}
	}
}

// P10.2: Until of one that is not Out: 0, and nothing else.
func TestUntilOfOneThatIsIn(t *testing.T) {
	w := watch(4, 2, 5)
	for _, now := range ticks {
		for _, text := range []string{"", "x", "xxxx", "...."} {
			wantBoth(t, w, in(text, 3), now)
			for _, until := range append([]int{1, 2, 7, now + 1, mostTick, mostTick + mostSpan, mostTick + mostSpan + 1, 1 << 32, math.MaxInt}, negatives...) {
				h := in(text, 3)
				h.Until = until
				wantNeither(t, w, h, now, api.ErrState)
			}
		}
	}
}

// P10.2: several that are wrong at once are still one error.
func TestSeveralThatMayNotBe(t *testing.T) {
	w := watch(2, 1, 5)
	for _, h := range []api.Health{
		{Marks: marks("..."), Until: 1}, {Marks: marks("xxx"), Times: -1}, out("xxx", -1, 11), out("", -1, -1),
		{Until: -1, Times: 11}, out("x", mostTick+mostSpan+1, -1), {Until: mostTick + mostSpan + 1, Times: 11},
	} {
		wantNeither(t, w, h, 7, api.ErrState)
	}
}

// P10.3: the outcome is put behind the Marks; with fewer than Window all are left, with as many the eldest falls away.
func TestMarksGoOn(t *testing.T) {
	for _, c := range []struct {
		window int
		before string
		failed bool
		want   string
	}{
		{4, "", false, "."},
		{4, "", true, "x"},
		{4, "x", false, "x."},
		{4, ".", true, ".x"},
		{4, "x.", true, "x.x"},
		{4, "xx.", false, "xx.."},
		{4, "..x", true, "..xx"},
		{4, "x..x", false, "..x."},
		{4, "xx..", true, "x..x"},
		{4, "...x", false, "..x."},
		{4, "x...", false, "...."},
		{4, "xxxx", true, "xxxx"},
		{3, "x.x", true, ".xx"},
		{2, "x.", true, ".x"},
		{2, "x", true, "xx"},
		{1, "", true, "x"},
		{1, "x", false, "."},
		{1, ".", true, "x"},
		{mostMarks, "x.............x", true, "x.............xx"},
		{mostMarks, "x.............xx", false, ".............xx."},
	} {
		w := watch(c.window, 1, 5)
		noting{w, in(c.before, 3), c.failed, 7, false}.want(t, in(c.want, 3), false)
		noting{w, out(c.before, 9, 3), c.failed, 7, true}.want(t, out(c.want, 9, 3), false)
	}
}

// P10.3: one failure less than Fails, just as many, and more.
func TestThrownOut(t *testing.T) {
	for _, c := range []struct {
		window, fails int
		before        string
		failed        bool
		want          string // "": thrown out
	}{
		{4, 2, "", true, "x"},
		{4, 2, "x", true, ""},
		{4, 2, "x", false, "x."},
		{4, 2, "x..", true, ""},
		{4, 2, "x...", true, "...x"},
		{4, 2, ".x..", true, ""},
		{4, 2, "xx..", true, ""},
		{4, 2, "xx..", false, "x..."},
		{4, 3, "xx", true, ""},
		{4, 3, "x.", true, "x.x"},
		{4, 3, "xxx", true, ""},
		{4, 3, "xxx.", true, ""},
		{4, 3, "xxx.", false, "xx.."},
		{4, 4, "xxx", true, ""},
		{4, 4, "xxxx", true, ""},
		{4, 4, "xxxx", false, "xxx."},
		{4, 1, "", true, ""},
		{4, 1, "...", true, ""},
		{4, 1, "....", false, "...."},
		{1, 1, "", true, ""},
		{1, 1, "x", true, ""},
		{1, 1, "x", false, "."},
		{mostMarks, mostMarks, "xxxxxxxxxxxxxx", true, "xxxxxxxxxxxxxxx"},
		{mostMarks, mostMarks, "xxxxxxxxxxxxxxx", true, ""},
		{mostMarks, mostMarks, "xxxxxxxxxxxxxxxx", true, ""},
		{mostMarks, mostMarks, ".xxxxxxxxxxxxxxx", true, ""},
		{mostMarks, mostMarks, "x.xxxxxxxxxxxxxx", true, ".xxxxxxxxxxxxxxx"},
	} {
		n := noting{watch(c.window, c.fails, 5), in(c.before, 0), c.failed, 7, true}
		if c.want == "" {
			n.want(t, out("", 12, 1), true)
		} else {
			n.want(t, in(c.want, 0), false)
		}
	}
}

// P10.3: failures from when it was not allowed count: even an outcome that is good is then the one that throws it out.
func TestThrownOutByAGoodOne(t *testing.T) {
	noting{watch(4, 2, 5), in("xx", 0), false, 7, true}.want(t, out("", 12, 1), true)
	noting{watch(4, 2, 5), in("xxxx", 1), false, 7, true}.want(t, out("", 17, 2), true)
	noting{watch(4, 2, 5), in(".xx.", 0), false, 7, true}.want(t, out("", 12, 1), true)
	noting{watch(4, 2, 5), in("xx..", 0), false, 7, true}.want(t, in("x...", 0), false)
	noting{watch(2, 1, 5), in("x", 0), false, 7, true}.want(t, out("", 12, 1), true)
}

// P10.3: where it may not, nobody is thrown out, by however many failures.
func TestMayNot(t *testing.T) {
	noting{watch(4, 2, 5), in("x", 4), true, 7, false}.want(t, in("xx", 4), false)
	noting{watch(4, 2, 5), in("xxxx", 0), true, 7, false}.want(t, in("xxxx", 0), false)
	noting{watch(4, 2, 5), in("xxx", 10), false, 7, false}.want(t, in("xxx.", 10), false)
	noting{watch(1, 1, 5), in("", 0), true, 7, false}.want(t, in("x", 0), false)
	eachWatch(func(w api.Watch) {
		h := api.Health{Times: 2}
		for i := range 2 * mostMarks {
			next, is, e := Note(w, h, true, 7, false)
			if is || e != api.OK || next.Out || next.Until != 0 || next.Times != 2 || len(next.Marks) != min(i+1, w.Window) {
				t.Fatalf("Note(%+v, %+v): %+v, %v, %v", w, h, next, is, e)
			}
			h = next
		}
	})
}

// P10.3: of one that is Out already Out, Until and Times stay, ahead of Until, at it and behind it; its Marks go on.
func TestOutAlready(t *testing.T) {
	for _, may := range truths {
		for _, until := range []int{0, 6, 7, 8, mostTick + mostSpan} {
			for times := 0; times <= mostTimes; times++ {
				noting{watch(4, 2, 5), out("", until, times), true, 7, may}.want(t, out("x", until, times), false)
				noting{watch(4, 2, 5), out("x", until, times), true, 7, may}.want(t, out("xx", until, times), false)
				noting{watch(4, 2, 5), out("xxxx", until, times), false, 7, may}.want(t, out("xxx.", until, times), false)
				noting{watch(4, 2, 5), out(".xxx", until, times), true, 7, may}.want(t, out("xxxx", until, times), false)
				noting{watch(1, 1, 5), out("", until, times), true, 7, may}.want(t, out("x", until, times), false)
			}
		}
	}
}

// P10.3: Until by Times: below MaxSpan, just MaxSpan, one beside it and beyond it; Times goes one up, and stays at 10.
func TestUntil(t *testing.T) {
	for _, c := range []struct {
		hold int
		want [mostTimes + 1]int // by Times
	}{
		{1, [...]int{1, 2, 4, 8, 16, 32, 64, 128, 256, 500, 500}},
		{2, [...]int{2, 4, 8, 16, 32, 64, 128, 256, 500, 500, 500}},
		{3, [...]int{3, 6, 12, 24, 48, 96, 192, 384, 500, 500, 500}},
		{5, [...]int{5, 10, 20, 40, 80, 160, 320, 500, 500, 500, 500}},
		{62, [...]int{62, 124, 248, 496, 500, 500, 500, 500, 500, 500, 500}},
		{63, [...]int{63, 126, 252, 500, 500, 500, 500, 500, 500, 500, 500}},
		{125, [...]int{125, 250, 500, 500, 500, 500, 500, 500, 500, 500, 500}},
		{249, [...]int{249, 498, 500, 500, 500, 500, 500, 500, 500, 500, 500}},
		{250, [...]int{250, 500, 500, 500, 500, 500, 500, 500, 500, 500, 500}},
		{251, [...]int{251, 500, 500, 500, 500, 500, 500, 500, 500, 500, 500}},
		{499, [...]int{499, 500, 500, 500, 500, 500, 500, 500, 500, 500, 500}},
		{500, [...]int{500, 500, 500, 500, 500, 500, 500, 500, 500, 500, 500}},
	} {
		for times, span := range c.want {
			next := times + 1
			if times == mostTimes {
				next = mostTimes
			}
			for _, now := range ticks {
				noting{watch(4, 2, c.hold), in("x.", times), true, now, true}.want(t, out("", now+span, next), true)
				noting{watch(1, 1, c.hold), in("", times), true, now, true}.want(t, out("", now+span, next), true)
			}
		}
	}
}

// P10.4: a tick ahead of Until, at it and behind it; what came of it keeps its Times and the Marks of the time out.
func TestBack(t *testing.T) {
	w := watch(4, 2, 5)
	for _, until := range []int{1, 12, 1 << 32, mostTick - 1} {
		for times := 0; times <= mostTimes; times++ {
			for _, text := range []string{"", "x", "x.xx", "xxxx"} {
				h := out(text, until, times)
				wantBack(t, w, h, 0, h, false)
				wantBack(t, w, h, until-1, h, false)
				wantBack(t, w, h, until, in(text, times), true)
				wantBack(t, w, h, until+1, in(text, times), true)
				wantBack(t, w, h, mostTick, in(text, times), true)
			}
		}
	}
	wantBack(t, w, out("", 0, 1), 0, in("", 1), true)
	wantBack(t, w, out("", 0, 1), 1, in("", 1), true)
	wantBack(t, w, out("", mostTick, 1), mostTick, in("", 1), true)
	wantBack(t, w, out("", mostTick+1, 1), mostTick, out("", mostTick+1, 1), false)
	wantBack(t, w, out("x", mostTick+mostSpan, 1), mostTick, out("x", mostTick+mostSpan, 1), false)
}

// P10.4: who is not Out stays as it is, at any tick, and that it is back is not told.
func TestBackOfOneThatIsIn(t *testing.T) {
	for _, now := range ticks {
		for times := 0; times <= mostTimes; times++ {
			for _, text := range []string{"", ".", "x", "x.", "xxxx", ".x.x"} {
				wantBack(t, watch(4, 2, 5), in(text, times), now, in(text, times), false)
			}
		}
	}
}

// P10.4: one that is back may be thrown out again, for twice as long; one that is not, not.
func TestThereAndBack(t *testing.T) {
	w := watch(2, 1, 3)
	h := api.Health{}
	now := 5
	for i, span := range []int{3, 6, 12, 24, 48, 96, 192, 384, 500, 500, 500, 500} {
		thrown, is, e := Note(w, h, true, now, true)
		if !same(thrown, out("", now+span, min(i+1, mostTimes))) || !is || e != api.OK {
			t.Fatalf("the throwing out %d: %+v, %v, %v", i, thrown, is, e)
		}
		noting{w, thrown, true, now, true}.want(t, out("x", now+span, min(i+1, mostTimes)), false)
		wantBack(t, w, thrown, now+span-1, thrown, false)
		back, is, e := Back(w, thrown, now+span)
		if !same(back, in("", min(i+1, mostTimes))) || !is || e != api.OK {
			t.Fatalf("the coming back %d: %+v, %v, %v", i, back, is, e)
		}
		h, now = back, now+span
	}
}

// told: what Note answers, apart from the program: the Marks as a number in base two, the failures of it bit by bit.
func told(n noting) (api.Health, bool) {
	all, count := 0, len(n.h.Marks)+1
	for i, failed := range append(slices.Clone(n.h.Marks), n.failed) {
		if failed {
			all += 1 << (count - 1 - i)
		}
	}
	if count > n.w.Window {
		count = n.w.Window
		all %= 1 << count
	}
	failures := 0
	for rest := all; rest > 0; rest /= 2 {
		failures += rest % 2
	}
	if n.may && !n.h.Out && failures >= n.w.Fails {
		span := n.w.Hold
		for range n.h.Times {
			span += span
		}
		if span > mostSpan {
			span = mostSpan
		}
		times := n.h.Times + 1
		if times > mostTimes {
			times = mostTimes
		}
		return api.Health{Out: true, Until: n.now + span, Times: times}, true
	}
	h := api.Health{Out: n.h.Out, Until: n.h.Until, Times: n.h.Times}
	for i := count - 1; i >= 0; i-- {
		h.Marks = append(h.Marks, all>>i%2 == 1)
	}
	return h, false
}

// eachMarks: all Marks of at most so many.
func eachMarks(most int, do func(l []bool)) {
	for count := 0; count <= most; count++ {
		for all := range 1 << count {
			l := make([]bool, count)
			for i := range l {
				l[i] = all>>i%2 == 1
			}
			do(l)
		}
	}
}

// P10.3: all Marks of small windows, with each of what else is asked.
func TestAllSmallMarks(t *testing.T) {
	for window := 1; window <= 6; window++ {
		for fails := 1; fails <= window; fails++ {
			eachMarks(window, func(l []bool) {
				for bits := range 8 {
					n := noting{watch(window, fails, 5), api.Health{Marks: l, Times: 2}, bits%2 == 1, 7, bits&2 == 2}
					if bits&4 == 4 {
						n.h.Out, n.h.Until = true, 9
					}
					want, is := told(n)
					n.want(t, want, is)
				}
			})
		}
	}
}

// drawn: something that Note can be asked, none of it wrong.
func drawn(d *rand.Rand) noting {
	window := 1 + d.Intn(mostMarks)
	n := noting{watch(window, 1+d.Intn(window), 1+d.Intn(mostSpan)), api.Health{Times: d.Intn(mostTimes + 1)}, d.Intn(2) == 0, d.Intn(mostTick + 1), d.Intn(3) > 0}
	if d.Intn(2) == 0 {
		n.w.Hold = 1 + d.Intn(9)
	}
	n.h.Marks = make([]bool, d.Intn(window+1))
	for i := range n.h.Marks {
		n.h.Marks[i] = d.Intn(window+1) < n.w.Fails
	}
	if d.Intn(3) == 0 {
		n.h.Out, n.h.Until = true, max(0, n.now-5+d.Intn(10))
	}
	return n
}

// P10.3 and P10.4: drawn ones.
func TestDrawn(t *testing.T) {
	d := rand.New(rand.NewSource(10))
	for range 50000 {
		n := drawn(d)
		want, is := told(n)
		n.want(t, want, is)
		if n.h.Out && n.h.Until <= n.now {
			wantBack(t, n.w, n.h, n.now, api.Health{Marks: n.h.Marks, Times: n.h.Times}, true)
		} else {
			wantBack(t, n.w, n.h, n.now, n.h, false)
		}
	}
}

func wantAllowed(t *testing.T, out, active, percent int, want bool) {
	t.Helper()
	if is, e := Allowed(out, active, percent); is != want || e != api.OK {
		t.Fatalf("Allowed(%d, %d, %d): %v, %v, want %v", out, active, percent, is, e, want)
	}
}

func wantNotAsked(t *testing.T, out, active, percent int) {
	t.Helper()
	if is, e := Allowed(out, active, percent); is || e != api.ErrRange {
		t.Fatalf("Allowed(%d, %d, %d): %v, %v, want %v", out, active, percent, is, e, api.ErrRange)
	}
}

// P10.5: just at the share, one beyond it and one below; nobody of none; all of all.
func TestAllowed(t *testing.T) {
	for _, c := range []struct {
		out, active, percent int
		want                 bool
	}{
		{0, 3, 34, true},
		{0, 3, 33, false},
		{1, 3, 67, true},
		{1, 3, 66, false},
		{0, 2, 50, true},
		{0, 2, 49, false},
		{0, 2, 51, true},
		{1, 2, 50, false},
		{1, 2, 99, false},
		{1, 2, 100, true},
		{1, 4, 50, true},
		{1, 4, 49, false},
		{2, 4, 50, false},
		{0, 10, 10, true},
		{0, 10, 9, false},
		{1, 10, 10, false},
		{0, 12, 9, true},
		{0, 12, 8, false},
		{5, 12, 50, true},
		{5, 12, 49, false},
		{6, 12, 50, false},
		{10, 12, 100, true},
		{11, 12, 100, true},
		{11, 12, 99, false},
		{12, 12, 100, false},
		{0, 1, 100, true},
		{0, 1, 99, false},
		{1, 1, 100, false},
		{0, 0, 0, false},
		{0, 0, 100, false},
		{0, 12, 0, false},
		{0, 1, 0, false},
		{12, 12, 0, false},
	} {
		wantAllowed(t, c.out, c.active, c.percent, c.want)
	}
}

// P10.5: all that may be asked: one more is allowed as long as that many hundredths are not passed.
func TestAllThatMayBeAsked(t *testing.T) {
	for active := 0; active <= mostBackends; active++ {
		for percent := 0; percent <= 100; percent++ {
			most := 0
			for hundredths := 100; hundredths <= percent*active; hundredths += 100 {
				most++
			}
			for out := 0; out <= active; out++ {
				wantAllowed(t, out, active, percent, out < most)
			}
		}
	}
}

// P10.5: each number beyond each of its bounds, the others within, at their bounds and beyond.
func TestAllowedOutOfRange(t *testing.T) {
	large := []int{256, 1 << 32, 1<<32 + 1, math.MaxInt/100 + 1, math.MaxInt}
	for _, active := range append(append([]int{mostBackends + 1, mostBackends + 2}, large...), negatives...) {
		for _, out := range []int{0, 1, mostBackends, active, active - 1, active + 1, -1} {
			for _, percent := range []int{0, 50, 100, 101, -1} {
				wantNotAsked(t, out, active, percent)
			}
		}
	}
	for active := 0; active <= mostBackends; active++ {
		for _, out := range append(append([]int{active + 1, active + 2, mostBackends + 1}, large...), negatives...) {
			for _, percent := range []int{0, 50, 100, 101, -1} {
				wantNotAsked(t, out, active, percent)
			}
		}
		for _, percent := range append(append([]int{101, 102}, large...), negatives...) {
			for out := 0; out <= active; out++ {
				wantNotAsked(t, out, active, percent)
			}
		}
	}
}

// backend: one of those that are watched.
type backend struct {
	h     api.Health
	since int
}

// What comes of it: whatever the outcomes, nobody is out for longer than MaxSpan, and never are more out than the share.
func TestNeverMoreAndNeverLonger(t *testing.T) {
	d := rand.New(rand.NewSource(11))
	for range 300 {
		window := 1 + d.Intn(mostMarks)
		w := watch(window, 1+d.Intn(window), 1+d.Intn(mostSpan))
		all, percent, bad := make([]backend, d.Intn(mostBackends+1)), d.Intn(101), 1+d.Intn(9)
		now := d.Intn(1000)
		for range 400 {
			for i := range all {
				b := &all[i]
				may, e := Allowed(outOf(all), len(all), percent)
				if e != api.OK {
					t.Fatalf("Allowed(%d, %d, %d): %v", outOf(all), len(all), percent, e)
				}
				b.note(t, w, d.Intn(10) < bad, now, may)
			}
			if count := outOf(all); count*100 > percent*len(all) {
				t.Fatalf("%d of %d are out, with a share of %d", count, len(all), percent)
			}
			now++
			for i := range all {
				all[i].back(t, w, now)
			}
			if now%7 == 0 {
				now += d.Intn(3) // ticks at which nobody is asked make none of them stay
				for i := range all {
					all[i].back(t, w, now)
				}
			}
		}
	}
}

func outOf(all []backend) int {
	count := 0
	for _, b := range all {
		if b.h.Out {
			count++
		}
	}
	return count
}

func (b *backend) note(t *testing.T, w api.Watch, failed bool, now int, may bool) {
	t.Helper()
	h, is, e := Note(w, b.h, failed, now, may)
	if e != api.OK || is != (h.Out && !b.h.Out) {
		t.Fatalf("Note(%+v, %+v, %v, %d, %v): %+v, %v, %v", w, b.h, failed, now, may, h, is, e)
	}
	if is {
		b.since = now
		if h.Until <= now || h.Until > now+mostSpan {
			t.Fatalf("thrown out at %d till %d", now, h.Until)
		}
	}
	b.h = h
}

func (b *backend) back(t *testing.T, w api.Watch, now int) {
	t.Helper()
	h, is, e := Back(w, b.h, now)
	if e != api.OK || is != (b.h.Out && !h.Out) {
		t.Fatalf("Back(%+v, %+v, %d): %+v, %v, %v", w, b.h, now, h, is, e)
	}
	if h.Out && now-b.since >= mostSpan {
		t.Fatalf("out since %d, at %d still", b.since, now)
	}
	b.h = h
}

// roomy: Marks with spare room that is filled.
func roomy(l []bool) []bool {
	room := append(make([]bool, 0, len(l)+20), l...)
	for i := len(l); i < cap(room); i++ {
		room[:cap(room)][i] = i%3 == 0
	}
	return room
}

// whole list, its spare room, too.
func whole(l []bool) []bool { return slices.Clone(l[:cap(l)]) }

// turn each mark of a list and of its spare room round.
func turn(l []bool) {
	l = l[:cap(l)]
	for i := range l {
		l[i] = !l[i]
	}
}

// asks: all that can be asked of a health.
func asks(n noting) []func() (api.Health, bool, api.Errno) {
	return []func() (api.Health, bool, api.Errno){
		func() (api.Health, bool, api.Errno) { return Note(n.w, n.h, n.failed, n.now, n.may) },
		func() (api.Health, bool, api.Errno) { return Back(n.w, n.h, n.now) },
	}
}

// No call changes the Marks that it was given, nor their spare room; those that it answers have memory of their own, whether it refuses or not.
func TestNothingShared(t *testing.T) {
	d := rand.New(rand.NewSource(12))
	for i := range 20000 {
		n := drawn(d)
		switch i % 20 {
		case 0:
			n.h.Marks = make([]bool, n.w.Window+1)
		case 1:
			n.h.Times = 11
		case 2:
			n.w.Hold = 0
		case 3:
			n.now = -1
		}
		n.h.Marks = roomy(n.h.Marks)
		for _, ask := range asks(n) {
			before := whole(n.h.Marks)
			first, is, e := ask()
			second, again, err := ask()
			if is != again || e != err || !same(first, second) {
				t.Fatalf("%+v: another answer the second time", n)
			}
			if !slices.Equal(whole(n.h.Marks), before) {
				t.Fatalf("%+v: the Marks are changed", n)
			}
			kept := whole(second.Marks)
			turn(first.Marks)
			if !slices.Equal(whole(n.h.Marks), before) || !slices.Equal(whole(second.Marks), kept) {
				t.Fatalf("%+v: what is answered shares memory", n)
			}
			turn(n.h.Marks)
			if !slices.Equal(whole(second.Marks), kept) {
				t.Fatalf("%+v: the Marks are kept", n)
			}
			turn(n.h.Marks)
		}
	}
}

// Marks without elements may be handed in as nil or not.
func TestNilOrNot(t *testing.T) {
	for _, l := range [][]bool{nil, {}, make([]bool, 0, 5)} {
		noting{watch(4, 2, 5), api.Health{Marks: l}, true, 7, true}.want(t, in("x", 0), false)
		noting{watch(4, 1, 5), api.Health{Marks: l}, true, 7, true}.want(t, out("", 12, 1), true)
		wantBack(t, watch(4, 2, 5), api.Health{Marks: l, Out: true, Until: 7}, 7, api.Health{}, true)
	}
}

// What a call answers hangs on its arguments alone: calls between do not change it.
func TestNothingIsKept(t *testing.T) {
	d := rand.New(rand.NewSource(13))
	for i := range 200 {
		n := drawn(d)
		Check(n.w)
		Note(n.w, n.h, n.failed, n.now, n.may)
		Back(n.w, n.h, n.now)
		Note(watch(0, 0, 0), n.h, true, -1, true)
		Allowed(i%14-1, i%13, i%103-1)
		noting{watch(4, 2, 3), in("x", 0), true, 5, true}.want(t, out("", 8, 1), true)
		noting{watch(4, 2, 3), in("", 0), true, 5, true}.want(t, in("x", 0), false)
		wantBack(t, watch(4, 2, 3), out("x", 8, 1), 8, in("x", 1), true)
		wantAllowed(t, 0, 3, 34, true)
		wantAllowed(t, 0, 3, 33, false)
	}
}
