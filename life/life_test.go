package life

import (
	"math"
	"math/rand"
	"slices"
	"testing"

	"usher/api"
)

// The faces stay as the chapter writes them.
var (
	_ func(api.Book) api.Errno                                                     = Check
	_ func(api.Book, api.Request, int, int) (api.Book, api.Errno, bool, api.Errno) = Ask
	_ func(api.Book, int) (api.Book, []int, api.Errno)                             = Wake
	_ func(api.Book, int) (api.Book, api.Errno)                                    = Finish
	_ func(api.Book, int) (api.Life, api.Errno)                                    = Of
)

const (
	backends     = 12
	mostWeight   = 8
	mostTick     = 1 << 40
	mostSpan     = 500
	mostRequest  = 1 << 20
	mostRequests = 100

	joins    = 1
	active   = 2
	drains   = 3
	retired  = 4
	askJoin  = 1
	askLeave = 2
)

var (
	negatives     = []int{-1, -2, -mostSpan, -1 << 32, -mostTick, math.MinInt + 1, math.MinInt}
	huge          = []int{1 << 32, 1<<32 + 1, 1 << 62, 1<<63 - 1 - mostSpan, math.MaxInt - 1, math.MaxInt}
	wrongNows     = slices.Concat([]int{mostTick + 1, mostTick + mostSpan}, huge[2:], negatives)
	wrongDrains   = slices.Concat([]int{mostSpan + 1, mostTick}, huge, negatives)
	wrongBackends = slices.Concat([]int{backends, backends + 1, 255, 256}, huge, negatives)
	wrongWeights  = slices.Concat([]int{0, mostWeight + 1, 256, 257}, huge, negatives)
	wrongIds      = slices.Concat([]int{mostRequest + 1, 1 << 21}, huge, negatives)
	wrongKinds    = slices.Concat([]int{0, 3, 4, 5, 257, 258}, huge, negatives)
	ticks         = []int{0, 1, 7, 1 << 32, mostTick - 1, mostTick}
	drainsAll     = []int{0, 1, 3, mostSpan - 1, mostSpan}
)

func one(backend, state, weight, since, until, request int) api.Life {
	return api.Life{Backend: backend, State: state, Weight: weight, Since: since, Until: until, Request: request}
}

// in a state: a life with as much in it as may be there.
func in(state, backend int) api.Life {
	switch state {
	case joins:
		return one(backend, joins, 1+backend%mostWeight, 0, 0, 0)
	case active:
		return one(backend, active, 1+backend%mostWeight, 40+backend, 0, 0)
	}
	return one(backend, state, 1+backend%mostWeight, 40+backend, 90+backend, 70+backend)
}

func asks(id, kind, backend, weight int) api.Request {
	return api.Request{Id: id, Kind: kind, Backend: backend, Weight: weight}
}

func answered(r api.Request, answer api.Errno) api.Request {
	r.Answer = answer
	return r
}

func of(l ...api.Life) api.Book { return api.Book{Lives: l} }

func with(b api.Book, r ...api.Request) api.Book {
	return api.Book{Lives: b.Lives, Requests: slices.Concat(b.Requests, r)}
}

// many requests, from an Id on, with answers that differ.
func many(from, n int) []api.Request {
	var l []api.Request
	for id := from; id < from+n; id++ {
		l = append(l, answered(asks(id, 1+id%2, id%backends, id%9), api.Errno(id%13)))
	}
	return l
}

func same(a, b api.Book) bool {
	return slices.Equal(a.Lives, b.Lives) && slices.Equal(a.Requests, b.Requests)
}

// isZero: as a book must be beside an error.
func isZero(b api.Book) bool { return len(b.Lives) == 0 && len(b.Requests) == 0 }

// asking: what Ask is asked.
type asking struct {
	b          api.Book
	r          api.Request
	now, drain int
}

func (a asking) want(t *testing.T, want api.Book, answer api.Errno, fresh bool) {
	t.Helper()
	b, got, is, e := Ask(a.b, a.r, a.now, a.drain)
	if !same(b, want) || got != answer || is != fresh || e != api.OK {
		t.Fatalf("Ask(%+v): %+v, %v, %v, %v, want %+v, %v, %v", a, b, got, is, e, want, answer, fresh)
	}
}

// wantNo: is it refused so, with zero values beside the error?
func (a asking) wantNo(t *testing.T, want api.Errno) {
	t.Helper()
	if b, got, is, e := Ask(a.b, a.r, a.now, a.drain); !isZero(b) || got != api.OK || is || e != want {
		t.Fatalf("Ask(%+v): %+v, %v, %v, %v, want %v", a, b, got, is, e, want)
	}
}

func wantWake(t *testing.T, b api.Book, now int, want api.Book, woken ...int) {
	t.Helper()
	if got, l, e := Wake(b, now); !same(got, want) || !slices.Equal(l, woken) || e != api.OK {
		t.Fatalf("Wake(%+v, %d): %+v, %v, %v, want %+v, %v", b, now, got, l, e, want, woken)
	}
}

func wantNoWake(t *testing.T, b api.Book, now int, want api.Errno) {
	t.Helper()
	if got, l, e := Wake(b, now); !isZero(got) || len(l) != 0 || e != want {
		t.Fatalf("Wake(%+v, %d): %+v, %v, %v, want %v", b, now, got, l, e, want)
	}
}

func wantFinish(t *testing.T, b api.Book, backend int, want api.Book) {
	t.Helper()
	if got, e := Finish(b, backend); !same(got, want) || e != api.OK {
		t.Fatalf("Finish(%+v, %d): %+v, %v, want %+v", b, backend, got, e, want)
	}
}

func wantNoFinish(t *testing.T, b api.Book, backend int, want api.Errno) {
	t.Helper()
	if got, e := Finish(b, backend); !isZero(got) || e != want {
		t.Fatalf("Finish(%+v, %d): %+v, %v, want %v", b, backend, got, e, want)
	}
}

func wantOf(t *testing.T, b api.Book, backend int, want api.Life, err api.Errno) {
	t.Helper()
	if got, e := Of(b, backend); got != want || e != err {
		t.Fatalf("Of(%+v, %d): %+v, %v, want %+v, %v", b, backend, got, e, want, err)
	}
}

// wantMay: may the book be?
func wantMay(t *testing.T, b api.Book) {
	t.Helper()
	if e := Check(b); e != api.OK {
		t.Fatalf("Check(%+v): %v", b, e)
	}
	wantMost(t, b, api.OK)
}

// wantMost: do the calls that can't be refused for anything else tell this of the book?
func wantMost(t *testing.T, b api.Book, want api.Errno) {
	t.Helper()
	if _, _, _, e := Ask(b, asks(0, askJoin, 0, 1), 0, 0); e != want {
		t.Fatalf("Ask of %+v: %v, want %v", b, e, want)
	}
	if _, _, e := Wake(b, 0); e != want {
		t.Fatalf("Wake of %+v: %v, want %v", b, e, want)
	}
}

// wantMayNot: is it refused as such by all calls, ahead of all else, with nothing beside the error?
func wantMayNot(t *testing.T, b api.Book) {
	t.Helper()
	if e := Check(b); e != api.ErrState {
		t.Fatalf("Check(%+v): %v, want %v", b, e, api.ErrState)
	}
	for _, r := range []api.Request{asks(1, askJoin, 2, 3), asks(3, askLeave, 0, 0), asks(-1, askJoin, 2, 3), asks(1, 3, 2, 3), asks(1, askJoin, -1, 9), {}} {
		for _, now := range []int{7, -1, mostTick + 1} {
			for _, drain := range []int{3, -1, mostSpan + 1} {
				asking{b, r, now, drain}.wantNo(t, api.ErrState)
			}
		}
	}
	for _, now := range []int{7, -1, mostTick + 1, math.MinInt, math.MaxInt} {
		wantNoWake(t, b, now, api.ErrState)
	}
	for backend := -1; backend <= backends; backend++ {
		wantNoFinish(t, b, backend, api.ErrState)
		wantOf(t, b, backend, api.Life{}, api.ErrState)
	}
}

// The examples of the tests of the stage, and one of each call.
func TestExamples(t *testing.T) {
	asking{api.Book{}, asks(1, askJoin, 2, 3), 0, 5}.want(t, with(of(one(2, joins, 3, 0, 0, 0)), asks(1, askJoin, 2, 3)), api.OK, true)
	asking{api.Book{}, asks(1, askLeave, 2, 3), 0, 5}.want(t, with(of(), answered(asks(1, askLeave, 2, 0), api.ErrNone)), api.ErrNone, true)
	asking{api.Book{}, asks(1, 3, 0, 0), 0, 5}.wantNo(t, api.ErrRange)
	wantNoFinish(t, api.Book{}, 1, api.ErrNone)
	wantOf(t, of(api.Life{}), 1, api.Life{}, api.ErrState)

	wantWake(t, of(one(2, joins, 3, 0, 0, 0)), 9, of(one(2, active, 3, 9, 0, 0)), 2)
	asking{of(one(2, active, 3, 9, 0, 0)), asks(4, askLeave, 2, 0), 10, 5}.want(t, with(of(one(2, drains, 3, 9, 15, 4)), asks(4, askLeave, 2, 0)), api.OK, true)
	wantFinish(t, of(one(2, drains, 3, 9, 15, 4)), 2, of(one(2, retired, 3, 9, 15, 4)))
	wantOf(t, of(one(2, retired, 3, 9, 15, 4)), 2, one(2, retired, 3, 9, 15, 4), api.OK)
}

// P11.1, bound by bound.
func TestLivesThatMayBe(t *testing.T) {
	for backend := range backends {
		for state := joins; state <= retired; state++ {
			wantMay(t, of(in(state, backend)))
		}
	}
	for weight := 1; weight <= mostWeight; weight++ {
		for state := joins; state <= retired; state++ {
			wantMay(t, of(one(3, state, weight, 0, 0, 0)))
		}
	}
	for _, since := range ticks {
		for state := active; state <= retired; state++ {
			wantMay(t, of(one(3, state, 1, since, 0, 0)))
		}
	}
	for _, until := range append([]int{mostTick + 1, mostTick + mostSpan - 1, mostTick + mostSpan}, ticks...) {
		for state := drains; state <= retired; state++ {
			wantMay(t, of(one(3, state, 1, 0, until, 0)))
			wantMay(t, of(one(3, state, 1, mostTick, until, mostRequest)))
		}
	}
	for _, request := range []int{0, 1, 2, mostRequest - 1, mostRequest} {
		for state := drains; state <= retired; state++ {
			wantMay(t, of(one(3, state, 1, 0, 0, request)))
		}
	}
}

// P11.1, one beyond each bound, and far beyond it.
func TestLivesThatMayNotBe(t *testing.T) {
	for _, state := range slices.Concat([]int{0, 5, 6, 257, 258, 259, 260}, huge, negatives) {
		wantMayNot(t, of(one(3, state, 1, 0, 0, 0)))
	}
	for state := joins; state <= retired; state++ {
		for _, backend := range wrongBackends {
			wantMayNot(t, of(one(backend, state, 1, 0, 0, 0)))
		}
		for _, weight := range wrongWeights {
			wantMayNot(t, of(one(3, state, weight, 0, 0, 0)))
		}
		for _, since := range wrongNows {
			wantMayNot(t, of(one(3, state, 1, since, 0, 0)))
		}
		for _, until := range slices.Concat([]int{mostTick + mostSpan + 1, 1 << 41}, huge[2:], negatives) {
			wantMayNot(t, of(one(3, state, 1, 0, until, 0)))
		}
		for _, request := range wrongIds {
			wantMayNot(t, of(one(3, state, 1, 0, 0, request)))
		}
	}
	wantMayNot(t, of(api.Life{}))
}

// P11.1: what one that is Joining or Active has not.
func TestWhatIsNotYet(t *testing.T) {
	for _, since := range ticks[1:] {
		wantMayNot(t, of(one(3, joins, 1, since, 0, 0)))
	}
	for _, until := range append([]int{mostTick + mostSpan}, ticks[1:]...) {
		wantMayNot(t, of(one(3, joins, 1, 0, until, 0)))
		wantMayNot(t, of(one(3, active, 1, 0, until, 0)))
		wantMayNot(t, of(one(3, active, 1, 5, until, 0)))
	}
	for _, request := range []int{1, 2, mostRequest - 1, mostRequest} {
		wantMayNot(t, of(one(3, joins, 1, 0, 0, request)))
		wantMayNot(t, of(one(3, active, 1, 0, 0, request)))
		wantMayNot(t, of(one(3, active, 1, 5, 0, request)))
	}
}

// lifeTold: may it be, by the chapter's words?
func lifeTold(l api.Life) bool {
	bounds := [][3]int{
		{l.Backend, 0, 11}, {l.State, 1, 4}, {l.Weight, 1, 8}, {l.Since, 0, 1 << 40}, {l.Until, 0, 1<<40 + 500}, {l.Request, 0, 1 << 20},
	}
	for _, b := range bounds {
		if b[0] < b[1] || b[0] > b[2] {
			return false
		}
	}
	if l.State == 1 && l.Since != 0 {
		return false
	}
	return l.State > 2 || l.Until == 0 && l.Request == 0
}

// All numbers at and beyond their bounds, with each other.
func TestLivesAllTogether(t *testing.T) {
	for _, backend := range []int{-1, 0, 11, 12} {
		for state := 0; state <= 5; state++ {
			for _, weight := range []int{0, 1, 8, 9} {
				for _, since := range []int{-1, 0, 1, mostTick, mostTick + 1} {
					for _, until := range []int{-1, 0, 1, mostTick + mostSpan, mostTick + mostSpan + 1} {
						for _, request := range []int{-1, 0, 1, mostRequest, mostRequest + 1} {
							l := one(backend, state, weight, since, until, request)
							want := api.ErrState
							if lifeTold(l) {
								want = api.OK
							}
							if e := Check(of(l)); e != want {
								t.Fatalf("Check of %+v: %v, want %v", l, e, want)
							}
							wantMost(t, of(l), want)
						}
					}
				}
			}
		}
	}
}

// P11.3: a wrong life is seen wherever it stands, and so is a wrong request.
func TestWrongOneAmongOthers(t *testing.T) {
	for place := range 5 {
		var l []api.Life
		for b := range 5 {
			l = append(l, in(1+b%4, b))
		}
		wantMay(t, with(of(l...), many(0, 5)...))
		l[place].Weight = 0
		wantMayNot(t, with(of(l...), many(0, 5)...))
		l[place].Weight = 1
		wantMay(t, with(of(l...), many(0, 5)...))

		r := many(0, 5)
		r[place].Kind = 3
		wantMayNot(t, with(of(l...), r...))
		r[place].Kind, r[place].Id = 1, -1
		wantMayNot(t, with(of(l...), r...))
	}
}

// P11.3: Backends rise.
func TestLivesRise(t *testing.T) {
	for a := range backends {
		for b := range backends {
			for state := joins; state <= retired; state++ {
				book := of(in(state, a), in(active, b))
				if a < b {
					wantMay(t, book)
				} else {
					wantMayNot(t, book)
				}
			}
		}
	}
	wantMay(t, of(in(active, 0), in(joins, 5), in(drains, 11)))
	wantMayNot(t, of(in(active, 0), in(joins, 5), in(drains, 5)))
	wantMayNot(t, of(in(active, 5), in(joins, 5), in(drains, 11)))
	wantMayNot(t, of(in(active, 0), in(joins, 11), in(drains, 5)))
	wantMayNot(t, of(in(active, 5), in(joins, 0), in(drains, 11)))
	wantMayNot(t, of(in(active, 2), in(joins, 3), in(drains, 1)))
}

// all backends, with a life each.
func all(state func(backend int) int) api.Book {
	var b api.Book
	for backend := range backends {
		b.Lives = append(b.Lives, in(state(backend), backend))
	}
	return b
}

// P11.3: how many lives and requests there may be.
func TestHowMany(t *testing.T) {
	wantMay(t, api.Book{})
	full := all(func(b int) int { return 1 + b%4 })
	wantMay(t, full)
	for backend := -1; backend <= backends; backend++ {
		for place := range backends + 1 {
			wantMayNot(t, of(slices.Insert(slices.Clone(full.Lives), place, in(active, backend))...))
		}
	}
	for n := range mostRequests + 1 {
		wantMay(t, with(full, many(0, n)...))
	}
	for _, n := range []int{mostRequests + 1, mostRequests + 2, 2 * mostRequests, 256, 356, 5000} {
		wantMayNot(t, with(full, many(0, n)...))
		wantMayNot(t, with(api.Book{}, many(0, n)...))
	}
	wantMayNot(t, of(slices.Repeat([]api.Life{in(active, 1)}, 5000)...))
	wantMay(t, with(full, many(mostRequest+1-mostRequests, mostRequests)...))
	wantMayNot(t, with(full, many(mostRequest+2-mostRequests, mostRequests)...))
}

// P11.2: the Id and the Kind alone are looked at.
func TestRequestsThatMayBe(t *testing.T) {
	for _, id := range []int{0, 1, 2, 255, 256, mostRequest - 1, mostRequest} {
		for kind := askJoin; kind <= askLeave; kind++ {
			wantMay(t, with(api.Book{}, asks(id, kind, 0, 0)))
			for _, n := range slices.Concat([]int{0, 1, 11, 12, 13}, huge, negatives) {
				wantMay(t, with(api.Book{}, answered(asks(id, kind, n, 1), 0)))
				wantMay(t, with(api.Book{}, answered(asks(id, kind, 1, n), 0)))
				wantMay(t, with(api.Book{}, answered(asks(id, kind, 1, 1), api.Errno(n))))
				wantMay(t, with(api.Book{}, answered(asks(id, kind, n, n), api.Errno(n))))
			}
		}
	}
}

func TestRequestsThatMayNotBe(t *testing.T) {
	for kind := askJoin; kind <= askLeave; kind++ {
		for _, id := range wrongIds {
			wantMayNot(t, with(api.Book{}, asks(id, kind, 1, 1)))
		}
	}
	for _, kind := range wrongKinds {
		wantMayNot(t, with(api.Book{}, asks(1, kind, 1, 1)))
	}
	wantMayNot(t, with(api.Book{}, api.Request{}))
}

// P11.3: no two requests with one Id, wherever they stand, whatever else they say.
func TestIdsDiffer(t *testing.T) {
	for a := range 6 {
		for b := range a {
			r := many(10, 6)
			r[a].Id = r[b].Id
			wantMayNot(t, with(api.Book{}, r...))
			r[a] = r[b]
			wantMayNot(t, with(of(in(active, 3)), r...))
		}
	}
	r := many(0, mostRequests)
	r[mostRequests-1].Id = 0
	wantMayNot(t, with(api.Book{}, r...))
	r[mostRequests-1].Id = mostRequest
	wantMay(t, with(api.Book{}, r...))
	for _, id := range []int{0, 7, mostRequest} {
		wantMayNot(t, with(api.Book{}, asks(id, askJoin, 1, 1), asks(id, askJoin, 1, 1)))
		wantMayNot(t, with(api.Book{}, asks(id, askJoin, 1, 1), asks(id, askLeave, 2, 0)))
	}
	slices.Reverse(r) // Ids need not rise
	wantMay(t, with(api.Book{}, r...))
}

// P11.4: what may be asked, and when.
func TestAskInRange(t *testing.T) {
	b := with(of(in(active, 3)), many(50, 4)...)
	for _, id := range []int{0, 1, 49, 54, mostRequest - 1, mostRequest} {
		for _, now := range ticks {
			for _, drain := range drainsAll {
				r := asks(id, askLeave, 3, 0)
				until := now + drain
				asking{b, r, now, drain}.want(t, with(of(one(3, drains, 4, 43, until, id)), append(many(50, 4), r)...), api.OK, true)
				r = asks(id, askJoin, 4, 1)
				asking{b, r, now, drain}.want(t, with(of(in(active, 3), one(4, joins, 1, 0, 0, 0)), append(many(50, 4), r)...), api.OK, true)
			}
		}
	}
}

func TestAskOutOfRange(t *testing.T) {
	some := with(of(in(active, 3)), many(50, 4)...)
	full := with(of(in(active, 3)), many(0, mostRequests)...)
	for _, b := range []api.Book{{}, some, full} {
		for kind := askJoin; kind <= askLeave; kind++ {
			for _, id := range wrongIds {
				asking{b, asks(id, kind, 3, 1), 5, 5}.wantNo(t, api.ErrRange)
			}
			for _, id := range []int{7, 50, mostRequest} { // 50 is in some of the books
				for _, now := range wrongNows {
					asking{b, asks(id, kind, 3, 1), now, 5}.wantNo(t, api.ErrRange)
				}
				for _, drain := range wrongDrains {
					asking{b, asks(id, kind, 3, 1), 5, drain}.wantNo(t, api.ErrRange)
				}
			}
		}
		for _, kind := range wrongKinds {
			for _, id := range []int{7, 50, -1} {
				asking{b, asks(id, kind, 3, 1), 5, 5}.wantNo(t, api.ErrRange)
				asking{b, asks(id, kind, 3, 1), -1, mostSpan + 1}.wantNo(t, api.ErrRange)
			}
		}
	}
}

// P11.4: a request that comes again has the answer that it had, and does nothing.
func TestAskAgain(t *testing.T) {
	for _, n := range []int{1, 2, 5, mostRequests - 1, mostRequests} {
		b := with(of(in(active, 0), in(joins, 1), in(drains, 2), in(retired, 3)), many(30, n)...)
		for id := 30; id < 30+n; id++ {
			for kind := askJoin; kind <= askLeave; kind++ {
				for _, backend := range []int{-1, 0, 1, 2, 3, 4, math.MaxInt} {
					for _, weight := range []int{0, 1, 9} {
						r := answered(asks(id, kind, backend, weight), api.Errno(-4))
						asking{b, r, 8, 9}.want(t, b, api.Errno(id%13), false)
					}
				}
			}
		}
	}
	for _, answer := range []api.Errno{-1, 13, 1 << 40, math.MaxInt, math.MinInt} { // an Answer may be anything
		b := with(api.Book{}, answered(asks(2, askJoin, -5, -6), answer))
		asking{b, asks(2, askLeave, 0, 0), 8, 9}.want(t, b, answer, false)
	}
}

// P11.4: in a full book there is no room for one that is new, whatever it asks.
func TestAskFull(t *testing.T) {
	full := with(of(in(active, 0), in(joins, 1), in(drains, 2), in(retired, 3)), many(30, mostRequests)...)
	for _, id := range []int{0, 29, 30 + mostRequests, mostRequest} {
		for kind := askJoin; kind <= askLeave; kind++ {
			for _, backend := range []int{-1, 0, 1, 2, 3, 4, backends, math.MinInt} {
				for _, weight := range []int{0, 1, 9} {
					asking{full, asks(id, kind, backend, weight), 8, 9}.want(t, full, api.ErrFull, false)
				}
			}
		}
	}
	last := with(of(), many(30, mostRequests-1)...)
	r := asks(5, askJoin, 2, 2)
	asking{last, r, 8, 9}.want(t, with(of(one(2, joins, 2, 0, 0, 0)), append(many(30, mostRequests-1), r)...), api.OK, true)
}

// P11.4: the bounds of AskJoin are told as its answer, and the request is kept as it came.
func TestJoinRefused(t *testing.T) {
	books := []api.Book{{}, all(func(int) int { return active }), with(of(in(retired, 0), in(joins, 11)), many(50, 3)...)}
	for _, b := range books {
		for _, backend := range wrongBackends {
			for _, weight := range []int{1, mostWeight, 0, -3} {
				r := asks(7, askJoin, backend, weight)
				asking{b, answered(r, 99), 5, 5}.want(t, with(b, answered(r, api.ErrRange)), api.ErrRange, true)
			}
		}
		for backend := range backends { // ahead of ErrTwice
			for _, weight := range wrongWeights {
				r := asks(7, askJoin, backend, weight)
				asking{b, answered(r, 99), 5, 5}.want(t, with(b, answered(r, api.ErrRange)), api.ErrRange, true)
			}
		}
	}
	for state := joins; state <= drains; state++ {
		for backend := range backends {
			for weight := 1; weight <= mostWeight; weight++ {
				b := with(all(func(int) int { return state }), many(50, 3)...)
				r := asks(7, askJoin, backend, weight)
				asking{b, answered(r, 99), 5, 5}.want(t, with(b, answered(r, api.ErrTwice)), api.ErrTwice, true)
			}
		}
	}
}

// P11.4: who joins stands at its place among the others: ahead of, between and behind them.
func TestJoinAtItsPlace(t *testing.T) {
	for set := range 1 << backends {
		if set%7 != 0 && set&(set-1) != 0 && set != 1<<backends-1 {
			continue
		}
		var b api.Book
		for backend := range backends {
			if set>>backend&1 == 1 {
				b.Lives = append(b.Lives, in(1+(backend+set)%3, backend))
			}
		}
		for backend := range backends {
			r := asks(7, askJoin, backend, 1+backend%mostWeight)
			if set>>backend&1 == 1 {
				asking{b, r, 5, 5}.want(t, with(b, answered(r, api.ErrTwice)), api.ErrTwice, true)
				continue
			}
			lives := append(slices.Clone(b.Lives), one(backend, joins, 1+backend%mostWeight, 0, 0, 0))
			slices.SortFunc(lives, func(a, b api.Life) int { return a.Backend - b.Backend })
			asking{b, r, 5, 5}.want(t, with(of(lives...), r), api.OK, true)
		}
	}
}

// P11.4: who is retired begins anew, in place of the life that was.
func TestJoinAfterRetired(t *testing.T) {
	for backend := range backends {
		for weight := 1; weight <= mostWeight; weight++ {
			b := all(func(int) int { return retired })
			want := all(func(int) int { return retired })
			want.Lives[backend] = one(backend, joins, weight, 0, 0, 0)
			r := asks(7, askJoin, backend, weight)
			asking{b, r, 5, 5}.want(t, with(want, r), api.OK, true)
		}
	}
}

// P11.4: the answers to AskRetire, and what becomes of the life; the Weight is not kept.
func TestRetire(t *testing.T) {
	for state := joins; state <= retired; state++ {
		for backend := range backends {
			for _, weight := range []int{0, 1, 8, 9, -1, math.MaxInt} {
				b := with(all(func(int) int { return state }), many(50, 3)...)
				want := with(all(func(int) int { return state }), many(50, 3)...)
				l := &want.Lives[backend]
				answer := [...]api.Errno{joins: api.OK, active: api.OK, drains: api.ErrDone, retired: api.ErrNone}[state]
				switch state {
				case joins:
					*l = one(backend, retired, l.Weight, 0, 612, 7)
				case active:
					*l = one(backend, drains, l.Weight, l.Since, 612, 7)
				}
				r := answered(asks(7, askLeave, backend, weight), 99)
				asking{b, r, 600, 12}.want(t, with(want, answered(asks(7, askLeave, backend, 0), answer)), answer, true)
			}
		}
	}
}

func TestRetireNobody(t *testing.T) {
	for _, b := range []api.Book{{}, of(in(active, 3)), of(in(active, 0), in(drains, 2), in(joins, 11))} {
		for _, backend := range append([]int{1, 4, 5, 10}, wrongBackends...) {
			r := asks(7, askLeave, backend, 3)
			asking{b, r, 5, 5}.want(t, with(b, answered(asks(7, askLeave, backend, 0), api.ErrNone)), api.ErrNone, true)
		}
	}
}

// eachBook: of four backends, each without a life or in one of the four states.
func eachBook(do func(b api.Book)) {
	at := [4]int{0, 1, 6, 11}
	for n := range 5 * 5 * 5 * 5 {
		states := [4]int{n % 5, n / 5 % 5, n / 25 % 5, n / 125}
		var b api.Book
		for i, s := range states {
			if s != 0 {
				b.Lives = append(b.Lives, in(s, at[i]))
			}
		}
		do(with(b, many(50, n%4)...))
	}
}

// P11.5: all that are Joining, and they alone.
func TestWake(t *testing.T) {
	eachBook(func(b api.Book) {
		for _, now := range ticks {
			want := with(of(slices.Clone(b.Lives)...), b.Requests...)
			var woken []int
			for i, l := range b.Lives {
				if l.State == joins {
					want.Lives[i] = one(l.Backend, active, l.Weight, now, 0, 0)
					woken = append(woken, l.Backend)
				}
			}
			wantWake(t, b, now, want, woken...)
			wantWake(t, want, 3, want)
		}
		for _, now := range wrongNows {
			wantNoWake(t, b, now, api.ErrRange)
		}
	})
	every := all(func(int) int { return joins })
	want := all(func(int) int { return joins })
	for i := range want.Lives {
		want.Lives[i].State, want.Lives[i].Since = active, mostTick
	}
	wantWake(t, every, mostTick, want, 0, 1, 2, 3, 4, 5, 6, 7, 8, 9, 10, 11)
	wantWake(t, api.Book{}, 0, api.Book{})
	wantNoWake(t, api.Book{}, -1, api.ErrRange)
}

// P11.6 and P11.7: one backend's life.
func TestFinishAndOf(t *testing.T) {
	eachBook(func(b api.Book) {
		for backend := range backends {
			i := slices.IndexFunc(b.Lives, func(l api.Life) bool { return l.Backend == backend })
			if i < 0 {
				wantOf(t, b, backend, api.Life{}, api.ErrNone)
				wantNoFinish(t, b, backend, api.ErrNone)
				continue
			}
			l := b.Lives[i]
			wantOf(t, b, backend, l, api.OK)
			if l.State != drains {
				wantNoFinish(t, b, backend, api.ErrNone)
				continue
			}
			want := with(of(slices.Clone(b.Lives)...), b.Requests...)
			want.Lives[i] = one(backend, retired, l.Weight, l.Since, l.Until, l.Request)
			wantFinish(t, b, backend, want)
			wantNoFinish(t, want, backend, api.ErrNone)
		}
		for _, backend := range wrongBackends {
			wantOf(t, b, backend, api.Life{}, api.ErrNone)
			wantNoFinish(t, b, backend, api.ErrNone)
		}
	})
}

// kept: lives by backend, and requests, kept apart from the program, by the chapter's words.
type kept struct {
	lives    [backends]api.Life // State 0: none
	requests []api.Request
}

func (k *kept) book() api.Book {
	var b api.Book
	for _, l := range k.lives {
		if l.State != 0 {
			b.Lives = append(b.Lives, l)
		}
	}
	b.Requests = slices.Clone(k.requests)
	return b
}

func keptOf(b api.Book) *kept {
	k := &kept{requests: slices.Clone(b.Requests)}
	for _, l := range b.Lives {
		k.lives[l.Backend] = l
	}
	return k
}

func (k *kept) ask(r api.Request, now, drain int) (api.Errno, bool) {
	for _, old := range k.requests {
		if old.Id == r.Id {
			return old.Answer, false
		}
	}
	if len(k.requests) >= mostRequests {
		return api.ErrFull, false
	}
	if r.Kind == askJoin {
		r.Answer = k.join(r)
	} else {
		r.Weight, r.Answer = 0, k.leave(r, now+drain)
	}
	k.requests = append(k.requests, r)
	return r.Answer, true
}

func (k *kept) join(r api.Request) api.Errno {
	if r.Backend < 0 || r.Backend > 11 || r.Weight < 1 || r.Weight > 8 {
		return api.ErrRange
	}
	if s := k.lives[r.Backend].State; s != 0 && s != retired {
		return api.ErrTwice
	}
	k.lives[r.Backend] = api.Life{Backend: r.Backend, State: joins, Weight: r.Weight}
	return api.OK
}

func (k *kept) leave(r api.Request, until int) api.Errno {
	if r.Backend < 0 || r.Backend > 11 {
		return api.ErrNone
	}
	l := &k.lives[r.Backend]
	next := map[int]int{active: drains, joins: retired}[l.State]
	if next == 0 && l.State == drains {
		return api.ErrDone
	}
	if next == 0 {
		return api.ErrNone
	}
	l.State, l.Until, l.Request = next, until, r.Id
	return api.OK
}

// P11.4: every request there is, of all kinds of books.
func TestAskOfEachBook(t *testing.T) {
	eachBook(func(b api.Book) {
		for kind := askJoin; kind <= askLeave; kind++ {
			for backend := -1; backend <= backends; backend++ {
				for _, weight := range []int{0, 1, 5, 8, 9} {
					for _, id := range []int{0, 49, 50, 51, 60} {
						k := keptOf(b)
						r := asks(id, kind, backend, weight)
						answer, fresh := k.ask(r, 77, 13)
						asking{b, r, 77, 13}.want(t, k.book(), answer, fresh)
					}
				}
			}
		}
	})
}

// step: one call that is drawn, held against what is kept.
func (k *kept) step(t *testing.T, dice *rand.Rand, b api.Book, now int) api.Book {
	t.Helper()
	backend := dice.Intn(backends+2) - 1
	switch dice.Intn(6) {
	case 0:
		var woken []int
		for i := range k.lives {
			if l := &k.lives[i]; l.State == joins {
				l.State, l.Since = active, now
				woken = append(woken, i)
			}
		}
		wantWake(t, b, now, k.book(), woken...)
		b, _, _ = Wake(b, now)
	case 1:
		if backend < 0 || backend >= backends || k.lives[backend].State != drains {
			wantNoFinish(t, b, backend, api.ErrNone)
			return b
		}
		k.lives[backend].State = retired
		wantFinish(t, b, backend, k.book())
		b, _ = Finish(b, backend)
	default:
		r := asks(dice.Intn(150), 1+dice.Intn(2), backend, dice.Intn(10))
		drain := dice.Intn(mostSpan + 1)
		answer, fresh := k.ask(r, now, drain)
		asking{b, r, now, drain}.want(t, k.book(), answer, fresh)
		b, _, _, _ = Ask(b, r, now, drain)
	}
	return b
}

// Books that come of drawn calls may always be, and are what the chapter's words make of them.
func TestDrawn(t *testing.T) {
	dice := rand.New(rand.NewSource(11))
	full := 0
	for range 40 {
		var b api.Book
		k := &kept{}
		now := dice.Intn(2) * (mostTick - 300)
		for range 300 {
			b = k.step(t, dice, b, now)
			if e := Check(b); e != api.OK {
				t.Fatalf("%+v may not be: %v", b, e)
			}
			for backend, l := range k.lives {
				want := api.OK
				if l.State == 0 {
					want = api.ErrNone
				}
				wantOf(t, b, backend, l, want)
			}
			now += dice.Intn(2)
		}
		if len(b.Requests) == mostRequests {
			full++
		}
	}
	if full < 10 {
		t.Errorf("only %d of the books were full", full)
	}
}

// What comes of it: a request that comes again is answered as it was, and does nothing, however long ago it came.
func TestAgainDoesNothing(t *testing.T) {
	dice := rand.New(rand.NewSource(12))
	for range 10 {
		var b api.Book
		var answers []api.Errno
		for id := range mostRequests {
			r := asks(id, 1+dice.Intn(2), dice.Intn(5), 1+dice.Intn(9))
			next, answer, fresh, e := Ask(b, r, id, 3)
			if !fresh || e != api.OK {
				t.Fatalf("Ask(%+v): %v, %v", r, fresh, e)
			}
			answers = append(answers, answer)
			if b = next; dice.Intn(3) == 0 {
				b, _, _ = Wake(b, id)
			}
			if done, e := Finish(b, dice.Intn(5)); e == api.OK {
				b = done
			}
			for old, answer := range answers {
				again := asks(old, 1+dice.Intn(2), dice.Intn(12), dice.Intn(9))
				asking{b, again, id, 3}.want(t, b, answer, false)
			}
		}
	}
}

// roomy: a book with spare room that is filled with the same numbers each time.
func roomy(b api.Book) api.Book {
	lives := append(make([]api.Life, 0, len(b.Lives)+5), b.Lives...)
	scribble(lives[len(lives):], one(-1, -2, -3, -4, -5, -6))
	requests := append(make([]api.Request, 0, len(b.Requests)+5), b.Requests...)
	scribble(requests[len(requests):], asks(-1, -2, -3, -4))
	return api.Book{Lives: lives, Requests: requests}
}

// whole book, its spare room, too.
func whole(b api.Book) api.Book {
	return api.Book{Lives: slices.Clone(b.Lives[:cap(b.Lives)]), Requests: slices.Clone(b.Requests[:cap(b.Requests)])}
}

// scribble over a list and its spare room.
func scribble[E any](l []E, with E) {
	for i := range l[:cap(l)] {
		l[:cap(l)][i] = with
	}
}

func scribbleBook(b api.Book, n int) {
	scribble(b.Lives, one(n, n, n, n, n, n))
	scribble(b.Requests, asks(n, n, n, n))
}

// calls of all kinds, some of which are refused.
var calls = []func(b api.Book) (api.Book, []int){
	func(b api.Book) (api.Book, []int) {
		got, _, _, _ := Ask(b, asks(7, askJoin, 3, 4), 5, 5)
		return got, nil
	},
	func(b api.Book) (api.Book, []int) {
		got, _, _, _ := Ask(b, asks(7, askJoin, 11, 4), 5, 5)
		return got, nil
	},
	func(b api.Book) (api.Book, []int) {
		got, _, _, _ := Ask(b, asks(7, askLeave, 0, 4), 5, 5)
		return got, nil
	},
	func(b api.Book) (api.Book, []int) {
		got, _, _, _ := Ask(b, asks(7, askLeave, 6, 4), 5, 5)
		return got, nil
	},
	func(b api.Book) (api.Book, []int) {
		got, _, _, _ := Ask(b, asks(7, askJoin, 30, 4), 5, 5)
		return got, nil
	},
	func(b api.Book) (api.Book, []int) {
		got, _, _, _ := Ask(b, asks(50, askJoin, 3, 4), 5, 5)
		return got, nil
	},
	func(b api.Book) (api.Book, []int) { got, _, _, _ := Ask(b, asks(7, 3, 3, 4), 5, 5); return got, nil },
	func(b api.Book) (api.Book, []int) { got, l, _ := Wake(b, 5); return got, l },
	func(b api.Book) (api.Book, []int) { got, l, _ := Wake(b, -5); return got, l },
	func(b api.Book) (api.Book, []int) { got, _ := Finish(b, 6); return got, nil },
	func(b api.Book) (api.Book, []int) { got, _ := Finish(b, 3); return got, nil },
	func(b api.Book) (api.Book, []int) { Of(b, 6); Check(b); return api.Book{}, nil },
}

// No call changes the book that it was given, nor its spare room; what it answers has memory of its own.
func TestNothingShared(t *testing.T) {
	full := with(of(in(active, 0), in(joins, 1), in(drains, 6)), many(30, mostRequests)...)
	wrong := with(of(in(active, 6), in(joins, 1)), many(30, 3)...)
	check := func(b api.Book) {
		for i, call := range calls {
			given := roomy(b)
			before := whole(given)
			first, woken := call(given)
			if !same(whole(given), before) {
				t.Fatalf("call %d changed its book: %+v", i, b)
			}
			second, again := call(given)
			if !same(first, second) || !slices.Equal(woken, again) {
				t.Fatalf("call %d answers otherwise the second time: %+v", i, b)
			}
			stays, told := with(of(slices.Clone(second.Lives)...), second.Requests...), slices.Clone(again)
			scribbleBook(first, -8)
			scribble(woken, -8)
			if !same(whole(given), before) || !same(second, stays) || !slices.Equal(again, told) {
				t.Fatalf("call %d: what it answers shares memory: %+v", i, b)
			}
			scribbleBook(given, -9)
			if !same(second, stays) || !slices.Equal(again, told) {
				t.Fatalf("call %d keeps its book: %+v", i, b)
			}
		}
	}
	eachBook(check)
	check(full)
	check(wrong)
	check(api.Book{})
}

// Lists without elements may be nil or not.
func TestNilOrNot(t *testing.T) {
	for _, b := range []api.Book{{}, {Lives: []api.Life{}}, {Requests: []api.Request{}}, {Lives: []api.Life{}, Requests: []api.Request{}}} {
		wantMay(t, b)
		r := asks(1, askJoin, 2, 3)
		asking{b, r, 0, 5}.want(t, with(of(one(2, joins, 3, 0, 0, 0)), r), api.OK, true)
		wantWake(t, b, 5, api.Book{})
		wantNoFinish(t, b, 0, api.ErrNone)
		wantOf(t, b, 0, api.Life{}, api.ErrNone)
	}
}

// Nothing is kept: what was asked of one book says nothing of another.
func TestNothingIsKept(t *testing.T) {
	r := asks(1, askJoin, 2, 3)
	for range 3 {
		asking{api.Book{}, r, 0, 5}.want(t, with(of(one(2, joins, 3, 0, 0, 0)), r), api.OK, true)
		asking{of(in(active, 2)), r, 0, 5}.want(t, with(of(in(active, 2)), answered(r, api.ErrTwice)), api.ErrTwice, true)
		wantOf(t, api.Book{}, 2, api.Life{}, api.ErrNone)
	}
}
