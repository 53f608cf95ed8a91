package core

import (
	"testing"

	"usher/api"
)

func joinRequest(id, backend, weight int, answer api.Errno) api.Request {
	return api.Request{Id: id, Kind: api.AskJoin, Backend: backend, Weight: weight, Answer: answer}
}

func retireRequest(id, backend int, answer api.Errno) api.Request {
	return api.Request{Id: id, Kind: api.AskRetire, Backend: backend, Answer: answer}
}

// keep a request behind the others.
func keep(w *api.World, r api.Request) { w.Book.Requests = append(w.Book.Requests, r) }

// P12.10: a Join that is new, with each answer; who joins has no spots yet, and keeps its Health till it is Active.
func TestJoin(t *testing.T) {
	w := peopled() // 1 and 2 are Active, 4 is Draining, 5 Joining, 6 Retired
	w.Health[0] = api.Health{Marks: []bool{true}, Out: true, Until: 130, Times: 2}
	w.Health[6] = api.Health{Marks: []bool{true}, Times: 2}
	for weight := 1; weight <= 8; weight++ {
		first := led(w, func(w *api.World) {
			w.Book.Lives = append(lives(joins(0, weight)), w.Book.Lives...)
			keep(w, joinRequest(30, 0, weight, api.OK))
		})
		wantDo(t, w, asksJoin(30, 0, weight), first, reply(30, api.OK))
		last := led(w, func(w *api.World) {
			w.Book.Lives = append(w.Book.Lives, joins(11, weight))
			keep(w, joinRequest(30, 11, weight, api.OK))
		})
		wantDo(t, w, asksJoin(30, 11, weight), last, reply(30, api.OK))
		anew := led(w, func(w *api.World) {
			*lifeIn(w, 6) = joins(6, weight)
			keep(w, joinRequest(30, 6, weight, api.OK))
		})
		wantDo(t, w, asksJoin(30, 6, weight), anew, reply(30, api.OK))
		for _, b := range []int{1, 2, 4, 5} {
			twice := changed(w, func(w *api.World) { keep(w, joinRequest(30, b, weight, api.ErrTwice)) })
			wantDo(t, w, asksJoin(30, b, weight), twice, reply(30, api.ErrTwice))
		}
	}
	for _, id := range []int{0, 1 << 20} {
		want := led(w, func(w *api.World) {
			w.Book.Lives = append(w.Book.Lives, joins(11, 2))
			keep(w, joinRequest(id, 11, 2, api.OK))
		})
		wantDo(t, w, asksJoin(id, 11, 2), want, reply(id, api.OK))
	}
}

// P12.10: a request that comes again is answered as it was, be it of the other kind, and nothing more comes of it.
func TestAskAgain(t *testing.T) {
	w := peopled()
	w.Book.Requests = []api.Request{
		joinRequest(3, 1, 2, api.OK), retireRequest(9, 4, api.OK), retireRequest(1, 11, api.ErrNone),
		joinRequest(50, 2, 2, api.ErrTwice), retireRequest(51, 4, api.ErrDone), retireRequest(52, 1, api.OK), joinRequest(53, 1, 1, 99),
	}
	for _, r := range w.Book.Requests {
		for backend := range backends {
			wantDo(t, w, asksJoin(r.Id, backend, 1), w, reply(r.Id, r.Answer))
			wantDo(t, w, asksRetire(r.Id, backend), w, reply(r.Id, r.Answer))
		}
	}
}

// P12.10: a book that is full takes nothing new, and nothing comes of it.
func TestAskFull(t *testing.T) {
	w := peopled()
	for id := 200; len(w.Book.Requests) < 100; id++ {
		keep(&w, joinRequest(id, 1, 1, api.ErrTwice))
	}
	for backend := range backends {
		wantDo(t, w, asksJoin(30, backend, 1), w, reply(30, api.ErrFull))
		wantDo(t, w, asksRetire(30, backend), w, reply(30, api.ErrFull))
		wantDo(t, w, asksRetire(200, backend), w, reply(200, api.ErrTwice))
	}
	w.Book.Requests = w.Book.Requests[:99]
	want := led(w, func(w *api.World) {
		*lifeIn(w, 5) = retired(5, 8, 0, 130, 30)
		keep(w, retireRequest(30, 5, api.OK))
	})
	wantDo(t, w, asksRetire(30, 5), want, reply(30, api.OK), gone(5, 30))
}

// P12.10: a Retire that is new, with each answer, of lives in each state.
func TestRetire(t *testing.T) {
	w := peopled()
	drain := led(w, func(w *api.World) { // with flows
		*lifeIn(w, 1) = drains(1, 2, 40, 130, 30)
		keep(w, retireRequest(30, 1, api.OK))
	})
	wantDo(t, w, asksRetire(30, 1), drain, reply(30, api.OK))
	never := led(w, func(w *api.World) {
		*lifeIn(w, 5) = retired(5, 8, 0, 130, 30)
		keep(w, retireRequest(30, 5, api.OK))
	})
	wantDo(t, w, asksRetire(30, 5), never, reply(30, api.OK), gone(5, 30))
	done := changed(w, func(w *api.World) { keep(w, retireRequest(30, 4, api.ErrDone)) })
	wantDo(t, w, asksRetire(30, 4), done, reply(30, api.ErrDone))
	for _, b := range []int{0, 3, 6, 7, 11} {
		none := changed(w, func(w *api.World) { keep(w, retireRequest(30, b, api.ErrNone)) })
		wantDo(t, w, asksRetire(30, b), none, reply(30, api.ErrNone))
	}
}

// P12.10: an Active backend without a flow is gone at once.
func TestRetireWithoutFlows(t *testing.T) {
	for _, backend := range []int{0, 3, 11} {
		for _, f := range [][]api.Flow{nil, {waits(0, 0, 9, 7, 60)}} { // 0 is also the Backend of a free slot
			l := lives(active(7, 1, 0), active(backend, 5, 20))
			if backend < 7 {
				l[0], l[1] = l[1], l[0]
			}
			w := made(config(), 50, l, f...)
			w.Health[backend] = api.Health{Marks: []bool{true}, Out: true, Until: 77, Times: 1}
			want := led(w, func(w *api.World) {
				*lifeIn(w, backend) = retired(backend, 5, 20, 80, 30)
				keep(w, retireRequest(30, backend, api.OK))
			})
			wantDo(t, w, asksRetire(30, backend), want, reply(30, api.OK), gone(backend, 30))
		}
	}
}

// P12.10: with Drain: Until is Now and Drain, together.
func TestRetireWithDrain(t *testing.T) {
	f := serves(waits(0, 0, 9, 3, 60))
	for _, ticks := range []int{1, 2, 499, 500} {
		c := config()
		c.Drain = ticks
		w := made(c, 50, lives(active(3, 5, 20), joins(4, 1)), f)
		want := led(w, func(w *api.World) {
			*lifeIn(w, 3) = drains(3, 5, 20, 50+ticks, 30)
			keep(w, retireRequest(30, 3, api.OK))
		})
		wantDo(t, w, asksRetire(30, 3), want, reply(30, api.OK))
		want = led(w, func(w *api.World) {
			*lifeIn(w, 4) = retired(4, 1, 0, 50+ticks, 30)
			keep(w, retireRequest(30, 4, api.OK))
		})
		wantDo(t, w, asksRetire(30, 4), want, reply(30, api.OK), gone(4, 30))
	}
	late := at(made(config(), 50, lives(active(3, 5, 0)), f), finalTick)
	want := led(late, func(w *api.World) {
		*lifeIn(w, 3) = drains(3, 5, 0, finalTick+30, 1<<20)
		keep(w, retireRequest(1<<20, 3, api.OK))
	})
	wantDo(t, late, asksRetire(1<<20, 3), want, reply(1<<20, api.OK))
}

// P12.10: one that is retired comes again, and goes again, as another request asks.
func TestComeAndGoAgain(t *testing.T) {
	w := begun(config())
	for round := range 10 {
		next, out, _ := Do(w, asksJoin(2*round, 3, 1+round%8))
		if len(out) != 1 || out[0] != reply(2*round, api.OK) || lifeIn(&next, 3).State != api.Joining || len(next.Ring.Spots) != 0 {
			t.Fatalf("round %d: %+v, %+v", round, out, next.Book)
		}
		w = next
		if round%2 == 0 {
			w, _, _ = Do(w, tick)
			if n := len(w.Ring.Spots); n != 4*(1+round%8) {
				t.Fatalf("round %d: %d spots", round, n)
			}
		}
		next, out, _ = Do(w, asksRetire(2*round+1, 3))
		if len(out) != 2 || out[0] != reply(2*round+1, api.OK) || out[1] != gone(3, 2*round+1) || lifeIn(&next, 3).State != api.Retired || len(next.Ring.Spots) != 0 {
			t.Fatalf("round %d: %+v, %+v", round, out, next.Book)
		}
		w = next
	}
}
