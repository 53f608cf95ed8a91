package core

import (
	"math/rand"
	"slices"
	"testing"

	"usher/api"
)

// model of a gate, by the chapters' words, with nothing of the program in it. Lives, healths and flows stand by their numbers; a life of the State 0 is none.
type model struct {
	c        api.Config
	now      int
	gens     []int
	flows    [api.MaxFlows]*api.Flow
	lives    [backends]api.Life
	requests []api.Request
	health   [backends]api.Health
	tokens   int
	out      []api.Output
	thrown   int
}

func modelOf(w api.World) *model {
	w = copied(w)
	m := &model{c: w.Config, now: w.Now, requests: w.Book.Requests, tokens: w.Bucket.Tokens}
	for _, s := range w.Table.Slots {
		m.gens = append(m.gens, s.Gen)
	}
	for i := range w.Flows {
		m.flows[w.Flows[i].Handle.Slot] = &w.Flows[i]
	}
	for _, l := range w.Book.Lives {
		m.lives[l.Backend] = l
	}
	copy(m.health[:], w.Health)
	return m
}

func (m *model) world() api.World {
	w := api.World{Config: m.c, Now: m.now, Health: m.health[:], Bucket: api.Bucket{Tokens: m.tokens}}
	for slot, gen := range m.gens {
		w.Table.Slots = append(w.Table.Slots, api.Slot{Gen: gen})
		if f := m.flows[slot]; f != nil {
			w.Flows = append(w.Flows, *f)
		}
	}
	for _, l := range m.lives {
		if l.State != 0 {
			w.Book.Lives = append(w.Book.Lives, l)
		}
	}
	w.Book.Requests = m.requests
	follow(&w)
	return copied(w)
}

func (m *model) tell(o api.Output) { m.out = append(m.out, o) }

// count the flows of a backend, but for one.
func (m *model) count(backend int, but *api.Flow) int {
	n := 0
	for _, f := range m.flows {
		if f != nil && f != but && f.Backend == backend {
			n++
		}
	}
	return n
}

// choose, as P12.5, P4.5, P6.1, P7.1 and P8.1 say; -1: nobody.
func (m *model) choose(key int, but *api.Flow) int {
	weights, total, flows := map[int]int{}, 0, 0
	for b, l := range m.lives {
		flows += m.count(b, but)
		if l.State != api.Active || m.health[b].Out {
			continue
		}
		weights[b] = l.Weight
		if gone := m.now - l.Since; gone < m.c.Warm {
			weights[b] = max(1, l.Weight*gone/m.c.Warm)
		}
		total += weights[b]
	}
	room := func(b int) bool { // below the cap: flows * den * total < num * (flows + 1) * weight
		return weights[b] > 0 && m.count(b, but)*m.c.Den*total < m.c.Num*(flows+1)*weights[b]
	}
	tries := m.c.Tries
	for _, b := range walkOf(m.lives[:], key) {
		if weights[b] == 0 {
			continue
		}
		if tries == 0 {
			break
		}
		if tries--; room(b) {
			return b
		}
	}
	best := -1
	for b := range backends {
		if room(b) && (best < 0 || m.count(b, but)*weights[best] < m.count(best, but)*weights[b]) {
			best = b
		}
	}
	return best
}

func (m *model) open(key int) {
	slot := 0
	for slot < len(m.gens) && (m.flows[slot] != nil || m.gens[slot] == mostGen) {
		slot++
	}
	if slot == len(m.gens) {
		m.tell(codeOut(api.Refuse, api.ErrFull))
		return
	}
	b := m.choose(key, nil)
	if b < 0 {
		m.tell(codeOut(api.Refuse, api.ErrBusy))
		return
	}
	f := waits(slot, m.gens[slot], key, b, m.now+m.c.Connect)
	m.flows[slot] = &f
	m.tokens = min(m.tokens+m.c.Budget.Num, m.c.Budget.Burst*m.c.Budget.Den)
	m.tell(outOf(api.Accept, f))
}

// handled: Data, Close and Answer.
func (m *model) handled(e api.Event) {
	if e.Slot >= len(m.gens) {
		m.tell(codeOut(api.Bad, api.ErrNone))
		return
	}
	f := m.flows[e.Slot]
	if f == nil || f.Handle.Gen != e.Gen {
		m.tell(codeOut(api.Bad, api.ErrStale))
		return
	}
	if e.Kind == api.Close {
		m.end(f, api.Closed, 0)
		return
	}
	if e.Kind == api.Data {
		m.tell(outOf(api.Forward, *f))
		if f.Serving {
			f.Due = m.now + m.c.Idle
		}
		return
	}
	if f.Serving {
		m.tell(codeOut(api.Bad, api.ErrTwice))
		return
	}
	if !e.Good {
		m.fail(f, api.WhyFailed)
		return
	}
	m.note(f.Backend, false)
	f.Serving, f.Due = true, m.now+m.c.Idle
	m.tell(outOf(api.Serve, *f))
}

func (m *model) note(b int, failed bool) {
	h := &m.health[b]
	h.Marks = append(slices.Clone(h.Marks), failed)
	if len(h.Marks) > m.c.Watch.Window {
		h.Marks = h.Marks[1:]
	}
	out, all := 0, 0
	for i, l := range m.lives {
		if l.State == api.Active {
			all++
			if m.health[i].Out {
				out++
			}
		}
	}
	n := 0
	for _, is := range h.Marks {
		if is {
			n++
		}
	}
	if h.Out || m.lives[b].State != api.Active || n < m.c.Watch.Fails || 100*(out+1) > m.c.Most*all {
		return
	}
	hold := m.c.Watch.Hold
	for range h.Times {
		hold *= 2
	}
	*h = api.Health{Out: true, Until: m.now + min(hold, mostSpan), Times: min(h.Times+1, 10)}
	m.thrown++
}

func (m *model) fail(f *api.Flow, why int) {
	m.note(f.Backend, true)
	if f.Retries == m.c.Retries || m.tokens < m.c.Budget.Den {
		m.end(f, api.Reset, why)
		return
	}
	b := m.choose(f.Key, f)
	if b < 0 {
		m.end(f, api.Reset, api.WhyNobody)
		return
	}
	m.tokens -= m.c.Budget.Den
	left := f.Backend
	f.Backend, f.Retries, f.Due = b, f.Retries+1, m.now+m.c.Connect
	m.tell(outOf(api.Again, *f))
	m.drained(left)
}

func (m *model) end(f *api.Flow, kind, why int) {
	m.flows[f.Handle.Slot] = nil
	m.gens[f.Handle.Slot]++
	o := resetOf(*f, why)
	o.Kind = kind
	m.tell(o)
	m.drained(f.Backend)
}

func (m *model) drained(b int) {
	if l := &m.lives[b]; l.State == api.Draining && m.count(b, nil) == 0 {
		l.State = api.Retired
		m.tell(gone(b, l.Request))
	}
}

// ask: P12.10 and P11.4.
func (m *model) ask(e api.Event) {
	l := &m.lives[e.Backend]
	r := api.Request{Id: e.Request, Kind: e.Kind - api.Join + api.AskJoin, Backend: e.Backend, Weight: e.Weight}
	for _, old := range m.requests {
		if old.Id == r.Id {
			m.tell(reply(r.Id, old.Answer))
			return
		}
	}
	if len(m.requests) == 100 {
		m.tell(reply(r.Id, api.ErrFull))
		return
	}
	was := l.State
	switch {
	case e.Kind == api.Join && was != 0 && was != api.Retired:
		r.Answer = api.ErrTwice
	case e.Kind == api.Join:
		*l = joins(e.Backend, e.Weight)
	case was == 0 || was == api.Retired:
		r.Answer = api.ErrNone
	case was == api.Draining:
		r.Answer = api.ErrDone
	default:
		l.State, l.Until, l.Request = api.Draining, m.now+m.c.Drain, r.Id
	}
	m.requests = append(m.requests, r)
	m.tell(reply(r.Id, r.Answer))
	if e.Kind == api.Retire && r.Answer == api.OK && was == api.Joining {
		l.State = api.Retired
		m.tell(gone(e.Backend, e.Request))
	}
	m.drained(e.Backend)
}

func (m *model) tick() {
	m.now++
	for b := range m.lives {
		if l := &m.lives[b]; l.State == api.Joining {
			l.State, l.Since = api.Active, m.now
			m.health[b] = api.Health{}
		}
	}
	for b := range m.health {
		if h := &m.health[b]; h.Out && h.Until <= m.now {
			h.Out, h.Until = false, 0
		}
	}
	for _, f := range m.flows {
		switch {
		case f == nil || f.Due != m.now:
		case f.Serving:
			m.end(f, api.Reset, api.WhyIdle)
		default:
			m.fail(f, api.WhyConnect)
		}
	}
	for b := range m.lives {
		for _, f := range m.flows {
			if l := m.lives[b]; f != nil && f.Backend == b && l.State == api.Draining && l.Until <= m.now {
				m.end(f, api.Reset, api.WhyDrain)
			}
		}
	}
}

// do an event that may come.
func (m *model) do(e api.Event) []api.Output {
	m.out = nil
	switch e.Kind {
	case api.Open:
		m.open(e.Key)
	case api.Join, api.Retire:
		m.ask(e)
	case api.Tick:
		m.tick()
	default:
		m.handled(e)
	}
	return m.out
}

func oneOf(dice *rand.Rand, l ...int) int { return l[dice.Intn(len(l))] }

// drawnConfig: small numbers mostly, so that much happens.
func drawnConfig(dice *rand.Rand) api.Config {
	wait := func() int { return oneOf(dice, 1, 1+dice.Intn(6), 1+dice.Intn(20), 1+dice.Intn(500)) }
	num := 1 + dice.Intn(oneOf(dice, 2, 5, 20))
	window := 1 + dice.Intn(oneOf(dice, 4, 16))
	return api.Config{
		Flows: oneOf(dice, 1+dice.Intn(6), 1+dice.Intn(40)), Num: num, Den: 1 + dice.Intn(num), Tries: dice.Intn(oneOf(dice, 4, 13)),
		Warm: oneOf(dice, 0, dice.Intn(10), dice.Intn(501)), Drain: wait(), Idle: wait(), Connect: wait(),
		Retries: dice.Intn(oneOf(dice, 3, 21)), Most: oneOf(dice, 0, 50, 100, dice.Intn(101)),
		Budget: api.Budget{Num: dice.Intn(oneOf(dice, 3, 21)), Den: 1 + dice.Intn(oneOf(dice, 2, 20)), Burst: dice.Intn(oneOf(dice, 4, 21))},
		Watch:  api.Watch{Window: window, Fails: 1 + dice.Intn(window), Hold: wait()},
	}
}

func drawnKey(dice *rand.Rand) int { return oneOf(dice, dice.Intn(1000), dice.Intn(1<<32), 0, 1<<32-1) }

// drawnLife: State 0 is none.
func drawnLife(dice *rand.Rand, backend, now int) api.Life {
	weight, since := 1+dice.Intn(8), now-min(now, dice.Intn(oneOf(dice, 3, 30, 1000)))
	switch dice.Intn(6) {
	case 0:
		return joins(backend, weight)
	case 1:
		return retired(backend, weight, since, dice.Intn(mostTick), dice.Intn(1<<20))
	case 2:
		return drains(backend, weight, since, now+1+dice.Intn(oneOf(dice, 2, 20)), dice.Intn(1<<20))
	case 3:
		return api.Life{}
	}
	return active(backend, weight, since)
}

func drawnHealth(dice *rand.Rand, c api.Config, now int) api.Health {
	h := api.Health{Times: dice.Intn(11)}
	for range dice.Intn(c.Watch.Window + 1) {
		h.Marks = append(h.Marks, dice.Intn(2) == 0)
	}
	if dice.Intn(4) == 0 {
		h.Out, h.Until = true, now+1+dice.Intn(oneOf(dice, 2, 500))
	}
	return h
}

// drawnWorld that may be, whether it can come of events or not.
func drawnWorld(dice *rand.Rand) api.World {
	m := &model{c: drawnConfig(dice)}
	m.now = oneOf(dice, 0, dice.Intn(1000), dice.Intn(finalTick), finalTick-1, finalTick)
	var takes []int
	leaving := dice.Intn(8) == 0
	for b := range backends {
		m.health[b] = drawnHealth(dice, m.c, m.now)
		l := drawnLife(dice, b, m.now)
		if l.State == api.Active && leaving {
			l = drains(b, l.Weight, l.Since, m.now+1+dice.Intn(20), b)
		}
		if m.lives[b] = l; l.State == api.Active || l.State == api.Draining {
			takes = append(takes, b)
		}
	}
	for slot := range m.c.Flows {
		gen := oneOf(dice, 0, dice.Intn(5), mostGen-1, dice.Intn(mostGen))
		if len(takes) > 0 && dice.Intn(3) > 0 {
			f := tried(waits(slot, gen, drawnKey(dice), oneOf(dice, takes...), m.now+1+dice.Intn(oneOf(dice, 1, 3, 500))), dice.Intn(m.c.Retries+1))
			f.Serving = dice.Intn(3) == 0
			m.flows[slot] = &f
		} else if dice.Intn(4) == 0 {
			gen = mostGen
		}
		m.gens = append(m.gens, gen)
	}
	for b := range m.lives {
		m.drained(b)
	}
	for id := range oneOf(dice, 0, 3, 98, 99, 100) {
		m.requests = append(m.requests, api.Request{Id: 7 * id, Kind: 1 + id%2, Backend: dice.Intn(12), Weight: dice.Intn(9), Answer: api.Errno(dice.Intn(13))})
	}
	m.tokens = dice.Intn(m.c.Budget.Burst*m.c.Budget.Den + 1)
	return m.world()
}

// drawnEvent that may come: its handle is mostly a good one.
func drawnEvent(dice *rand.Rand, w api.World) api.Event {
	e := api.Event{Kind: oneOf(dice, api.Open, api.Open, api.Open, api.Data, api.Close, api.Answer, api.Answer, api.Answer, api.Join, api.Retire, api.Tick, api.Tick, api.Tick)}
	switch e.Kind {
	case api.Open:
		e.Key = drawnKey(dice)
	case api.Join, api.Retire:
		e.Request, e.Backend = dice.Intn(1000), dice.Intn(12)
		if e.Kind == api.Join {
			e.Weight = 1 + dice.Intn(8)
		}
	case api.Data, api.Close, api.Answer:
		e.Slot, e.Gen = dice.Intn(40), dice.Intn(4)
		if len(w.Flows) > 0 && dice.Intn(5) > 0 {
			h := w.Flows[dice.Intn(len(w.Flows))].Handle
			e.Slot, e.Gen = h.Slot, h.Gen
		}
		e.Good = e.Kind == api.Answer && dice.Intn(2) == 0
	}
	return e
}

// seen: how often there was what.
type seen struct {
	kinds  [11]int
	whys   [6]int
	thrown int
	same   int // again at the same backend
	left   int // again, and gone behind it
	most   int // outputs of one event
}

func (s *seen) look(before api.World, out []api.Output) {
	s.most = max(s.most, len(out))
	for i, o := range out {
		s.kinds[o.Kind]++
		s.whys[o.Why]++
		if o.Kind == api.Again && flowIn(&before, o.Slot).Backend == o.Backend {
			s.same++
		}
		if i > 0 && o.Kind == api.Gone && out[i-1].Kind == api.Again {
			s.left++
		}
	}
}

// step: one event, of which the program must make what the model makes.
func (s *seen) step(t *testing.T, w api.World, e api.Event) api.World {
	t.Helper()
	if w.Now == finalTick && e == tick {
		wantNo(t, w, e, api.ErrFull)
		return w
	}
	m := modelOf(w)
	out := m.do(e)
	s.thrown += m.thrown
	s.look(w, out)
	want := m.world()
	wantDo(t, w, e, want, out...)
	return want
}

// enough: was there enough of everything?
func (s *seen) enough(t *testing.T) {
	t.Helper()
	for kind, n := range s.kinds[1:] {
		if n < 50 {
			t.Errorf("only %d outputs of the kind %d", n, kind+1)
		}
	}
	for why, n := range s.whys[1:] {
		if n < 20 {
			t.Errorf("only %d resets for the why %d", n, why+1)
		}
	}
	if s.thrown < 50 || s.same < 50 || s.left < 10 || s.most < 3 {
		t.Errorf("only %d were thrown out, %d went to the same backend, %d were the last of a drain, %d outputs at most", s.thrown, s.same, s.left, s.most)
	}
}

// Gates from their beginning on, and worlds of all kinds, are what the chapters' words make of them.
func TestDrawnGates(t *testing.T) {
	dice := rand.New(rand.NewSource(12))
	s := &seen{}
	for range 60 {
		w, err := Begin(drawnConfig(dice))
		if err != api.OK {
			t.Fatal(err)
		}
		for b := range 1 + dice.Intn(backends) {
			w = s.step(t, w, asksJoin(2000+b, b, 1+dice.Intn(8)))
		}
		for range 250 {
			w = s.step(t, w, drawnEvent(dice, w))
		}
	}
	s.enough(t)
}

func TestDrawnWorlds(t *testing.T) {
	dice := rand.New(rand.NewSource(13))
	s := &seen{}
	for range 4000 {
		w := drawnWorld(dice)
		wantMay(t, "drawn", w)
		for range 5 {
			w = s.step(t, w, drawnEvent(dice, w))
		}
	}
	s.enough(t)
}

// What a world may not have: one number of a drawn one is changed, and it is refused, or else the model makes the same of it.
func TestDrawnWorldsWithOneChange(t *testing.T) {
	dice := rand.New(rand.NewSource(14))
	refused, taken := 0, 0
	for range 3000 {
		w := drawnWorld(dice)
		numbers := numbersOf(&w)
		n := numbers[dice.Intn(len(numbers))]
		*n += oneOf(dice, -1, 1, -2, 2, 500, -500, 1<<40, -1<<40)
		e := drawnEvent(dice, w)
		if !told(w) {
			wantNo(t, w, e, api.ErrState)
			refused++
		} else if e != tick {
			m := modelOf(w)
			out := m.do(e)
			wantDo(t, w, e, m.world(), out...)
			taken++
		}
	}
	if refused < 500 || taken < 50 {
		t.Errorf("%d worlds were refused, %d were taken", refused, taken)
	}
}

// numbersOf a world: all of them, to be changed.
func numbersOf(w *api.World) []*int {
	c := &w.Config
	l := []*int{
		&c.Flows, &c.Num, &c.Den, &c.Tries, &c.Warm, &c.Drain, &c.Idle, &c.Connect, &c.Retries, &c.Most,
		&c.Budget.Num, &c.Budget.Den, &c.Budget.Burst, &c.Watch.Window, &c.Watch.Fails, &c.Watch.Hold, &w.Now, &w.Bucket.Tokens, &w.Wheel.Now,
	}
	for i := range w.Table.Slots {
		s := &w.Table.Slots[i]
		l = append(l, &s.Gen, &s.Key, &s.Backend)
	}
	for i := range w.Flows {
		f := &w.Flows[i]
		l = append(l, &f.Handle.Slot, &f.Handle.Gen, &f.Key, &f.Backend, &f.Retries, &f.Due)
	}
	for i := range w.Book.Lives {
		b := &w.Book.Lives[i]
		l = append(l, &b.Backend, &b.State, &b.Weight, &b.Since, &b.Until, &b.Request)
	}
	for i := range w.Book.Requests[:min(3, len(w.Book.Requests))] {
		r := &w.Book.Requests[i]
		l = append(l, &r.Id, &r.Kind, &r.Backend, &r.Weight)
	}
	for i := range w.Health {
		l = append(l, &w.Health[i].Until, &w.Health[i].Times)
	}
	for i := range w.Ring.Spots[:min(3, len(w.Ring.Spots))] {
		l = append(l, &w.Ring.Spots[i].Hash, &w.Ring.Spots[i].Backend)
	}
	for _, timers := range w.Wheel.Lists {
		for i := range timers {
			l = append(l, &timers[i].At, &timers[i].Id)
		}
	}
	return l
}

func among(n, low, high int) bool { return low <= n && n <= high }

// told: may the world be, by the chapters' words? Of lists whose length is right.
func told(w api.World) bool {
	c := w.Config
	right := among(c.Flows, 1, 40) && among(c.Den, 1, c.Num) && c.Num <= 20 && among(c.Tries, 0, 12) && among(c.Warm, 0, 500) &&
		among(c.Drain, 1, 500) && among(c.Idle, 1, 500) && among(c.Connect, 1, 500) && among(c.Retries, 0, 20) && among(c.Most, 0, 100) &&
		among(c.Budget.Num, 0, 20) && among(c.Budget.Den, 1, 20) && among(c.Budget.Burst, 0, 20) &&
		among(c.Watch.Window, 1, 16) && among(c.Watch.Fails, 1, c.Watch.Window) && among(c.Watch.Hold, 1, 500)
	if !right || !among(w.Now, 0, finalTick) || !among(w.Bucket.Tokens, 0, c.Budget.Den*c.Budget.Burst) || len(w.Table.Slots) != c.Flows {
		return false
	}
	for _, h := range w.Health {
		if len(h.Marks) > c.Watch.Window || !among(h.Times, 0, 10) || h.Out && !among(h.Until, w.Now+1, mostTick+mostSpan) || !h.Out && h.Until != 0 {
			return false
		}
	}
	states, ok := toldBook(w)
	return ok && toldFlows(w, states) && slices.Equal(w.Ring.Spots, spotsOf(w.Book.Lives)) &&
		w.Wheel.Now == w.Now && slices.EqualFunc(w.Wheel.Lists, wheelOf(w.Now, w.Flows).Lists, slices.Equal)
}

// toldBook: the states of all lives, and whether the book may be.
func toldBook(w api.World) (map[int]int, bool) {
	states, ids, last := map[int]int{}, map[int]int{}, -1
	for _, l := range w.Book.Lives {
		if !among(l.Backend, last+1, 11) || !among(l.State, 1, 4) || !among(l.Weight, 1, 8) || !among(l.Since, 0, w.Now) ||
			!among(l.Until, 0, mostTick+mostSpan) || !among(l.Request, 0, 1<<20) {
			return nil, false
		}
		if l.State == api.Joining && l.Since != 0 || l.State <= api.Active && l.Until+l.Request != 0 || l.State == api.Draining && l.Until <= w.Now {
			return nil, false
		}
		last = l.Backend
		states[l.Backend] = l.State
	}
	for i, r := range w.Book.Requests {
		if _, there := ids[r.Id]; there || !among(r.Id, 0, 1<<20) || !among(r.Kind, 1, 2) {
			return nil, false
		}
		ids[r.Id] = i
	}
	return states, true
}

func toldFlows(w api.World, states map[int]int) bool {
	var used []api.Flow
	busy := map[int]int{}
	for slot, s := range w.Table.Slots {
		if !s.Used {
			if !among(s.Gen, 0, mostGen) || s.Key != 0 || s.Backend != 0 {
				return false
			}
			continue
		}
		state := states[s.Backend]
		if !among(s.Gen, 0, mostGen-1) || !among(s.Key, 0, 1<<32-1) || state != api.Active && state != api.Draining {
			return false
		}
		busy[s.Backend]++
		used = append(used, waits(slot, s.Gen, s.Key, s.Backend, 0))
	}
	for b, state := range states {
		if state == api.Draining && busy[b] == 0 {
			return false
		}
	}
	return slices.EqualFunc(w.Flows, used, func(f, s api.Flow) bool {
		return f.Handle == s.Handle && f.Key == s.Key && f.Backend == s.Backend && among(f.Retries, 0, w.Config.Retries) && among(f.Due, w.Now+1, w.Now+mostSpan)
	})
}
