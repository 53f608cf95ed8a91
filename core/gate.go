package core

import (
	"slices"

	"usher/api"
	"usher/life"
	"usher/table"
)

// gate at work: a world of its own that may be changed, and what goes out. As long as the world may be, whatever is asked of the layers below is within their bounds: only those of their refusals are looked at that tell something.
type gate struct {
	api.World
	out []api.Output
}

// gateOf a world; false: it may not be. It is copied only then, however much is handed in.
func gateOf(w api.World) (*gate, bool) {
	g := &gate{World: w}
	if !g.mayBe() {
		return nil, false
	}
	g.own()
	return g, true
}

// own all lists, for those that were handed in are not to be changed.
func (g *gate) own() {
	g.Table.Slots = slices.Clone(g.Table.Slots)
	g.Flows = slices.Clone(g.Flows)
	g.Book.Lives = slices.Clone(g.Book.Lives)
	g.Book.Requests = slices.Clone(g.Book.Requests)
	g.Ring.Spots = slices.Clone(g.Ring.Spots)
	g.Health = slices.Clone(g.Health)
	for i := range g.Health {
		g.Health[i].Marks = slices.Clone(g.Health[i].Marks)
	}
	g.Wheel.Lists = slices.Clone(g.Wheel.Lists)
	for i := range g.Wheel.Lists {
		g.Wheel.Lists[i] = slices.Clone(g.Wheel.Lists[i])
	}
}

// take an event that may come.
func (g *gate) take(e api.Event) {
	switch e.Kind {
	case api.Open:
		g.open(e.Key)
	case api.Data, api.Close, api.Answer:
		g.takeOfFlow(e)
	case api.Join:
		g.ask(api.AskJoin, e)
	case api.Retire:
		g.retire(e)
	case api.Tick:
		g.tick()
	}
}

// takeOfFlow: an event that names a flow by its handle.
func (g *gate) takeOfFlow(e api.Event) {
	handle := api.Handle{Slot: e.Slot, Gen: e.Gen}
	if _, err := table.Get(g.Table, handle); err != api.OK {
		g.tellCode(api.Bad, err)
		return
	}
	f := g.flow(e.Slot)
	switch {
	case e.Kind == api.Close:
		g.end(*f, api.Closed, 0)
	case e.Kind == api.Data:
		g.forward(f)
	case f.Serving:
		g.tellCode(api.Bad, api.ErrTwice)
	case e.Good:
		g.serve(f)
	default:
		g.fail(f, api.WhyFailed)
	}
}

func (g *gate) tell(o api.Output) { g.out = append(g.out, o) }

func (g *gate) tellCode(kind int, code api.Errno) {
	g.tell(api.Output{Kind: kind, Code: code})
}

func (g *gate) tellFlow(kind int, f api.Flow) {
	g.tell(api.Output{Kind: kind, Slot: f.Handle.Slot, Gen: f.Handle.Gen, Backend: f.Backend})
}

func (g *gate) tellGone(backend, request int) {
	g.tell(api.Output{Kind: api.Gone, Backend: backend, Request: request})
}

// flow in a slot that is used, to be changed on the spot.
func (g *gate) flow(slot int) *api.Flow {
	i := slices.IndexFunc(g.Flows, func(f api.Flow) bool { return f.Handle.Slot == slot })
	return &g.Flows[i]
}

// life of a backend; one of no state, if it has none.
func (g *gate) life(backend int) api.Life {
	i := slices.IndexFunc(g.Book.Lives, func(l api.Life) bool { return l.Backend == backend })
	if i < 0 {
		return api.Life{}
	}
	return g.Book.Lives[i]
}

// isBusy: has a backend a flow?
func (g *gate) isBusy(backend int) bool {
	return slices.ContainsFunc(g.Flows, func(f api.Flow) bool { return f.Backend == backend })
}

// endDrain of a backend, if it has one that waits for no flow any more.
func (g *gate) endDrain(backend int) {
	l := g.life(backend)
	if l.State != api.Draining || g.isBusy(backend) {
		return
	}
	g.Book, _ = life.Finish(g.Book, backend)
	g.tellGone(backend, l.Request)
}
