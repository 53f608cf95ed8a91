package core

import (
	"usher/api"
	"usher/health"
	"usher/life"
	"usher/picker"
	"usher/ramp"
	"usher/ring"
)

// choose a backend for a key, where these flows count; false: nobody can be chosen.
func (g *gate) choose(key int, flows []api.Flow) (int, bool) {
	walk, _ := ring.Walk(g.Ring, key)
	c := g.Config
	backend, err := picker.Pick(walk, g.loads(flows), c.Num, c.Den, len(flows), c.Tries)
	return backend, err == api.OK
}

// loads of all that are active, by their backends.
func (g *gate) loads(flows []api.Flow) []api.Load {
	var counts [api.MaxBackends]int
	for _, f := range flows {
		counts[f.Backend]++
	}
	var loads []api.Load
	for _, l := range g.Book.Lives {
		if l.State == api.Active {
			loads = append(loads, api.Load{Backend: l.Backend, Weight: g.weight(l), Flows: counts[l.Backend]})
		}
	}
	return loads
}

// weight of a life that counts now.
func (g *gate) weight(l api.Life) int {
	if g.Health[l.Backend].Out {
		return 0
	}
	weight, _ := ramp.Weight(l.Weight, l.Since, g.Now, g.Config.Warm)
	return weight
}

// note an outcome of a backend, which may throw it out.
func (g *gate) note(backend int, failed bool) {
	h := &g.Health[backend]
	*h, _, _ = health.Note(g.Config.Watch, *h, failed, g.Now, g.mayThrow(backend))
}

// mayThrow out a backend: who drains takes no flows anyway, and is no part of the share.
func (g *gate) mayThrow(backend int) bool {
	active, out := 0, 0
	for _, l := range g.Book.Lives {
		if l.State != api.Active {
			continue
		}
		active++
		if g.Health[l.Backend].Out {
			out++
		}
	}
	allowed, _ := health.Allowed(out, active, g.Config.Most)
	return allowed && g.life(backend).State == api.Active
}

// ask the book, and tell the answer: was the request new, and is it done?
func (g *gate) ask(kind int, e api.Event) bool {
	r := api.Request{Id: e.Request, Kind: kind, Backend: e.Backend, Weight: e.Weight}
	book, answer, fresh, _ := life.Ask(g.Book, r, g.Now, g.Config.Drain)
	g.Book = book
	g.tell(api.Output{Kind: api.Reply, Request: e.Request, Code: answer})
	return fresh && answer == api.OK
}

// retire a backend: one that has never been active is gone at once, the others leave the ring and drain.
func (g *gate) retire(e api.Event) {
	old := g.life(e.Backend).State
	if !g.ask(api.AskRetire, e) {
		return
	}
	if old == api.Joining {
		g.tellGone(e.Backend, e.Request)
		return
	}
	g.Ring, _ = ring.Remove(g.Ring, e.Backend)
	g.endDrain(e.Backend)
}
