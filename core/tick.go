package core

import (
	"usher/api"
	"usher/health"
	"usher/life"
	"usher/ring"
	"usher/table"
	"usher/wheel"
)

// tick: backends come ahead of flows, so that flows that fail now can go to them.
func (g *gate) tick() {
	g.Now++
	g.wake()
	g.bringBack()
	g.goOff()
	g.cutOff()
}

// wake all that join: they are on the ring from now on, and nothing is held against them.
func (g *gate) wake() {
	book, woken, _ := life.Wake(g.Book, g.Now)
	g.Book = book
	for _, backend := range woken {
		g.Health[backend] = api.Health{}
		g.Ring, _ = ring.Add(g.Ring, backend, g.life(backend).Weight)
	}
}

// bringBack all whose time out is over, whatever becomes of their lives.
func (g *gate) bringBack() {
	for i, h := range g.Health {
		g.Health[i], _, _ = health.Back(g.Config.Watch, h, g.Now)
	}
}

// goOff: flows that have waited long enough. Timers go off by their slots, rising.
func (g *gate) goOff() {
	turned, slots, _ := wheel.Advance(g.Wheel)
	g.Wheel = turned
	for _, slot := range slots {
		f := g.flow(slot)
		if f.Serving {
			g.end(*f, api.Reset, api.WhyIdle)
		} else {
			g.fail(f, api.WhyConnect)
		}
	}
}

// cutOff drains that last too long: with their last flows they end. Lives rise, and the list that is gone through stays as it is.
func (g *gate) cutOff() {
	for _, l := range g.Book.Lives {
		if l.State != api.Draining || l.Until > g.Now {
			continue
		}
		handles, _ := table.Of(g.Table, l.Backend)
		for _, h := range handles {
			g.end(*g.flow(h.Slot), api.Reset, api.WhyDrain)
		}
	}
}
