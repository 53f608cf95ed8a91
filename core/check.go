package core

import (
	"slices"

	"usher/api"
	"usher/bucket"
	"usher/health"
	"usher/life"
	"usher/ring"
	"usher/table"
	"usher/wheel"
)

// lastTick that a world may be at: whatever is set up there comes to its end ahead of MaxTick.
const lastTick = api.MaxTick - 2*api.MaxSpan

func isRight(c api.Config) bool {
	return within(c.Flows, 1, api.MaxFlows) && within(c.Den, 1, c.Num) && c.Num <= api.MaxFactor &&
		within(c.Tries, 0, api.MaxBackends) && within(c.Warm, 0, api.MaxSpan) &&
		isWait(c.Drain) && isWait(c.Idle) && isWait(c.Connect) &&
		within(c.Retries, 0, api.MaxFactor) && within(c.Most, 0, 100) &&
		bucket.Check(c.Budget) == api.OK && health.Check(c.Watch) == api.OK
}

// isWait: who waits for no tick at all would be late as soon as it begins.
func isWait(ticks int) bool { return within(ticks, 1, api.MaxSpan) }

func within(number, least, most int) bool { return least <= number && number <= most }

// mayBe: the parts come ahead of how they fit together, which is asked of parts that may be alone.
func (g *gate) mayBe() bool {
	return isRight(g.Config) && within(g.Now, 0, lastTick) && g.partsMayBe() && g.healthsFit() &&
		g.flowsFit() && g.livesFit() && g.ringFits() && g.wheelFits()
}

// partsMayBe: a bucket that can earn is one that may be, for nothing else is refused of it.
func (g *gate) partsMayBe() bool {
	_, err := bucket.Earn(g.Config.Budget, g.Bucket)
	return err == api.OK && life.Check(g.Book) == api.OK &&
		table.Check(g.Table) == api.OK && len(g.Table.Slots) == g.Config.Flows
}

// healthsFit: one that can come back now has stayed out too long.
func (g *gate) healthsFit() bool {
	late := func(h api.Health) bool {
		_, back, err := health.Back(g.Config.Watch, h, g.Now)
		return back || err != api.OK
	}
	return len(g.Health) == api.MaxBackends && !slices.ContainsFunc(g.Health, late)
}

// flowsFit: slots that are used and flows go side by side.
func (g *gate) flowsFit() bool {
	rest := g.Flows
	for number, s := range g.Table.Slots {
		if !s.Used {
			continue
		}
		if len(rest) == 0 || !g.flowFits(rest[0], number, s) {
			return false
		}
		rest = rest[1:]
	}
	return len(rest) == 0
}

func (g *gate) flowFits(f api.Flow, number int, s api.Slot) bool {
	state := g.life(f.Backend).State
	return f.Handle == api.Handle{Slot: number, Gen: s.Gen} && f.Key == s.Key && f.Backend == s.Backend &&
		within(f.Retries, 0, g.Config.Retries) && within(f.Due, g.Now+1, g.Now+api.MaxSpan) &&
		(state == api.Active || state == api.Draining)
}

// livesFit: a drain without a flow, or beyond its time, would have ended.
func (g *gate) livesFit() bool {
	for _, l := range g.Book.Lives {
		if l.Since > g.Now {
			return false
		}
		if l.State == api.Draining && (l.Until <= g.Now || !g.isBusy(l.Backend)) {
			return false
		}
	}
	return true
}

// ringFits: a ring that may be hangs on how many spots each backend has, and on nothing else.
func (g *gate) ringFits() bool {
	if ring.Check(g.Ring) != api.OK {
		return false
	}
	var spots [api.MaxBackends]int
	for _, s := range g.Ring.Spots {
		spots[s.Backend]++
	}
	for _, l := range g.Book.Lives {
		if l.State == api.Active {
			spots[l.Backend] -= l.Weight * api.Spots
		}
	}
	return spots == [api.MaxBackends]int{}
}

// wheelFits: a wheel that may be, and so can be advanced, has no two timers of one slot: with as many of them as there are flows it has no others.
func (g *gate) wheelFits() bool {
	if _, _, err := wheel.Advance(g.Wheel); err != api.OK || g.Wheel.Now != g.Now {
		return false
	}
	timers := slices.Concat(g.Wheel.Lists...)
	unheard := func(f api.Flow) bool {
		return !slices.ContainsFunc(timers, func(t api.Timer) bool { return t.Id == f.Handle.Slot && t.At == f.Due })
	}
	return len(timers) == len(g.Flows) && !slices.ContainsFunc(g.Flows, unheard)
}
