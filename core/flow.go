package core

import (
	"slices"

	"usher/api"
	"usher/bucket"
	"usher/table"
	"usher/wheel"
)

// open a flow.
func (g *gate) open(key int) {
	if !slices.ContainsFunc(g.Table.Slots, func(s api.Slot) bool { return !s.Used && s.Gen != api.MaxGen }) {
		g.tellCode(api.Refuse, api.ErrFull)
		return
	}
	backend, ok := g.choose(key, g.Flows)
	if !ok {
		g.tellCode(api.Refuse, api.ErrBusy)
		return
	}
	f := g.put(key, backend)
	g.wait(f, g.Config.Connect)
	g.Bucket, _ = bucket.Earn(g.Config.Budget, g.Bucket)
	g.tellFlow(api.Accept, *f)
}

// put a flow in a slot, and at its place among the others.
func (g *gate) put(key, backend int) *api.Flow {
	slots, handle, _ := table.Put(g.Table, key, backend)
	g.Table = slots
	i := slices.IndexFunc(g.Flows, func(f api.Flow) bool { return f.Handle.Slot > handle.Slot })
	if i < 0 {
		i = len(g.Flows)
	}
	g.Flows = slices.Insert(g.Flows, i, api.Flow{Handle: handle, Key: key, Backend: backend})
	return &g.Flows[i]
}

// wait so many ticks from now on: the timer goes with the flow.
func (g *gate) wait(f *api.Flow, ticks int) {
	f.Due = g.Now + ticks
	g.disarm(f.Handle.Slot)
	g.Wheel, _ = wheel.Arm(g.Wheel, f.Handle.Slot, f.Due)
}

// disarm the timer of a slot. There is none where a flow is new, or its timer has just gone off.
func (g *gate) disarm(slot int) {
	if rest, err := wheel.Cancel(g.Wheel, slot); err == api.OK {
		g.Wheel = rest
	}
}

// forward data: it keeps a flow that is served from being idle, but does not make its backend answer.
func (g *gate) forward(f *api.Flow) {
	if f.Serving {
		g.wait(f, g.Config.Idle)
	}
	g.tellFlow(api.Forward, *f)
}

// serve a flow whose backend has answered.
func (g *gate) serve(f *api.Flow) {
	g.note(f.Backend, false)
	f.Serving = true
	g.wait(f, g.Config.Idle)
	g.tellFlow(api.Serve, *f)
}

// fail: the flow goes elsewhere, if it may and somebody takes it; else it ends.
func (g *gate) fail(f *api.Flow, why int) {
	g.note(f.Backend, true)
	left, err := bucket.Spend(g.Config.Budget, g.Bucket)
	if f.Retries == g.Config.Retries || err != api.OK {
		g.end(*f, api.Reset, why)
		return
	}
	backend, ok := g.choose(f.Key, g.without(f.Handle))
	if !ok {
		g.end(*f, api.Reset, api.WhyNobody)
		return
	}
	g.Bucket = left
	g.retry(f, backend)
}

// retry a flow at a backend.
func (g *gate) retry(f *api.Flow, backend int) {
	old := f.Backend
	g.Table, _ = table.Move(g.Table, f.Handle, backend)
	f.Backend = backend
	f.Retries++
	g.wait(f, g.Config.Connect)
	g.tellFlow(api.Again, *f)
	g.endDrain(old)
}

// end a flow, closed or reset.
func (g *gate) end(f api.Flow, kind, why int) {
	g.Table, _ = table.Drop(g.Table, f.Handle)
	g.Flows = g.without(f.Handle)
	g.disarm(f.Handle.Slot)
	g.tell(api.Output{Kind: kind, Slot: f.Handle.Slot, Gen: f.Handle.Gen, Backend: f.Backend, Why: why})
	g.endDrain(f.Backend)
}

// without one flow: all others, in a list of their own.
func (g *gate) without(h api.Handle) []api.Flow {
	return slices.DeleteFunc(slices.Clone(g.Flows), func(f api.Flow) bool { return f.Handle == h })
}
