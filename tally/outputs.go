package tally

import (
	"slices"

	"usher/api"
)

// check the Kinds and the Whys, which are asked of every output, though they count in Resets alone.
func check(l []api.Output) api.Errno {
	unknown := func(o api.Output) bool {
		return o.Kind < api.Accept || o.Kind > api.Bad || o.Why < 0 || o.Why > api.WhyConnect
	}
	if slices.ContainsFunc(l, unknown) {
		return api.ErrKind
	}
	return api.OK
}

func checkBackends(l []api.Output) api.Errno {
	beyond := func(o api.Output) bool { return o.Backend < 0 || o.Backend >= api.MaxBackends }
	if slices.ContainsFunc(l, beyond) {
		return api.ErrRange
	}
	return api.OK
}

func handleOf(o api.Output) api.Handle { return api.Handle{Slot: o.Slot, Gen: o.Gen} }

// isOfFlow: Slot and Gen of the other kinds say nothing, though they look like a handle of the slot 0.
func isOfFlow(o api.Output) bool {
	switch o.Kind {
	case api.Accept, api.Forward, api.Serve, api.Again, api.Reset, api.Closed:
		return true
	}
	return false
}

// whereFlowsAre: the backends of the flows that have not ended.
func whereFlowsAre(l []api.Output) map[api.Handle]int {
	where := map[api.Handle]int{}
	for _, o := range l {
		switch o.Kind {
		case api.Accept, api.Again:
			where[handleOf(o)] = o.Backend
		case api.Reset, api.Closed:
			delete(where, handleOf(o))
		}
	}
	return where
}
