package table

import (
	"slices"

	"usher/api"
)

func isKey(key int) bool { return 0 <= key && key <= api.MaxKey }

func isBackend(backend int) bool { return 0 <= backend && backend < api.MaxBackends }

// isFree: a free slot keeps its Gen alone, for the handles that are yet to come.
func isFree(s api.Slot) bool { return s == api.Slot{Gen: s.Gen} }

// mayNotBe: the Gen MaxGen is of no handle, so that only a slot that has given all of its own may have it.
func mayNotBe(s api.Slot) bool {
	if s.Gen < 0 || s.Gen > api.MaxGen {
		return true
	}
	if isFree(s) {
		return false
	}
	return !s.Used || s.Gen == api.MaxGen || !isKey(s.Key) || !isBackend(s.Backend)
}

// usedFor: asks of a slot whether it is a backend's; a free one has the Backend 0, but is nobody's.
func usedFor(backend int) func(api.Slot) bool {
	return func(s api.Slot) bool { return !isFree(s) && s.Backend == backend }
}

// handles of the slots that are wanted, by their numbers.
func handles(t api.Table, wanted func(api.Slot) bool) []api.Handle {
	var l []api.Handle
	for i, s := range t.Slots {
		if wanted(s) {
			l = append(l, api.Handle{Slot: i, Gen: s.Gen})
		}
	}
	return l
}

// with another slot at a place: a table of its own, for the one that was handed in stays as it is.
func with(t api.Table, i int, s api.Slot) api.Table {
	slots := slices.Clone(t.Slots)
	slots[i] = s
	return api.Table{Slots: slots}
}
