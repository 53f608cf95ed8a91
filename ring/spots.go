package ring

import (
	"cmp"
	"iter"
	"slices"

	"usher/api"
	"usher/hash"
)

// weights of the backends on a ring, by their numbers; 0: it is not there. A ring that may be hangs on them alone.
type weights [api.MaxBackends]int

func isBackend(n int) bool { return 0 <= n && n < api.MaxBackends }

func isWeight(n int) bool { return 1 <= n && n <= api.MaxWeight }

func (w weights) has(backend int) bool { return isBackend(backend) && w[backend] > 0 }

// weightsOf the backends on a ring; false: it may not be. How many spots a backend has tells its weight, and the ring must have just the spots that go with all weights.
func weightsOf(r api.Ring) (weights, bool) {
	var counts, w weights
	for _, s := range r.Spots {
		if !isBackend(s.Backend) {
			return weights{}, false
		}
		counts[s.Backend]++
	}
	for backend, n := range counts {
		if n > api.MaxWeight*api.Spots {
			return weights{}, false
		}
		w[backend] = n / api.Spots
	}
	return w, slices.Equal(r.Spots, w.spots())
}

// spots of all backends, in order.
func (w weights) spots() []api.Spot {
	var l []api.Spot
	for backend, weight := range w {
		for i := range weight * api.Spots {
			place, _ := hash.Spot(backend, i) // weights are within their bounds, so that nothing is refused
			l = append(l, api.Spot{Hash: place, Backend: backend})
		}
	}
	slices.SortFunc(l, compareSpots)
	return l
}

// compareSpots compares two spots by their places, then by their backends.
func compareSpots(a, b api.Spot) int {
	return cmp.Or(cmp.Compare(a.Hash, b.Hash), cmp.Compare(a.Backend, b.Backend))
}

// along the ring: all spots once, from the first one on that is not below a place.
func along(spots []api.Spot, place int) iter.Seq[api.Spot] {
	first, _ := slices.BinarySearchFunc(spots, place, func(s api.Spot, place int) int { return cmp.Compare(s.Hash, place) })
	return func(yield func(api.Spot) bool) {
		for i := range spots {
			if !yield(spots[(first+i)%len(spots)]) {
				return
			}
		}
	}
}
