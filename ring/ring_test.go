package ring

import (
	"hash/fnv"
	"math"
	"math/rand"
	"slices"
	"sort"
	"testing"

	"usher/api"
)

// The faces stay as the chapter writes them.
var (
	_ func(api.Ring) api.Errno                       = Check
	_ func(api.Ring, int, int) (api.Ring, api.Errno) = Add
	_ func(api.Ring, int) (api.Ring, api.Errno)      = Remove
	_ func(api.Ring, int) ([]int, api.Errno)         = Walk
)

const (
	maxKey    = 1<<32 - 1
	backends  = 12
	maxWeight = 8
)

// on a ring: the weights of backends, by their numbers.
type on map[int]int

// mixTold: the mix of chapter 1, by the library (tests may ask it, the program may not).
func mixTold(l ...byte) int {
	h := fnv.New32a()
	h.Write(l)
	return int(h.Sum32())
}

func spotTold(backend, i int) int { return mixTold(98, byte(backend), byte(i), 115) }

func placeTold(key int) int {
	return mixTold(byte(key), byte(key>>8), byte(key>>16), byte(key>>24))
}

// spotKey: a key that lies just where a spot lies, for its bytes are the spot's.
func spotKey(backend, i int) int { return 98 | backend<<8 | i<<16 | 115<<24 }

// told: the ring that the chapter asks for, with these backends, apart from the program's own.
func told(o on) api.Ring {
	var l []api.Spot
	for backend, weight := range o {
		for i := range 4 * weight {
			l = append(l, api.Spot{Hash: spotTold(backend, i), Backend: backend})
		}
	}
	inOrder(l)
	return api.Ring{Spots: l}
}

func inOrder(l []api.Spot) {
	sort.Slice(l, func(i, j int) bool {
		return l[i].Hash < l[j].Hash || l[i].Hash == l[j].Hash && l[i].Backend < l[j].Backend
	})
}

// walkTold: backends by how far round the ring their nearest spot is from a key's place.
func walkTold(o on, key int) []int {
	far := map[int]uint32{}
	var l []int
	for backend, weight := range o {
		l = append(l, backend)
		far[backend] = math.MaxUint32
		for i := range 4 * weight {
			far[backend] = min(far[backend], uint32(spotTold(backend, i))-uint32(placeTold(key)))
		}
	}
	sort.Slice(l, func(i, j int) bool { return far[l[i]] < far[l[j]] })
	return l
}

func same(a, b api.Ring) bool { return slices.Equal(a.Spots, b.Spots) }

// isZero: as a ring must be beside an error.
func isZero(r api.Ring) bool { return len(r.Spots) == 0 }

// all backends, each with the same weight.
func all(weight int) on {
	o := on{}
	for b := range backends {
		o[b] = weight
	}
	return o
}

// some rings: without spots, with one backend, with several of several weights, with all.
func some() []on {
	l := []on{{}, {0: 1}, {0: 8}, {11: 1}, {11: 8}, {4: 3}, {5: 1, 11: 1}, {0: 1, 7: 1, 11: 2}, {0: 1, 3: 2, 5: 1, 11: 1}, {1: 8, 2: 1, 3: 5, 9: 2, 10: 7}, all(1), all(8)}
	mixed := on{}
	for b := range backends {
		mixed[b] = 1 + b*5%8
	}
	return append(l, mixed)
}

// keys: the bounds, ordinary ones, those that lie at the places 0, 72453532, 1592039272 and 4233052781, and those of some spots.
func keys() []int {
	l := []int{0, 1, 2, 3, 255, 256, 300, 65535, 65536, 1 << 31, maxKey - 1, maxKey, 3291555020, 2090760604, 2014947010, 2324789660}
	for key := 17; key <= maxKey; key += 94906267 {
		l = append(l, key)
	}
	for b := range backends {
		l = append(l, spotKey(b, 0), spotKey(b, b), spotKey(b, 31))
	}
	return l
}

var wrongKeys = []int{-1, -300, -maxKey, math.MinInt, maxKey + 1, maxKey + 301, 1 << 40, math.MaxInt}

// added: the ring to which these backends came, in that order.
func added(t *testing.T, o on, order []int) api.Ring {
	t.Helper()
	var r api.Ring
	for _, b := range order {
		next, e := Add(r, b, o[b])
		if e != api.OK {
			t.Fatalf("Add of %d, %d: %v", b, o[b], e)
		}
		r = next
	}
	return r
}

// rising: the backends of a ring.
func rising(o on) []int {
	var l []int
	for b := range o {
		l = append(l, b)
	}
	sort.Ints(l)
	return l
}

// P4.1: spots and their order, worked out apart from the program.
func TestSpots(t *testing.T) {
	want := []api.Spot{
		{Hash: 951226067, Backend: 7}, {Hash: 1085594114, Backend: 7}, {Hash: 1353594733, Backend: 7}, {Hash: 1353741828, Backend: 7},
		{Hash: 1401254886, Backend: 11}, {Hash: 1535622933, Backend: 11}, {Hash: 1535770028, Backend: 11}, {Hash: 1669152337, Backend: 11},
		{Hash: 1669402600, Backend: 11}, {Hash: 1670138075, Backend: 11}, {Hash: 1803770647, Backend: 11}, {Hash: 1804506122, Backend: 11},
		{Hash: 2271166405, Backend: 0}, {Hash: 2271313500, Backend: 0}, {Hash: 2405681547, Backend: 0}, {Hash: 2540049594, Backend: 0},
	}
	if r := added(t, on{0: 1, 7: 1, 11: 2}, []int{11, 0, 7}); !slices.Equal(r.Spots, want) {
		t.Errorf("the ring: %v", r)
	}
}

// P4.1: each backend of each weight by itself; in whatever order backends come, the ring is the same.
func TestOrderOfComing(t *testing.T) {
	for b := range backends {
		for weight := 1; weight <= maxWeight; weight++ {
			r, e := Add(api.Ring{}, b, weight)
			if e != api.OK || len(r.Spots) != 4*weight || !same(r, told(on{b: weight})) {
				t.Errorf("Add of %d, %d: %v %v", b, weight, r, e)
			}
		}
	}
	dice := rand.New(rand.NewSource(4))
	for _, o := range some() {
		order := rising(o)
		for range 8 {
			if r := added(t, o, order); !same(r, told(o)) {
				t.Errorf("%v, as %v come: %v", o, order, r)
			}
			dice.Shuffle(len(order), func(i, j int) { order[i], order[j] = order[j], order[i] })
		}
	}
}

// P4.1: of spots of the same Hash the lower Backend's is ahead. No two of all the spots have one, so that only the comparison itself can show it.
func TestSameHash(t *testing.T) {
	seen := map[int]api.Spot{}
	for _, s := range told(all(maxWeight)).Spots {
		if twin, ok := seen[s.Hash]; ok {
			t.Errorf("%v and %v have the same Hash", twin, s)
		}
		seen[s.Hash] = s
	}
	for _, c := range []struct {
		a, b api.Spot
		want int
	}{
		{api.Spot{Hash: 5, Backend: 1}, api.Spot{Hash: 5, Backend: 2}, -1},
		{api.Spot{Hash: 5, Backend: 11}, api.Spot{Hash: 5, Backend: 0}, 1},
		{api.Spot{Hash: 5, Backend: 3}, api.Spot{Hash: 5, Backend: 3}, 0},
		{api.Spot{Hash: 4, Backend: 9}, api.Spot{Hash: 5, Backend: 0}, -1},
		{api.Spot{Hash: maxKey, Backend: 0}, api.Spot{Hash: 0, Backend: 9}, 1},
	} {
		if got := compareSpots(c.a, c.b); got != c.want {
			t.Errorf("%v against %v: %d, want %d", c.a, c.b, got, c.want)
		}
	}
}

// P4.2: rings that may be, their lists nil, empty, or with spare room.
func TestMayBe(t *testing.T) {
	for _, o := range some() {
		r := told(o)
		for _, l := range [][]api.Spot{r.Spots, slices.Clip(r.Spots), append(make([]api.Spot, 0, 500), r.Spots...)} {
			if e := Check(api.Ring{Spots: l}); e != api.OK {
				t.Errorf("Check of %v: %v", o, e)
			}
		}
	}
	for b := range backends {
		for weight := 1; weight <= maxWeight; weight++ {
			if e := Check(told(on{b: weight})); e != api.OK {
				t.Errorf("Check of %d with the weight %d: %v", b, weight, e)
			}
		}
	}
}

// with a ring's spots some more, in order or, if not sorted, behind them.
func with(o on, sorted bool, more ...api.Spot) api.Ring {
	r := told(o)
	r.Spots = append(r.Spots, more...)
	if sorted {
		inOrder(r.Spots)
	}
	return r
}

// changed: a ring with one spot, at a place, made another.
func changed(o on, i int, s api.Spot) api.Ring {
	r := told(o)
	r.Spots[i] = s
	return r
}

// numbered: spots of a backend that are as they should be, from one number on to another.
func numbered(backend, from, till int) []api.Spot {
	var l []api.Spot
	for i := from; i < till; i++ {
		l = append(l, api.Spot{Hash: spotTold(backend, i), Backend: backend})
	}
	return l
}

// of spots: a ring of just these, in order.
func of(l ...api.Spot) api.Ring {
	inOrder(l)
	return api.Ring{Spots: l}
}

// mayNotBe: rings that are refused, by what is wrong in them.
func mayNotBe() map[string]api.Ring {
	three := on{0: 1, 3: 2, 11: 1}
	l := map[string]api.Ring{
		"one spot":                    of(numbered(2, 0, 1)...),
		"three spots":                 of(numbered(2, 0, 3)...),
		"five spots":                  of(numbered(2, 0, 5)...),
		"a spot too many of one":      with(three, true, numbered(3, 8, 9)...),
		"three too many of one":       with(three, true, numbered(3, 8, 11)...),
		"one spot of another":         with(three, true, numbered(5, 0, 1)...),
		"spots 1 to 4":                of(numbered(2, 1, 5)...),
		"spots 4 to 7":                of(numbered(2, 4, 8)...),
		"the last spots of all":       of(numbered(2, 28, 32)...),
		"a gap":                       of(append(numbered(2, 0, 3), numbered(2, 4, 5)...)...),
		"33 spots":                    of(numbered(2, 0, 33)...),
		"weight 9":                    of(numbered(2, 0, 36)...),
		"weight 9 with others":        with(three, true, numbered(2, 0, 36)...),
		"weight 9, the last at 0":     of(append(numbered(2, 0, 32), make([]api.Spot, 4)...)...),
		"backend 0, weight 9, at 0":   of(append(numbered(0, 0, 32), make([]api.Spot, 4)...)...),
		"weight 64":                   of(numbered(2, 0, 256)...),
		"backend -1":                  of(numbered(-1, 0, 4)...),
		"backend 12":                  of(numbered(12, 0, 4)...),
		"backend 12 with others":      with(all(8), true, numbered(12, 0, 4)...),
		"backend 256":                 of(numbered(256, 0, 4)...),
		"backend the least number":    of(numbered(math.MinInt, 0, 4)...),
		"backend the greatest number": of(numbered(math.MaxInt, 0, 4)...),
		"four empty spots":            {Spots: make([]api.Spot, 4)},
		"one spot twice":              with(three, true, told(three).Spots[5]),
		"one spot twice at the end":   with(three, false, told(three).Spots[15]),
		"one spot twice for another":  changed(three, 5, told(three).Spots[4]),
		"all spots twice":             of(append(numbered(2, 0, 4), numbered(2, 0, 4)...)...),
		"another's spot":              changed(three, 5, api.Spot{Hash: told(three).Spots[5].Hash, Backend: 4}),
		"a later spot in order":       of(append(numbered(2, 0, 3), numbered(2, 31, 32)...)...),
		"one Hash of two":             with(on{4: 1}, true, api.Spot{Hash: spotTold(4, 0), Backend: 5}, api.Spot{Hash: spotTold(4, 1), Backend: 5}, api.Spot{Hash: spotTold(4, 2), Backend: 5}, api.Spot{Hash: spotTold(4, 3), Backend: 5}),
		"as they are numbered":        {Spots: numbered(0, 0, 4)},
		"one behind another":          {Spots: append(told(on{11: 1}).Spots, told(on{7: 1}).Spots...)},
		"all spots and one more":      with(all(8), false, api.Spot{Hash: maxKey, Backend: 3}),
		"very many spots":             {Spots: make([]api.Spot, 100000)},
	}
	backwards := told(three)
	slices.Reverse(backwards.Spots)
	l["backwards"] = backwards
	turned := told(three)
	turned.Spots = append(slices.Clone(turned.Spots[1:]), turned.Spots[0])
	l["turned by one"] = turned
	return l
}

// refused by all four, whatever else is asked.
func refusedState(t *testing.T, name string, r api.Ring) {
	t.Helper()
	if e := Check(r); e != api.ErrState {
		t.Errorf("%s: Check: %v", name, e)
	}
	for _, b := range []int{-1, 0, 2, 3, 5, 11, 12, math.MinInt, math.MaxInt} {
		for _, weight := range []int{0, 1, 8, 9, math.MinInt, math.MaxInt} {
			if got, e := Add(r, b, weight); e != api.ErrState || !isZero(got) {
				t.Errorf("%s: Add of %d, %d: %v %v", name, b, weight, got, e)
			}
		}
		if got, e := Remove(r, b); e != api.ErrState || !isZero(got) {
			t.Errorf("%s: Remove of %d: %v %v", name, b, got, e)
		}
	}
	for _, key := range append([]int{0, 300, maxKey}, wrongKeys...) {
		if got, e := Walk(r, key); e != api.ErrState || len(got) != 0 {
			t.Errorf("%s: Walk of %d: %v %v", name, key, got, e)
		}
	}
}

// P4.2: rings that may not be are refused by all four, ahead of all else.
func TestMayNotBe(t *testing.T) {
	for name, r := range mayNotBe() {
		refusedState(t, name, r)
	}
}

// P4.2: in a ring that may be each spot is needed, at its Hash, of its Backend, at its place in the list.
func TestEachSpotCounts(t *testing.T) {
	for _, o := range []on{{0: 1}, {0: 1, 3: 2, 11: 1}, {1: 8, 2: 1, 3: 5}, all(8)} {
		n := len(told(o).Spots)
		for i := range n {
			s := told(o).Spots[i]
			wrong := []api.Ring{{Spots: slices.Delete(told(o).Spots, i, i+1)}, {Spots: slices.Insert(told(o).Spots, i, s)}}
			for _, h := range []int{s.Hash - 1, s.Hash + 1, -s.Hash, s.Hash + 1<<32, s.Hash - 1<<32, 0, math.MinInt, math.MaxInt} {
				wrong = append(wrong, changed(o, i, api.Spot{Hash: h, Backend: s.Backend}))
			}
			for _, b := range []int{s.Backend - 1, s.Backend + 1, -1, 12, s.Backend + 256, math.MinInt, math.MaxInt} {
				wrong = append(wrong, changed(o, i, api.Spot{Hash: s.Hash, Backend: b}))
			}
			if i+1 < n {
				swapped := told(o)
				swapped.Spots[i], swapped.Spots[i+1] = swapped.Spots[i+1], swapped.Spots[i]
				wrong = append(wrong, swapped)
			}
			for _, r := range wrong {
				if e := Check(r); e != api.ErrState {
					t.Errorf("%v, wrong at %d: %v", o, i, e)
				}
			}
		}
	}
}

// P4.3: Add to some rings, of each backend and each weight.
func TestAdd(t *testing.T) {
	for _, o := range some() {
		for b := range backends {
			for weight := 1; weight <= maxWeight; weight++ {
				got, e := Add(told(o), b, weight)
				if o[b] > 0 {
					if e != api.ErrTwice || !isZero(got) {
						t.Errorf("Add of %d, %d to %v: %v %v", b, weight, o, got, e)
					}
					continue
				}
				more := on{b: weight}
				for other, w := range o {
					more[other] = w
				}
				if e != api.OK || !same(got, told(more)) || Check(got) != api.OK {
					t.Errorf("Add of %d, %d to %v: %v %v", b, weight, o, got, e)
				}
			}
		}
	}
}

// P4.3: a wrong backend, a wrong weight, and both; a backend that is there already with a wrong weight is told by its weight.
func TestAddOutOfRange(t *testing.T) {
	wrongBackends := []int{-1, 12, -12, 256, -256, 1 << 32, math.MinInt, math.MaxInt}
	wrongWeights := []int{0, 9, -1, -8, 257, 1<<32 + 1, math.MinInt, math.MaxInt}
	for _, o := range some() {
		for _, b := range append([]int{0, 4, 11}, wrongBackends...) {
			for _, weight := range append([]int{1, 8}, wrongWeights...) {
				if !slices.Contains(wrongBackends, b) && !slices.Contains(wrongWeights, weight) {
					continue
				}
				if got, e := Add(told(o), b, weight); e != api.ErrRange || !isZero(got) {
					t.Errorf("Add of %d, %d to %v: %v %v", b, weight, o, got, e)
				}
			}
		}
	}
}

// P4.4: Remove of each backend of some rings, and of those that are not there, whatever their number.
func TestRemove(t *testing.T) {
	for _, o := range some() {
		for _, b := range []int{0, 1, 2, 3, 4, 5, 6, 7, 8, 9, 10, 11, -1, 12, 256, -256, 1 << 32, math.MinInt, math.MaxInt} {
			got, e := Remove(told(o), b)
			if o[b] == 0 {
				if e != api.ErrNone || !isZero(got) {
					t.Errorf("Remove of %d from %v: %v %v", b, o, got, e)
				}
				continue
			}
			less := on{}
			for other, w := range o {
				if other != b {
					less[other] = w
				}
			}
			if e != api.OK || !same(got, told(less)) || Check(got) != api.OK {
				t.Errorf("Remove of %d from %v: %v %v", b, o, got, e)
			}
			if again, e := Remove(got, b); e != api.ErrNone || !isZero(again) {
				t.Errorf("Remove of %d from %v once more: %v %v", b, o, again, e)
			}
			if back, e := Add(got, b, o[b]); e != api.OK || !same(back, told(o)) {
				t.Errorf("Add of %d, %d behind its Remove: %v %v", b, o[b], back, e)
			}
		}
	}
}

// P4.5: walks worked out apart from the program: of the spots 11 5 5 11 11 5 11 5, from 1401254886 to 1861025630.
func TestWalk(t *testing.T) {
	for _, c := range []struct {
		name string
		key  int
		want []int
	}{
		{"the place 0", 3291555020, []int{11, 5}},
		{"below the first spot", 0, []int{11, 5}},
		{"the first spot's own", spotKey(11, 1), []int{11, 5}},
		{"one below the second spot", 2014947010, []int{5, 11}},
		{"the second spot's own", spotKey(5, 0), []int{5, 11}},
		{"one below the third spot", 1981327042, []int{5, 11}},
		{"the third spot's own", spotKey(5, 1), []int{5, 11}},
		{"one below the fourth spot", 1747694786, []int{11, 5}},
		{"the fourth spot's own", spotKey(11, 2), []int{11, 5}},
		{"the last spot's own", spotKey(5, 3), []int{5, 11}},
		{"above the last spot", 3, []int{11, 5}},
		{"above the last spot, too", maxKey, []int{11, 5}},
	} {
		if got, e := Walk(told(on{5: 1, 11: 1}), c.key); e != api.OK || !slices.Equal(got, c.want) {
			t.Errorf("%s: %v %v, want %v", c.name, got, e, c.want)
		}
	}
}

// P4.5: one place above a spot's Hash, that spot is left to the walk's end.
func TestWalkJustBehindASpot(t *testing.T) {
	r := told(on{3: 2, 11: 1}) // spots of 3 at 72453533 and 72703796, then of 11
	for _, c := range []struct {
		key, place int
		want       []int
	}{
		{2090760604, 72453532, []int{3, 11}},
		{spotKey(3, 6), 72453533, []int{3, 11}},
		{spotKey(3, 7), 72703796, []int{3, 11}},
		{2492450096, 72703797, []int{11, 3}},
		{2324789660, 4233052781, []int{3, 11}},
		{spotKey(3, 1), 4233052782, []int{3, 11}},
	} {
		if place := placeTold(c.key); place != c.place {
			t.Errorf("the key %d lies at %d, not at %d", c.key, place, c.place)
		}
		if got, e := Walk(r, c.key); e != api.OK || !slices.Equal(got, c.want) {
			t.Errorf("Walk of %d: %v %v, want %v", c.key, got, e, c.want)
		}
	}
}

// P4.5: walks of some rings behind many keys; without spots nobody comes.
func TestWalks(t *testing.T) {
	for _, o := range some() {
		r := told(o)
		for _, key := range keys() {
			if got, e := Walk(r, key); e != api.OK || !slices.Equal(got, walkTold(o, key)) {
				t.Errorf("Walk of %d on %v: %v %v, want %v", key, o, got, e, walkTold(o, key))
			}
		}
	}
}

// P4.5: behind a key that lies at a spot's own Hash that spot's backend comes first, be it the last spot of the ring; a key above all begins with the first one.
func TestWalkAtEachSpot(t *testing.T) {
	for _, o := range some() {
		r := told(o)
		for b, weight := range o {
			for i := range 4 * weight {
				if got, e := Walk(r, spotKey(b, i)); e != api.OK || !slices.Equal(got, walkTold(o, spotKey(b, i))) || got[0] != b {
					t.Errorf("Walk behind the spot %d of %d on %v: %v %v", i, b, o, got, e)
				}
			}
		}
		for key := 0; len(o) > 0; key++ {
			if placeTold(key) > r.Spots[len(r.Spots)-1].Hash {
				if got, e := Walk(r, key); e != api.OK || got[0] != r.Spots[0].Backend {
					t.Errorf("Walk of %d, above all of %v: %v %v", key, o, got, e)
				}
				break
			}
		}
	}
}

// P4.5: spots come once round the ring, and no more of them than are asked for.
func TestAlong(t *testing.T) {
	l := told(on{5: 1, 11: 1}).Spots
	for first, place := range map[int]int{0: 0, 1: l[0].Hash + 1, 3: l[3].Hash, 7: l[7].Hash, 8: l[7].Hash + 1} {
		want := append(slices.Clone(l[first:]), l[:first]...)
		if got := slices.Collect(along(l, place)); !slices.Equal(got, want) {
			t.Errorf("from %d on: %v, want %v", place, got, want)
		}
		var got []api.Spot
		for s := range along(l, place) {
			if got = append(got, s); len(got) == 3 {
				break
			}
		}
		if !slices.Equal(got, want[:3]) {
			t.Errorf("three from %d on: %v, want %v", place, got, want[:3])
		}
	}
}

// P4.5: keys below 0 and above MaxKey, on a ring without spots, too.
func TestWalkOutOfRange(t *testing.T) {
	for _, o := range some() {
		for _, key := range wrongKeys {
			if got, e := Walk(told(o), key); e != api.ErrRange || len(got) != 0 {
				t.Errorf("Walk of %d on %v: %v %v", key, o, got, e)
			}
		}
	}
}

// leaves: is the longer walk the shorter one, but for one backend?
func leaves(longer, shorter []int, b int) bool {
	return len(longer) == len(shorter)+1 && slices.Equal(slices.DeleteFunc(slices.Clone(longer), func(x int) bool { return x == b }), shorter)
}

// What comes of it: drawn backends come and go, held against plain weights, and behind each key the others stay in their order.
func TestOthersStay(t *testing.T) {
	dice := rand.New(rand.NewSource(11))
	var r api.Ring
	o := on{}
	for range 300 {
		b, weight := dice.Intn(backends), 1+dice.Intn(maxWeight)
		before := r
		var e api.Errno
		if o[b] > 0 {
			r, e = Remove(r, b)
			delete(o, b)
		} else {
			r, e = Add(r, b, weight)
			o[b] = weight
		}
		if e != api.OK || !same(r, told(o)) {
			t.Fatalf("%d comes or goes: %v %v, wanted %v", b, r, e, o)
		}
		for _, key := range keys() {
			longer, _ := Walk(before, key)
			shorter, _ := Walk(r, key)
			if o[b] > 0 {
				longer, shorter = shorter, longer
			}
			if !leaves(longer, shorter, b) {
				t.Fatalf("%d comes or goes: behind %d the walks %v and %v", b, key, longer, shorter)
			}
		}
	}
}

// roomy: a ring with spare room that is filled with the same numbers each time.
func roomy(o on) api.Ring {
	l := told(o).Spots
	room := append(make([]api.Spot, 0, len(l)+40), l...)
	for i := len(l); i < cap(room); i++ {
		room[:cap(room)][i] = api.Spot{Hash: -7, Backend: -8}
	}
	return api.Ring{Spots: room}
}

// whole ring, its spare room, too.
func whole(r api.Ring) []api.Spot { return slices.Clone(r.Spots[:cap(r.Spots)]) }

// scribble over a ring and its spare room.
func scribble(r api.Ring) {
	l := r.Spots[:cap(r.Spots)]
	for i := range l {
		l[i] = api.Spot{Hash: -1, Backend: -2}
	}
}

// calls that answer a ring, some of which are refused.
var calls = []func(r api.Ring) (api.Ring, api.Errno){
	func(r api.Ring) (api.Ring, api.Errno) { return Add(r, 6, 1) },
	func(r api.Ring) (api.Ring, api.Errno) { return Add(r, 6, 8) },
	func(r api.Ring) (api.Ring, api.Errno) { return Add(r, 0, 2) },
	func(r api.Ring) (api.Ring, api.Errno) { return Add(r, 12, 2) },
	func(r api.Ring) (api.Ring, api.Errno) { return Remove(r, 0) },
	func(r api.Ring) (api.Ring, api.Errno) { return Remove(r, 11) },
	func(r api.Ring) (api.Ring, api.Errno) { return Remove(r, 4) },
	func(r api.Ring) (api.Ring, api.Errno) { return Remove(r, -1) },
	func(r api.Ring) (api.Ring, api.Errno) { return api.Ring{}, Check(r) },
}

// No call changes the ring that it was given, nor its spare room; what it answers has memory of its own.
func TestNothingShared(t *testing.T) {
	for _, o := range some() {
		for i, call := range calls {
			given := roomy(o)
			before := whole(given)
			first, e := call(given)
			if !slices.Equal(whole(given), before) {
				t.Fatalf("call %d changed its ring %v", i, o)
			}
			second, again := call(given)
			if e != again || !same(first, second) {
				t.Fatalf("call %d on %v answers otherwise the second time", i, o)
			}
			kept := slices.Clone(second.Spots)
			scribble(first)
			if !slices.Equal(whole(given), before) || !slices.Equal(second.Spots, kept) {
				t.Fatalf("call %d on %v: what it answers shares memory", i, o)
			}
			scribble(given)
			if !slices.Equal(second.Spots, kept) {
				t.Fatalf("call %d on %v keeps its ring", i, o)
			}
		}
	}
}

// A walk changes no ring, and is new memory each time.
func TestWalkSharesNothing(t *testing.T) {
	for _, o := range some() {
		given := roomy(o)
		before := whole(given)
		for _, key := range append(keys(), wrongKeys...) {
			first, e := Walk(given, key)
			second, again := Walk(given, key)
			if e != again || !slices.Equal(first, second) {
				t.Fatalf("Walk of %d on %v answers otherwise the second time", key, o)
			}
			kept := slices.Clone(second)
			for i := range first[:cap(first)] {
				first[:cap(first)][i] = -1
			}
			if !slices.Equal(whole(given), before) || !slices.Equal(second, kept) {
				t.Fatalf("Walk of %d on %v shares memory", key, o)
			}
		}
	}
}
