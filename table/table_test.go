package table

import (
	"fmt"
	"math"
	"math/rand"
	"slices"
	"testing"

	"usher/api"
)

// The faces stay as the chapter writes them.
var (
	_ func(api.Table) api.Errno                                    = Check
	_ func(int) (api.Table, api.Errno)                             = Make
	_ func(api.Table, int, int) (api.Table, api.Handle, api.Errno) = Put
	_ func(api.Table, api.Handle) (api.Slot, api.Errno)            = Get
	_ func(api.Table, api.Handle) (api.Table, api.Errno)           = Drop
	_ func(api.Table, api.Handle, int) (api.Table, api.Errno)      = Move
	_ func(api.Table) ([]int, api.Errno)                           = Counts
	_ func(api.Table, int) ([]api.Handle, api.Errno)               = Of
)

const (
	maxKey   = 1<<32 - 1
	backends = 12
	maxFlows = 40
	maxGen   = 1 << 20
)

var (
	wrongKeys     = []int{-1, -300, -maxKey, math.MinInt, maxKey + 1, 1 << 33, math.MaxInt}
	wrongBackends = []int{-1, -12, -256, math.MinInt, backends, backends + 1, 256, 1 << 32, math.MaxInt}
	wrongSizes    = []int{0, -1, -40, math.MinInt, maxFlows + 1, maxFlows + 2, 1 << 32, math.MaxInt}
)

func used(gen, key, backend int) api.Slot {
	return api.Slot{Gen: gen, Used: true, Key: key, Backend: backend}
}

func free(gen int) api.Slot { return api.Slot{Gen: gen} }

func of(l ...api.Slot) api.Table { return api.Table{Slots: l} }

// many slots that are the same.
func many(n int, s api.Slot) api.Table { return of(slices.Repeat([]api.Slot{s}, n)...) }

func same(a, b api.Table) bool { return slices.Equal(a.Slots, b.Slots) }

// isZero: as a table must be beside an error.
func isZero(t api.Table) bool { return len(t.Slots) == 0 }

// but: a table with one slot made another.
func but(t api.Table, i int, s api.Slot) api.Table {
	l := slices.Clone(t.Slots)
	l[i] = s
	return api.Table{Slots: l}
}

// several flows of several backends, between slots that are free, new, used up or nearly so.
func several() api.Table {
	return of(used(0, 7, 3), free(maxGen), used(5, 0, 0), used(maxGen-1, maxKey, 11), free(2), used(1, 7, 3),
		free(0), used(2, 300, 0), free(maxGen-1), used(0, 8, 3), used(4, 65536, 5))
}

// some tables that may be.
func some() map[string]api.Table {
	full := many(maxFlows, free(0))
	for i := range full.Slots {
		full.Slots[i] = used(i*7, i*1000003, i%backends)
	}
	return map[string]api.Table{
		"one free slot":               of(free(0)),
		"one slot used":               of(used(0, 0, 0)),
		"one slot, all at their most": of(used(maxGen-1, maxKey, backends-1)),
		"one slot, all but used up":   of(free(maxGen - 1)),
		"one slot, used up":           of(free(maxGen)),
		"two slots":                   of(free(3), used(4, 5, 6)),
		"several flows":               several(),
		"without a free slot":         of(used(0, 1, 2), used(3, 4, 5), used(6, 7, 8)),
		"all free ones used up":       of(used(0, 1, 2), free(maxGen), used(6, 7, 8), free(maxGen)),
		"40 free slots":               many(maxFlows, free(0)),
		"40 slots, used up":           many(maxFlows, free(maxGen)),
		"39 used up, the last free":   but(many(maxFlows, free(maxGen)), maxFlows-1, free(9)),
		"40 flows of one":             many(maxFlows, used(1, 2, 11)),
		"40 flows":                    full,
	}
}

// wrongSlots: slots that no table may have.
func wrongSlots() []api.Slot {
	l := []api.Slot{
		used(-1, 0, 0), used(maxGen, 0, 0), used(maxGen+1, 7, 3), used(math.MinInt, 7, 3), used(math.MaxInt, 7, 3),
		free(-1), free(maxGen + 1), free(math.MinInt), free(math.MaxInt),
		used(-1, -1, -1), used(maxGen, maxKey+1, backends),
	}
	for _, key := range wrongKeys {
		l = append(l, used(0, key, 0), used(maxGen-1, key, 11), api.Slot{Key: key})
	}
	for _, b := range wrongBackends {
		l = append(l, used(0, 0, b), used(maxGen-1, maxKey, b), api.Slot{Backend: b})
	}
	for _, gen := range []int{0, 3, maxGen - 1, maxGen} {
		l = append(l, api.Slot{Gen: gen, Key: 1}, api.Slot{Gen: gen, Key: maxKey}, api.Slot{Gen: gen, Backend: 1}, api.Slot{Gen: gen, Backend: 11}, api.Slot{Gen: gen, Key: 7, Backend: 3})
	}
	return l
}

// mayNotBeTold: tables that are refused, by what is wrong in them.
func mayNotBeTold() map[string]api.Table {
	l := map[string]api.Table{
		"no slot, nil":          {},
		"no slot, empty":        {Slots: []api.Slot{}},
		"no slot, but room":     {Slots: make([]api.Slot, 0, 5)},
		"41 slots":              many(maxFlows+1, free(0)),
		"41 flows":              many(maxFlows+1, used(0, 1, 2)),
		"41 slots, used up":     many(maxFlows+1, free(maxGen)),
		"very many slots":       many(100000, free(0)),
		"40 right, then one":    {Slots: append(several().Slots, many(maxFlows-len(several().Slots)+1, free(0)).Slots...)},
		"all of 40 slots wrong": many(maxFlows, used(0, 0, backends)),
	}
	for _, s := range wrongSlots() {
		l[fmt.Sprint("alone ", s)] = of(s)
		for i := range several().Slots {
			l[fmt.Sprint("at ", i, " ", s)] = but(several(), i, s)
		}
		l[fmt.Sprint("the last of 40 ", s)] = but(many(maxFlows, used(0, 1, 2)), maxFlows-1, s)
	}
	return l
}

// P5.1: tables that may be, with spare room or without.
func TestMayBe(t *testing.T) {
	for name, x := range some() {
		for _, l := range [][]api.Slot{x.Slots, slices.Clip(x.Slots), append(make([]api.Slot, 0, 90), x.Slots...)} {
			if e := Check(api.Table{Slots: l}); e != api.OK {
				t.Errorf("%s: %v", name, e)
			}
		}
	}
	for n := 1; n <= maxFlows; n++ {
		if e := Check(many(n, used(n, n, 0))); e != api.OK {
			t.Errorf("%d slots: %v", n, e)
		}
	}
}

// P5.1: all bounds of a slot, each of them with each.
func TestBoundsOfSlots(t *testing.T) {
	gens := []int{math.MinInt, -1, 0, 1, maxGen - 1, maxGen, maxGen + 1, math.MaxInt}
	ks := append([]int{0, 1, 300, maxKey - 1, maxKey}, wrongKeys...)
	bs := append([]int{0, 1, 2, 3, 4, 5, 6, 7, 8, 9, 10, 11}, wrongBackends...)
	for _, gen := range gens {
		for _, key := range ks {
			for _, b := range bs {
				right := 0 <= gen && gen < maxGen && 0 <= key && key <= maxKey && 0 <= b && b < backends
				if e := Check(of(used(gen, key, b))); (e == api.OK) != right || !right && e != api.ErrState {
					t.Errorf("Check of a slot used, %d %d %d: %v", gen, key, b, e)
				}
				right = 0 <= gen && gen <= maxGen && key == 0 && b == 0
				if e := Check(of(api.Slot{Gen: gen, Key: key, Backend: b})); (e == api.OK) != right || !right && e != api.ErrState {
					t.Errorf("Check of a free slot, %d %d %d: %v", gen, key, b, e)
				}
			}
		}
	}
}

// P5.1: tables that may not be are refused by all but Make, ahead of all else.
func TestMayNotBe(t *testing.T) {
	for name, x := range mayNotBeTold() {
		if e := Check(x); e != api.ErrState {
			t.Errorf("%s: Check: %v", name, e)
		}
		if got, e := Counts(x); e != api.ErrState || len(got) != 0 {
			t.Errorf("%s: Counts: %v %v", name, got, e)
		}
		for _, b := range []int{0, 3, 11, -1, backends, math.MinInt, math.MaxInt} {
			refusedState(t, name, x, b)
		}
	}
}

// refusedState: all calls with a backend are refused, whatever key or handle comes with it.
func refusedState(t *testing.T, name string, x api.Table, b int) {
	t.Helper()
	if got, e := Of(x, b); e != api.ErrState || len(got) != 0 {
		t.Errorf("%s: Of %d: %v %v", name, b, got, e)
	}
	for _, key := range []int{0, maxKey, -1, maxKey + 1} {
		if got, h, e := Put(x, key, b); e != api.ErrState || !isZero(got) || h != (api.Handle{}) {
			t.Errorf("%s: Put of %d, %d: %v %v %v", name, key, b, got, h, e)
		}
	}
	for _, h := range []api.Handle{{}, {Slot: 2, Gen: 5}, {Slot: 3, Gen: maxGen - 1}, {Slot: -1}, {Slot: maxFlows}, {Slot: maxFlows + 1}, {Gen: maxGen}, {Slot: math.MinInt, Gen: math.MaxInt}} {
		if got, e := Get(x, h); e != api.ErrState || got != (api.Slot{}) {
			t.Errorf("%s: Get of %v: %v %v", name, h, got, e)
		}
		if got, e := Drop(x, h); e != api.ErrState || !isZero(got) {
			t.Errorf("%s: Drop of %v: %v %v", name, h, got, e)
		}
		if got, e := Move(x, h, b); e != api.ErrState || !isZero(got) {
			t.Errorf("%s: Move of %v to %d: %v %v", name, h, b, got, e)
		}
	}
}

// P5.2: tables of all sizes, one after the other.
func TestMake(t *testing.T) {
	for n := 1; n <= maxFlows; n++ {
		x, e := Make(n)
		if e != api.OK || len(x.Slots) != n || !same(x, many(n, api.Slot{})) || Check(x) != api.OK {
			t.Errorf("Make of %d: %v %v", n, x, e)
		}
	}
	for _, n := range wrongSizes {
		if x, e := Make(n); e != api.ErrRange || !isZero(x) {
			t.Errorf("Make of %d: %v %v", n, x, e)
		}
	}
}

// P5.3: the first free slot that has handles left, in all places where it may be.
func TestPut(t *testing.T) {
	for _, c := range []struct {
		name string
		x    api.Table
		want api.Handle
	}{
		{"one slot", of(free(0)), api.Handle{}},
		{"one slot that was used", of(free(4)), api.Handle{Gen: 4}},
		{"the last handle of a slot", of(free(maxGen - 1)), api.Handle{Gen: maxGen - 1}},
		{"two that are free", of(free(6), free(0)), api.Handle{Gen: 6}},
		{"behind one that is used", of(used(0, 0, 0), free(2), free(1)), api.Handle{Slot: 1, Gen: 2}},
		{"behind one that is used up", of(free(maxGen), free(2), free(1)), api.Handle{Slot: 1, Gen: 2}},
		{"several", several(), api.Handle{Slot: 4, Gen: 2}},
		{"ahead of those that are used", of(free(1), used(0, 7, 3), used(0, 7, 3)), api.Handle{Gen: 1}},
		{"the last of 40", some()["39 used up, the last free"], api.Handle{Slot: maxFlows - 1, Gen: 9}},
		{"the first of 40", many(maxFlows, free(0)), api.Handle{}},
	} {
		for _, key := range []int{0, 1, 7, 300, maxKey - 1, maxKey} {
			for b := range backends {
				got, h, e := Put(c.x, key, b)
				if e != api.OK || h != c.want || !same(got, but(c.x, h.Slot, used(h.Gen, key, b))) || Check(got) != api.OK {
					t.Errorf("%s: Put of %d, %d: %v %v %v, want %v", c.name, key, b, got, h, e, c.want)
				}
			}
		}
	}
}

// P5.3: a key that has a flow gets another one; a table fills up slot by slot.
func TestPutTillFull(t *testing.T) {
	for _, n := range []int{1, 2, 7, maxFlows} {
		x, _ := Make(n)
		for i := range n {
			next, h, e := Put(x, 7, 3)
			if e != api.OK || h != (api.Handle{Slot: i}) || !same(next, but(x, i, used(0, 7, 3))) {
				t.Fatalf("Put %d of %d: %v %v %v", i, n, next, h, e)
			}
			x = next
		}
		refusedPut(t, x, 7, 3, api.ErrFull)
	}
}

func refusedPut(t *testing.T, x api.Table, key, b int, want api.Errno) {
	t.Helper()
	if got, h, e := Put(x, key, b); e != want || !isZero(got) || h != (api.Handle{}) {
		t.Errorf("Put of %d, %d to %v: %v %v %v, want %v", key, b, x, got, h, e, want)
	}
}

// P5.3: wrong keys and backends, ahead of a table that is full; then the table.
func TestPutRefused(t *testing.T) {
	for _, x := range some() {
		for _, key := range wrongKeys {
			refusedPut(t, x, key, 3, api.ErrRange)
			refusedPut(t, x, key, -1, api.ErrRange)
			refusedPut(t, x, key, backends, api.ErrRange)
		}
		for _, b := range wrongBackends {
			refusedPut(t, x, 0, b, api.ErrRange)
			refusedPut(t, x, maxKey, b, api.ErrRange)
		}
	}
	for _, name := range []string{"one slot used", "one slot, used up", "without a free slot", "all free ones used up", "40 slots, used up", "40 flows"} {
		refusedPut(t, some()[name], 0, 0, api.ErrFull)
		refusedPut(t, some()[name], maxKey, backends-1, api.ErrFull)
	}
}

// asked of a table: handles of each slot and beside it, of each Gen that is near.
func asked(x api.Table) []api.Handle {
	var l []api.Handle
	n := len(x.Slots)
	for i, s := range x.Slots {
		for _, gen := range []int{s.Gen, s.Gen - 1, s.Gen + 1, 0, -1, maxGen - 1, maxGen, maxGen + 1, math.MinInt, math.MaxInt} {
			l = append(l, api.Handle{Slot: i, Gen: gen})
		}
	}
	for _, i := range []int{-1, -n, n, n + 1, maxFlows, -maxFlows, math.MinInt, math.MaxInt} {
		for _, gen := range []int{0, 1, -1, maxGen, x.Slots[0].Gen, x.Slots[n-1].Gen} {
			l = append(l, api.Handle{Slot: i, Gen: gen})
		}
	}
	return l
}

// getTold: what the chapter asks of a handle.
func getTold(x api.Table, h api.Handle) (api.Slot, api.Errno) {
	for i, s := range x.Slots {
		if i == h.Slot && s.Used && s.Gen == h.Gen {
			return s, api.OK
		}
		if i == h.Slot {
			return api.Slot{}, api.ErrStale
		}
	}
	return api.Slot{}, api.ErrNone
}

// P5.4: by hand: the slot of a handle, and the errors of others.
func TestGet(t *testing.T) {
	x := several()
	last := len(x.Slots) - 1
	for _, c := range []struct {
		name string
		h    api.Handle
		want api.Slot
		err  api.Errno
	}{
		{"the first one", api.Handle{}, used(0, 7, 3), api.OK},
		{"key and backend 0", api.Handle{Slot: 2, Gen: 5}, used(5, 0, 0), api.OK},
		{"all at their most", api.Handle{Slot: 3, Gen: maxGen - 1}, used(maxGen-1, maxKey, 11), api.OK},
		{"the last slot", api.Handle{Slot: last, Gen: 4}, used(4, 65536, 5), api.OK},
		{"one beyond the last", api.Handle{Slot: last + 1, Gen: 4}, api.Slot{}, api.ErrNone},
		{"below 0", api.Handle{Slot: -1}, api.Slot{}, api.ErrNone},
		{"below 0 and of a wrong Gen", api.Handle{Slot: -1, Gen: -1}, api.Slot{}, api.ErrNone},
		{"an earlier Gen", api.Handle{Slot: 2, Gen: 4}, api.Slot{}, api.ErrStale},
		{"a later Gen", api.Handle{Slot: 2, Gen: 6}, api.Slot{}, api.ErrStale},
		{"a Gen that can't be", api.Handle{Slot: 2, Gen: -1}, api.Slot{}, api.ErrStale},
		{"a free slot, its Gen", api.Handle{Slot: 4, Gen: 2}, api.Slot{}, api.ErrStale},
		{"a free slot, the Gen ahead", api.Handle{Slot: 4, Gen: 1}, api.Slot{}, api.ErrStale},
		{"a free slot, the Gen 0", api.Handle{Slot: 6}, api.Slot{}, api.ErrStale},
		{"a slot that is used up", api.Handle{Slot: 1, Gen: maxGen}, api.Slot{}, api.ErrStale},
	} {
		if got, e := Get(x, c.h); e != c.err || got != c.want {
			t.Errorf("%s: %v %v, want %v %v", c.name, got, e, c.want, c.err)
		}
	}
}

// P5.4, P5.5, P5.6: all handles near a table's own.
func TestHandles(t *testing.T) {
	for name, x := range some() {
		for _, h := range asked(x) {
			s, want := getTold(x, h)
			if got, e := Get(x, h); e != want || got != s {
				t.Errorf("%s: Get of %v: %v %v, want %v %v", name, h, got, e, s, want)
			}
			dropped(t, name, x, h, want)
			moved(t, name, x, h, s, want)
		}
	}
}

// P5.5: a slot that is dropped is free, with the Gen one more, and the others are as they were.
func dropped(t *testing.T, name string, x api.Table, h api.Handle, want api.Errno) {
	t.Helper()
	got, e := Drop(x, h)
	if want != api.OK {
		if e != want || !isZero(got) {
			t.Errorf("%s: Drop of %v: %v %v, want %v", name, h, got, e, want)
		}
		return
	}
	if e != api.OK || !same(got, but(x, h.Slot, free(h.Gen+1))) || Check(got) != api.OK {
		t.Errorf("%s: Drop of %v: %v %v", name, h, got, e)
	}
	if again, e := Drop(got, h); e != api.ErrStale || !isZero(again) {
		t.Errorf("%s: Drop of %v once more: %v %v", name, h, again, e)
	}
}

// P5.6: only the Backend is another; the backend that can't be is told behind what Get refuses.
func moved(t *testing.T, name string, x api.Table, h api.Handle, s api.Slot, want api.Errno) {
	t.Helper()
	for b := range backends {
		got, e := Move(x, h, b)
		if want != api.OK {
			if e != want || !isZero(got) {
				t.Errorf("%s: Move of %v to %d: %v %v, want %v", name, h, b, got, e, want)
			}
		} else if e != api.OK || !same(got, but(x, h.Slot, used(s.Gen, s.Key, b))) || Check(got) != api.OK {
			t.Errorf("%s: Move of %v to %d: %v %v", name, h, b, got, e)
		}
	}
	if want == api.OK {
		want = api.ErrRange
	}
	for _, b := range wrongBackends {
		if got, e := Move(x, h, b); e != want || !isZero(got) {
			t.Errorf("%s: Move of %v to %d: %v %v, want %v", name, h, b, got, e, want)
		}
	}
}

// P5.5: the last handle of a slot, when dropped, leaves the slot to nobody.
func TestDropOfTheLastHandle(t *testing.T) {
	x, e := Drop(of(used(maxGen-1, 7, 3)), api.Handle{Gen: maxGen - 1})
	if e != api.OK || !same(x, of(free(maxGen))) {
		t.Fatalf("Drop: %v %v", x, e)
	}
	refusedPut(t, x, 7, 3, api.ErrFull)
	for _, gen := range []int{0, maxGen - 1, maxGen} {
		if s, e := Get(x, api.Handle{Gen: gen}); e != api.ErrStale || s != (api.Slot{}) {
			t.Errorf("Get of the Gen %d: %v %v", gen, s, e)
		}
	}
}

// P5.7: by hand: flows of several backends, free slots not counted.
func TestCounts(t *testing.T) {
	for _, c := range []struct {
		name string
		x    api.Table
		want []int
	}{
		{"several", several(), []int{2, 0, 0, 3, 0, 1, 0, 0, 0, 0, 0, 1}},
		{"one free slot", of(free(0)), make([]int, backends)},
		{"40 free slots", many(maxFlows, free(3)), make([]int, backends)},
		{"40 slots, used up", many(maxFlows, free(maxGen)), make([]int, backends)},
		{"one flow of 0", of(used(0, 0, 0)), []int{1, 0, 0, 0, 0, 0, 0, 0, 0, 0, 0, 0}},
		{"40 flows of 11", many(maxFlows, used(1, 2, 11)), []int{0, 0, 0, 0, 0, 0, 0, 0, 0, 0, 0, 40}},
		{"40 flows", some()["40 flows"], []int{4, 4, 4, 4, 3, 3, 3, 3, 3, 3, 3, 3}},
	} {
		if got, e := Counts(c.x); e != api.OK || !slices.Equal(got, c.want) {
			t.Errorf("%s: %v %v, want %v", c.name, got, e, c.want)
		}
	}
}

// P5.8: by hand: handles by their slots, whatever their Gens.
func TestOf(t *testing.T) {
	last := api.Handle{Slot: maxFlows - 1, Gen: 2}
	for _, c := range []struct {
		name    string
		x       api.Table
		backend int
		want    []api.Handle
	}{
		{"three flows", several(), 3, []api.Handle{{}, {Slot: 5, Gen: 1}, {Slot: 9}}},
		{"the backend 0, not the free ones", several(), 0, []api.Handle{{Slot: 2, Gen: 5}, {Slot: 7, Gen: 2}}},
		{"the backend 11", several(), 11, []api.Handle{{Slot: 3, Gen: maxGen - 1}}},
		{"a backend without flows", several(), 4, nil},
		{"free slots alone", many(maxFlows, free(0)), 0, nil},
		{"Gens that fall", of(used(9, 1, 2), used(5, 1, 2), used(0, 1, 2)), 2, []api.Handle{{Gen: 9}, {Slot: 1, Gen: 5}, {Slot: 2}}},
		{"the last of 40", but(many(maxFlows, free(1)), maxFlows-1, used(2, 0, 6)), 6, []api.Handle{last}},
	} {
		if got, e := Of(c.x, c.backend); e != api.OK || !slices.Equal(got, c.want) {
			t.Errorf("%s: %v %v, want %v", c.name, got, e, c.want)
		}
	}
	for name, x := range some() {
		for _, b := range wrongBackends {
			if got, e := Of(x, b); e != api.OK || len(got) != 0 {
				t.Errorf("%s: Of %d: %v %v", name, b, got, e)
			}
		}
	}
}

// addsUp: counts add up to the flows, and each flow is told once, of its own backend.
func addsUp(t *testing.T, x api.Table) {
	t.Helper()
	counts, e := Counts(x)
	if e != api.OK || len(counts) != backends {
		t.Fatalf("Counts of %v: %v %v", x, counts, e)
	}
	flows, sum := 0, 0
	for _, s := range x.Slots {
		if s.Used {
			flows++
		}
	}
	for b := range backends {
		sum += counts[b]
		l, e := Of(x, b)
		if e != api.OK || len(l) != counts[b] {
			t.Fatalf("Of %d in %v: %v %v", b, x, l, e)
		}
		for i, h := range l {
			if s, e := Get(x, h); e != api.OK || s.Backend != b || i > 0 && l[i-1].Slot >= h.Slot {
				t.Fatalf("Of %d in %v: %v, of which %v is %v %v", b, x, l, h, s, e)
			}
		}
	}
	if sum != flows {
		t.Fatalf("Counts of %v: %v for %d flows", x, counts, flows)
	}
}

// What comes of it: counts add up to the flows.
func TestCountsAddUp(t *testing.T) {
	for _, x := range some() {
		addsUp(t, x)
	}
}

// kept of flows: a plain list of what was put, beside the table.
type kept struct {
	flows map[api.Handle]api.Slot
	gone  []api.Handle
	free  []int // Gens of the slots, the used ones -1
}

// put as the chapter says, on the plain list.
func (k *kept) put(key, b int) (api.Handle, bool) {
	i := slices.IndexFunc(k.free, func(gen int) bool { return gen >= 0 && gen < maxGen })
	if i < 0 {
		return api.Handle{}, false
	}
	h := api.Handle{Slot: i, Gen: k.free[i]}
	k.flows[h] = used(h.Gen, key, b)
	k.free[i] = -1
	return h, true
}

func (k *kept) drop(h api.Handle) {
	delete(k.flows, h)
	k.gone = append(k.gone, h)
	k.free[h.Slot] = h.Gen + 1
}

// table of the plain list.
func (k *kept) table() api.Table {
	l := make([]api.Slot, len(k.free))
	for i, gen := range k.free {
		l[i] = free(gen)
	}
	for h, s := range k.flows {
		l[h.Slot] = s
	}
	return api.Table{Slots: l}
}

// drawn: a handle of a flow that is there, if there is one; of one that is gone; or any.
func (k *kept) drawn(dice *rand.Rand) api.Handle {
	other := api.Handle{Slot: dice.Intn(len(k.free)+2) - 1, Gen: dice.Intn(5)}
	switch dice.Intn(3) {
	case 0:
		if len(k.gone) > 0 {
			return k.gone[dice.Intn(len(k.gone))]
		}
	case 1:
		for range 30 {
			if h := (api.Handle{Slot: dice.Intn(len(k.free)), Gen: dice.Intn(40)}); k.flows[h].Used {
				return h
			}
		}
	}
	return other
}

// step: one drawn call, held against the plain list; the table behind it.
func (k *kept) step(t *testing.T, dice *rand.Rand, x api.Table) api.Table {
	t.Helper()
	h, b := k.drawn(dice), dice.Intn(backends)
	_, want := getTold(x, h)
	var got api.Table
	var e api.Errno
	switch dice.Intn(4) {
	case 0:
		if got, e = Drop(x, h); e == api.OK && want == api.OK {
			k.drop(h)
		}
	case 1:
		if got, e = Move(x, h, b); e == api.OK && want == api.OK {
			k.flows[h] = used(h.Gen, k.flows[h].Key, b)
		}
	default:
		var g api.Handle
		key := dice.Intn(maxKey + 1)
		got, g, e = Put(x, key, b)
		told, ok := k.put(key, b)
		if want = api.OK; !ok {
			want = api.ErrFull
		}
		if g != told {
			t.Fatalf("Put of %d, %d to %v: %v, want %v", key, b, x, g, told)
		}
	}
	if e != want || e == api.OK && !same(got, k.table()) || e != api.OK && !isZero(got) {
		t.Fatalf("a call with %v on %v: %v %v, want %v %v", h, x, got, e, k.table(), want)
	}
	if e == api.OK {
		return got
	}
	return x
}

// What comes of it: drawn flows come, move and go, held against a plain list; a handle that was dropped is never good again.
func TestDroppedIsNeverGoodAgain(t *testing.T) {
	for _, n := range []int{1, 2, 5, maxFlows} {
		dice := rand.New(rand.NewSource(int64(n)))
		x, _ := Make(n)
		k := kept{flows: map[api.Handle]api.Slot{}, free: make([]int, n)}
		for range 600 {
			x = k.step(t, dice, x)
			addsUp(t, x)
			for h, s := range k.flows {
				if got, e := Get(x, h); e != api.OK || got != s {
					t.Fatalf("Get of %v in %v: %v %v, want %v", h, x, got, e, s)
				}
			}
			for _, h := range k.gone {
				if s, e := Get(x, h); e != api.ErrStale || s != (api.Slot{}) {
					t.Fatalf("%v was dropped, yet Get in %v: %v %v", h, x, s, e)
				}
			}
		}
	}
}

// What comes of it: a slot gives each handle once, up to its last one, and is then left alone.
func TestEachHandleOnce(t *testing.T) {
	x := of(free(maxGen-3), free(maxGen-2), used(maxGen-1, 1, 1))
	seen := map[api.Handle]int{{Slot: 2, Gen: maxGen - 1}: 1}
	for _, want := range []api.Handle{{Gen: maxGen - 3}, {Gen: maxGen - 2}, {Gen: maxGen - 1}, {Slot: 1, Gen: maxGen - 2}, {Slot: 1, Gen: maxGen - 1}} {
		next, h, e := Put(x, 7, 3)
		if seen[h]++; e != api.OK || h != want || seen[h] > 1 {
			t.Fatalf("Put to %v: %v %v, want %v", x, h, e, want)
		}
		if x, e = Drop(next, h); e != api.OK {
			t.Fatalf("Drop of %v: %v", h, e)
		}
	}
	refusedPut(t, x, 7, 3, api.ErrFull)
	if !same(x, of(free(maxGen), free(maxGen), used(maxGen-1, 1, 1))) {
		t.Errorf("the table at last: %v", x)
	}
}

// roomy: a table with spare room that is filled with the same numbers each time.
func roomy(x api.Table) api.Table {
	room := append(make([]api.Slot, 0, len(x.Slots)+9), x.Slots...)
	for i := len(x.Slots); i < cap(room); i++ {
		room[:cap(room)][i] = used(-7, -8, -9)
	}
	return api.Table{Slots: room}
}

// whole table, its spare room, too.
func whole(x api.Table) []api.Slot { return slices.Clone(x.Slots[:cap(x.Slots)]) }

// scribble over a list and its spare room.
func scribble[E any](l []E, with E) {
	for i := range l[:cap(l)] {
		l[:cap(l)][i] = with
	}
}

// calls that answer a table, some of which are refused.
var calls = []func(x api.Table, h api.Handle) (api.Table, api.Errno){
	func(x api.Table, h api.Handle) (api.Table, api.Errno) { got, _, e := Put(x, 7, 3); return got, e },
	func(x api.Table, h api.Handle) (api.Table, api.Errno) { got, _, e := Put(x, -1, 3); return got, e },
	func(x api.Table, h api.Handle) (api.Table, api.Errno) { return Drop(x, h) },
	func(x api.Table, h api.Handle) (api.Table, api.Errno) { return Move(x, h, 6) },
	func(x api.Table, h api.Handle) (api.Table, api.Errno) { return Move(x, h, x.Slots[0].Backend) },
	func(x api.Table, h api.Handle) (api.Table, api.Errno) { return Move(x, h, backends) },
	func(x api.Table, h api.Handle) (api.Table, api.Errno) { _, e := Get(x, h); return api.Table{}, e },
	func(x api.Table, h api.Handle) (api.Table, api.Errno) { return api.Table{}, Check(x) },
	func(x api.Table, h api.Handle) (api.Table, api.Errno) { return Make(len(x.Slots)) },
}

// No call changes the table that it was given, nor its spare room; what it answers has memory of its own.
func TestNothingShared(t *testing.T) {
	for name, x := range some() {
		for _, h := range asked(x) {
			for i, call := range calls {
				given := roomy(x)
				before := whole(given)
				first, e := call(given, h)
				if !slices.Equal(whole(given), before) {
					t.Fatalf("call %d of %v changed its table: %s", i, h, name)
				}
				second, again := call(given, h)
				if e != again || !same(first, second) {
					t.Fatalf("call %d of %v answers otherwise the second time: %s", i, h, name)
				}
				stays := slices.Clone(second.Slots)
				scribble(first.Slots, used(-1, -2, -3))
				if !slices.Equal(whole(given), before) || !slices.Equal(second.Slots, stays) {
					t.Fatalf("call %d of %v: what it answers shares memory: %s", i, h, name)
				}
				scribble(given.Slots, used(-4, -5, -6))
				if !slices.Equal(second.Slots, stays) {
					t.Fatalf("call %d of %v keeps its table: %s", i, h, name)
				}
			}
		}
	}
}

// Counts and handles are new memory each time, and the table stays as it is.
func TestListsShareNothing(t *testing.T) {
	for name, x := range some() {
		given := roomy(x)
		before := whole(given)
		for b := -1; b <= backends; b++ {
			first, _ := Of(given, b)
			second, _ := Of(given, b)
			stays := slices.Clone(second)
			scribble(first, api.Handle{Slot: -1, Gen: -2})
			if !slices.Equal(second, stays) || !slices.Equal(whole(given), before) {
				t.Fatalf("%s: Of %d shares memory", name, b)
			}
		}
		first, _ := Counts(given)
		second, _ := Counts(given)
		stays := slices.Clone(second)
		scribble(first, -1)
		if !slices.Equal(second, stays) || !slices.Equal(whole(given), before) {
			t.Fatalf("%s: Counts share memory", name)
		}
	}
}
