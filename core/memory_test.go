package core

import (
	"cmp"
	"math/rand"
	"reflect"
	"slices"
	"testing"

	"usher/api"
)

// region of memory that a list has, its spare room, too.
type region struct {
	from, to uintptr
	what     string
}

// regions of all lists in a value.
func regions(v reflect.Value, what string, l []region) []region {
	switch v.Kind() {
	case reflect.Struct:
		for i := range v.NumField() {
			l = regions(v.Field(i), what+"."+v.Type().Field(i).Name, l)
		}
	case reflect.Slice:
		if size := uintptr(v.Cap()) * v.Type().Elem().Size(); size > 0 {
			l = append(l, region{v.Pointer(), v.Pointer() + size, what})
		}
		whole := v.Slice(0, v.Cap())
		for i := range whole.Len() {
			l = regions(whole.Index(i), what+" of", l)
		}
	}
	return l
}

// wantApart: do no two of the lists in these values share memory?
func wantApart(t *testing.T, values map[string]any) {
	t.Helper()
	var l []region
	for what, v := range values {
		l = regions(reflect.ValueOf(v), what, l)
	}
	slices.SortFunc(l, func(a, b region) int { return cmp.Compare(a.from, b.from) })
	for i := range l[1:] {
		if l[i].to > l[i+1].from {
			t.Fatalf("%s and %s share memory", l[i].what, l[i+1].what)
		}
	}
}

// roomed: a list with spare room that is filled.
func roomed[E any](l []E, with E) []E {
	more := slices.Concat(l, slices.Repeat([]E{with}, 3))
	return more[:len(l)]
}

// roomy: the same world, with filled spare room behind each list.
func roomy(w api.World) api.World {
	w.Table.Slots = roomed(w.Table.Slots, api.Slot{Gen: -1, Used: true, Key: -2, Backend: -3})
	w.Flows = roomed(w.Flows, tried(waits(-1, -2, -3, -4, -5), -6))
	w.Book.Lives = roomed(w.Book.Lives, retired(-1, -2, -3, -4, -5))
	w.Book.Requests = roomed(w.Book.Requests, joinRequest(-1, -2, -3, -4))
	w.Ring.Spots = roomed(w.Ring.Spots, api.Spot{Hash: -1, Backend: -2})
	w.Health = roomed(w.Health, api.Health{Out: true, Until: -1, Times: -2})
	for i := range w.Health {
		w.Health[i].Marks = roomed(w.Health[i].Marks, true)
	}
	w.Wheel.Lists = roomed(w.Wheel.Lists, nil)
	for i := range w.Wheel.Lists {
		w.Wheel.Lists[i] = roomed(w.Wheel.Lists[i], api.Timer{At: -1, Id: -2})
	}
	return w
}

// whole world: with its spare room laid open.
func whole(w api.World) api.World {
	w = api.World{
		Config: w.Config, Now: w.Now, Bucket: w.Bucket,
		Table: api.Table{Slots: w.Table.Slots[:cap(w.Table.Slots)]},
		Flows: w.Flows[:cap(w.Flows)],
		Book:  api.Book{Lives: w.Book.Lives[:cap(w.Book.Lives)], Requests: w.Book.Requests[:cap(w.Book.Requests)]},
		Ring:  api.Ring{Spots: w.Ring.Spots[:cap(w.Ring.Spots)]},
		// The lists within these two are laid open in copies.
		Health: slices.Clone(w.Health[:cap(w.Health)]),
		Wheel:  api.Wheel{Now: w.Wheel.Now, Lists: slices.Clone(w.Wheel.Lists[:cap(w.Wheel.Lists)])},
	}
	for i := range w.Health {
		w.Health[i].Marks = w.Health[i].Marks[:cap(w.Health[i].Marks)]
	}
	for i := range w.Wheel.Lists {
		w.Wheel.Lists[i] = w.Wheel.Lists[i][:cap(w.Wheel.Lists[i])]
	}
	return w
}

// wantOwn: does the call leave its world as it is, spare room and all, answer the same each time, and share nothing?
func wantOwn(t *testing.T, w api.World, e api.Event) {
	t.Helper()
	given := roomy(copied(w))
	before := copied(whole(given))
	first, out, err := Do(given, e)
	if !same(whole(given), before) {
		t.Fatalf("Do(%+v, %+v) changes its world, or the room behind it", w, e)
	}
	second, more, again := Do(given, e)
	if !same(first, second) || !slices.Equal(out, more) || err != again {
		t.Fatalf("Do(%+v, %+v) answers otherwise the second time", w, e)
	}
	wantApart(t, map[string]any{"the argument": given, "the first answer": first, "the first outputs": out, "the second answer": second, "the second outputs": more})
}

// No argument is changed, and what is answered is new memory.
func TestNothingShared(t *testing.T) {
	dice := rand.New(rand.NewSource(15))
	for range 1500 {
		w := drawnWorld(dice)
		wantOwn(t, w, tick)
		wantOwn(t, w, drawnEvent(dice, w))
	}
	w := peopled()
	for _, f := range w.Flows {
		for _, e := range []api.Event{of(api.Data, f), of(api.Close, f), good(f), bad(f)} {
			wantOwn(t, w, e)
		}
	}
	for _, e := range []api.Event{opens(3), {Kind: api.Data, Slot: 1}, asksJoin(3, 1, 1), asksJoin(30, 1, 1), asksJoin(30, 11, 1), asksRetire(30, 1), asksRetire(30, 5), tick, {}, opens(-1)} {
		wantOwn(t, w, e)
		wantOwn(t, changed(w, func(w *api.World) { w.Bucket.Tokens = -1 }), e)
		wantOwn(t, begun(config()), e)
	}
}

func TestBeginsApart(t *testing.T) {
	first, _ := Begin(config())
	second, _ := Begin(config())
	wantApart(t, map[string]any{"the first": first, "the second": second})
}

// Nothing is kept: what was done to one world says nothing of another.
func TestNothingIsKept(t *testing.T) {
	w, f := twoBackends()
	want := led(w, func(w *api.World) {
		*flowIn(w, 1) = serves(waits(1, 4, 9, 3, 70))
		w.Health[3].Marks = []bool{false}
	})
	for range 3 {
		wantDo(t, w, good(f), want, outOf(api.Serve, f))
		wantNo(t, api.World{}, good(f), api.ErrState)
		Do(w, bad(f))
		Do(peopled(), tick)
	}
}

// No world makes a call panic, whatever is in it or is missing.
func TestOddWorlds(t *testing.T) {
	dice := rand.New(rand.NewSource(16))
	odd := slices.Concat(negatives, huge, []int{0, 1, 12, 40})
	for range 3000 {
		w := drawnWorld(dice)
		for range 1 + dice.Intn(3) {
			numbers := numbersOf(&w)
			*numbers[dice.Intn(len(numbers))] = oneOf(dice, odd...)
		}
		cut(dice, &w)
		Do(w, drawnEvent(dice, w))
		Do(w, tick)
	}
	wantMayNot(t, "the zero value", api.World{})
}

// cut a list short, or away.
func cut(dice *rand.Rand, w *api.World) {
	switch dice.Intn(9) {
	case 0:
		w.Table.Slots = w.Table.Slots[:dice.Intn(len(w.Table.Slots))]
	case 1:
		w.Flows = w.Flows[:dice.Intn(len(w.Flows)+1)]
	case 2:
		w.Book.Lives = w.Book.Lives[:dice.Intn(len(w.Book.Lives)+1)]
	case 3:
		w.Ring.Spots = nil
	case 4:
		w.Health = w.Health[:dice.Intn(12)]
	case 5:
		w.Wheel.Lists = w.Wheel.Lists[:dice.Intn(25)]
	}
}

// What comes of it: each flow that is taken ends once, or is live, and a drain ends by its deadline.
func TestWhatComesOfIt(t *testing.T) {
	dice := rand.New(rand.NewSource(17))
	for range 30 {
		w, _ := Begin(drawnConfig(dice))
		for b := range backends {
			w, _, _ = Do(w, asksJoin(2000+b, b, 1+dice.Intn(8)))
		}
		live := map[api.Handle]int{}
		for range 300 {
			e := drawnEvent(dice, w)
			next, out, err := Do(w, e)
			if err != api.OK {
				t.Fatal(err)
			}
			w = next
			for _, o := range out {
				h := api.Handle{Slot: o.Slot, Gen: o.Gen}
				switch n := live[h]; {
				case o.Kind == api.Accept && n == 0:
					live[h] = 1
				case (o.Kind == api.Closed || o.Kind == api.Reset) && n == 1:
					live[h] = 2
				case o.Kind == api.Accept || o.Kind == api.Closed || o.Kind == api.Reset:
					t.Fatalf("%+v of a flow that is not live, or has been", o)
				}
			}
			for _, f := range w.Flows {
				if live[f.Handle] != 1 {
					t.Fatalf("%+v is at work, but not live", f)
				}
			}
			for _, l := range w.Book.Lives {
				if l.State == api.Draining && l.Until <= w.Now {
					t.Fatalf("%+v drains at %d", l, w.Now)
				}
			}
		}
		if len(live) == 0 {
			t.Errorf("no flow was taken: %+v", w.Config)
		}
	}
}
