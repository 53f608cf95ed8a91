package gate

import (
	"cmp"
	"math/rand"
	"reflect"
	"slices"
	"testing"

	"usher/api"
)

// region of memory that a list has, its spare room, too.
type region struct {
	from, to uintptr
	what     string
}

// regions of all lists in a value.
func regions(v reflect.Value, what string, l []region) []region {
	switch v.Kind() {
	case reflect.Struct:
		for i := range v.NumField() {
			l = regions(v.Field(i), what+"."+v.Type().Field(i).Name, l)
		}
	case reflect.Slice:
		if size := uintptr(v.Cap()) * v.Type().Elem().Size(); size > 0 {
			l = append(l, region{v.Pointer(), v.Pointer() + size, what})
		}
		whole := v.Slice(0, v.Cap())
		for i := range whole.Len() {
			l = regions(whole.Index(i), what+" of", l)
		}
	}
	return l
}

// wantApart: do no two of the lists in these values share memory?
func wantApart(t *testing.T, values map[string]any) {
	t.Helper()
	var l []region
	for what, v := range values {
		l = regions(reflect.ValueOf(v), what, l)
	}
	slices.SortFunc(l, func(a, b region) int { return cmp.Compare(a.from, b.from) })
	for i := range max(0, len(l)-1) {
		if l[i].to > l[i+1].from {
			t.Fatalf("%s and %s share memory", l[i].what, l[i+1].what)
		}
	}
}

// roomyEvents: the same events, with filled spare room behind them.
func roomyEvents(l []api.Event) []api.Event {
	return slices.Concat(l, []api.Event{{Kind: 8, Key: -1}, opens(5), tick})[:len(l)]
}

// roomyFrames: the same frames, with filled spare room behind the list and behind each of them.
func roomyFrames(l [][]byte) [][]byte {
	l = slices.Concat(l, [][]byte{{7}, {1, 5}, {255, 255}})[:len(l)]
	for i, b := range l[:cap(l)] {
		l[:cap(l)][i] = slices.Concat(b, []byte{7, 128, 255})[:len(b)]
	}
	return l
}

// wholeFrames: a copy of all bytes, with those of the spare room.
func wholeFrames(l [][]byte) [][]byte {
	var all [][]byte
	for _, b := range l[:cap(l)] {
		all = append(all, slices.Clone(b[:cap(b)]))
	}
	return all
}

// wantOwnRun: does Run leave its events as they are, spare room and all, answer the same each time, and share nothing?
func wantOwnRun(t *testing.T, c api.Config, l []api.Event) {
	t.Helper()
	given := roomyEvents(l)
	before := slices.Clone(given[:cap(given)])
	w, out, err := Run(c, given)
	again, more, other := Run(c, given)
	if !slices.Equal(given[:cap(given)], before) {
		t.Fatalf("Run of %s changes its list, or the room behind it", brief(l))
	}
	if text(w) != text(again) || text(out) != text(more) || err != other {
		t.Fatalf("Run of %s answers otherwise the second time", brief(l))
	}
	wantApart(t, map[string]any{"the list": given, "the world": w, "the outputs": out, "the second world": again, "the second outputs": more})
}

// wantOwnPlay: the same of Play.
func wantOwnPlay(t *testing.T, c api.Config, l [][]byte) {
	t.Helper()
	given := roomyFrames(l)
	before := wholeFrames(given)
	w, out, err := Play(c, given)
	again, more, other := Play(c, given)
	if text(wholeFrames(given)) != text(before) {
		t.Fatalf("Play of %s changes its list, or the room behind it", brief(l))
	}
	if text(w) != text(again) || text(out) != text(more) || err != other {
		t.Fatalf("Play of %s answers otherwise the second time", brief(l))
	}
	wantApart(t, map[string]any{"the list": given, "the world": w, "the outputs": out, "the second world": again, "the second outputs": more})
}

// No argument is changed, and what is answered is new memory.
func TestNothingShared(t *testing.T) {
	for _, s := range stories() {
		for i := range len(s.events) + 1 {
			for _, c := range []api.Config{s.c, {}} {
				wantOwnRun(t, c, s.events[:i])
				wantOwnPlay(t, c, frames(s.events[:i]))
			}
		}
	}
	dice := rand.New(rand.NewSource(19))
	for range 60 {
		d := drawn(t, dice, drawnConfig(dice), dice.Intn(100))
		wantOwnRun(t, d.c, d.events)
		wantOwnPlay(t, d.c, d.frames)
	}
	wantOwnRun(t, config(), make([]api.Event, maxEvents+1))
	wantOwnPlay(t, config(), make([][]byte, maxEvents+1))
}

// Nothing is kept from call to call, of what was refused neither.
func TestNothingIsKept(t *testing.T) {
	s, other := longer(), example()
	for range 3 {
		wantBoth(t, s.c, s.events, s.world, s.out)
		noRun(t, api.Config{}, s.events, api.ErrRange)
		noPlay(t, s.c, make([][]byte, maxEvents+1), api.ErrSize)
		wantBoth(t, other.c, other.events, other.world, other.out)
		wantBoth(t, s.c, nil, fresh(s.c), nil)
	}
}

// What was answered does not hang on the lists that were handed in, or on another answer.
func TestAnswersStay(t *testing.T) {
	s := longer()
	l := frames(s.events)
	w, out, _ := Play(s.c, l)
	otherWorld, otherOut, _ := Play(s.c, l)
	for i, b := range l {
		clear(b)
		l[i] = nil
	}
	for i := range otherOut {
		clear(otherOut[i][:cap(otherOut[i])])
	}
	clear(otherWorld.Book.Requests)
	clear(otherWorld.Table.Slots)
	clear(otherWorld.Health)
	if text(w) != text(s.world) || text(out) != text(s.out) {
		t.Errorf("what was answered is now %s, %s", brief(w), brief(out))
	}
}
