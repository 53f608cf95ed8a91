package wheel

import (
	"slices"

	"usher/api"
)

// turning: a wheel at work: a copy that may be changed, and by Id the list in which each timer stands.
type turning struct {
	api.Wheel
	places map[int]int
}

// empty wheel at a tick.
func empty(now int) api.Wheel {
	return api.Wheel{Now: now, Lists: make([][]api.Timer, listCount)}
}

// turningOf a wheel; false: it may not be. No more timers are copied than there are Ids, however many are handed in.
func turningOf(w api.Wheel) (turning, bool) {
	if !isTick(w.Now) || len(w.Lists) != listCount {
		return turning{}, false
	}
	t := turning{Wheel: empty(w.Now), places: map[int]int{}}
	for list, timers := range w.Lists {
		for _, timer := range timers {
			if !t.follows(timer, list) {
				return turning{}, false
			}
			t.put(timer)
		}
	}
	return t, true
}

// follows: may the timer stand in that list, behind those that are there?
func (t *turning) follows(timer api.Timer, list int) bool {
	if !fits(timer, t.Now) || place(timer.At, t.Now) != list || t.has(timer.Id) {
		return false
	}
	ahead := t.Lists[list]
	return len(ahead) == 0 || compareTimers(ahead[len(ahead)-1], timer) < 0
}

func (t *turning) has(id int) bool {
	_, there := t.places[id]
	return there
}

// put a timer at its place.
func (t *turning) put(timer api.Timer) {
	list := place(timer.At, t.Now)
	i, _ := slices.BinarySearchFunc(t.Lists[list], timer, compareTimers)
	t.Lists[list] = slices.Insert(t.Lists[list], i, timer)
	t.places[timer.Id] = list
}

// remove the timer with an Id that is there.
func (t *turning) remove(id int) {
	list := t.places[id]
	t.Lists[list] = slices.DeleteFunc(t.Lists[list], func(timer api.Timer) bool { return timer.Id == id })
	delete(t.places, id)
}

// turn by a tick: only where a block begins do timers change their places, those that waited for it.
func (t *turning) turn() {
	t.Now++
	for level, begins := range begun(t.Now) {
		if begins {
			t.handOn(waiting(level, t.Now))
		}
	}
}

// handOn the timers of a list to their places by now.
func (t *turning) handOn(list int) {
	timers := t.Lists[list]
	t.Lists[list] = nil // those that stay get a list of their own
	for _, timer := range timers {
		t.put(timer)
	}
}

// goOff: the Ids of the timers whose tick has come, which leave the wheel. They are all that stands at this tick's place, by Id.
func (t *turning) goOff() []int {
	list := place(t.Now, t.Now)
	var off []int
	for _, timer := range t.Lists[list] {
		off = append(off, timer.Id)
		delete(t.places, timer.Id)
	}
	t.Lists[list] = nil
	return off
}
