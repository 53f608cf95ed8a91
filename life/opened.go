package life

import (
	"slices"

	"usher/api"
)

// opened: a book at work: a copy that may be changed.
type opened struct {
	api.Book
}

func openedOf(b api.Book) (*opened, api.Errno) {
	if err := Check(b); err != api.OK {
		return nil, err
	}
	return &opened{api.Book{Lives: slices.Clone(b.Lives), Requests: slices.Clone(b.Requests)}}, api.OK
}

// asked: the request with that Id, if there was one.
func (o *opened) asked(id int) (api.Request, bool) {
	i := slices.IndexFunc(o.Requests, func(r api.Request) bool { return r.Id == id })
	if i < 0 {
		return api.Request{}, false
	}
	return o.Requests[i], true
}

// place of a backend: where its life stands, or else would stand; and whether it has one.
func (o *opened) place(backend int) (int, bool) {
	i := slices.IndexFunc(o.Lives, func(l api.Life) bool { return l.Backend >= backend })
	if i < 0 {
		return len(o.Lives), false
	}
	return i, o.Lives[i].Backend == backend
}

// life of a backend, to be changed on the spot; nil: it has none.
func (o *opened) life(backend int) *api.Life {
	i, there := o.place(backend)
	if !there {
		return nil
	}
	return &o.Lives[i]
}

// take a request that is new: it is done, and kept with its answer, so that it does nothing when it comes again.
func (o *opened) take(r api.Request, until int) api.Errno {
	if r.Kind == api.AskJoin {
		r.Answer = o.join(r)
	} else {
		r.Weight = 0
		r.Answer = o.retire(r, until)
	}
	o.Requests = append(o.Requests, r)
	return r.Answer
}

// join: who is retired has a place already, and begins anew there.
func (o *opened) join(r api.Request) api.Errno {
	if !isBackend(r.Backend) || !isWeight(r.Weight) {
		return api.ErrRange
	}
	i, there := o.place(r.Backend)
	if there && o.Lives[i].State != api.Retired {
		return api.ErrTwice
	}
	if !there {
		o.Lives = slices.Insert(o.Lives, i, api.Life{})
	}
	o.Lives[i] = joining(r.Backend, r.Weight)
	return api.OK
}

// retire: who was never active has no flows to wait for, and is gone at once.
func (o *opened) retire(r api.Request, until int) api.Errno {
	life := o.life(r.Backend)
	if life == nil || life.State == api.Retired {
		return api.ErrNone
	}
	switch life.State {
	case api.Draining:
		return api.ErrDone
	case api.Active:
		life.State = api.Draining
	case api.Joining:
		life.State = api.Retired
	}
	life.Until, life.Request = until, r.Id
	return api.OK
}

// wake: lives rise, so those that are told do, too.
func (o *opened) wake(now int) []int {
	var woken []int
	for i := range o.Lives {
		if life := &o.Lives[i]; life.State == api.Joining {
			life.State, life.Since = api.Active, now
			woken = append(woken, life.Backend)
		}
	}
	return woken
}
