package life

import "usher/api"

// mayBe: no more is looked at than may be there, however much is handed in.
func mayBe(b api.Book) bool {
	return len(b.Lives) <= api.MaxBackends && livesMayBe(b.Lives) &&
		len(b.Requests) <= api.MaxRequests && requestsMayBe(b.Requests)
}

func livesMayBe(lives []api.Life) bool {
	for i, l := range lives {
		if !lifeMayBe(l) || i > 0 && lives[i-1].Backend >= l.Backend {
			return false
		}
	}
	return true
}

func lifeMayBe(l api.Life) bool {
	switch l.State {
	case api.Joining:
		return inBounds(l) && l == joining(l.Backend, l.Weight)
	case api.Active:
		return inBounds(l) && l.Until == 0 && l.Request == 0
	case api.Draining, api.Retired:
		return inBounds(l)
	}
	return false
}

// inBounds: are all numbers of a life but its state? A drain that is asked for at the last tick ends beyond it.
func inBounds(l api.Life) bool {
	return isBackend(l.Backend) && isWeight(l.Weight) && within(l.Since, 0, api.MaxTick) &&
		within(l.Until, 0, api.MaxTick+api.MaxSpan) && within(l.Request, 0, api.MaxRequest)
}

// joining: the life of a backend that has asked to join; nothing else is known of it yet.
func joining(backend, weight int) api.Life {
	return api.Life{Backend: backend, State: api.Joining, Weight: weight}
}

// requestsMayBe: the map has one place for each Id, so it has fewer of them than there are requests, if an Id is twice there.
func requestsMayBe(requests []api.Request) bool {
	places := map[int]int{}
	for i, r := range requests {
		if !requestMayBe(r) {
			return false
		}
		places[r.Id] = i
	}
	return len(places) == len(requests)
}

func requestMayBe(r api.Request) bool {
	return within(r.Id, 0, api.MaxRequest) && (r.Kind == api.AskJoin || r.Kind == api.AskRetire)
}

func isBackend(n int) bool { return within(n, 0, api.MaxBackends-1) }

func isWeight(n int) bool { return within(n, 1, api.MaxWeight) }

func within(number, least, most int) bool {
	return number >= least && number <= most
}
