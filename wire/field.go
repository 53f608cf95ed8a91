package wire

import "usher/api"

// field of an event: where it stands, and its bounds. It points at a number or, as Good, at a flag, which counts as 0 or 1.
type field struct {
	number *int
	flag   *bool
	low    int
	high   int
}

// fields of an event's kind, in the order of their bytes; false: there is no such kind.
func fields(e *api.Event) ([]field, bool) {
	switch e.Kind {
	case api.Open:
		return []field{{number: &e.Key, high: api.MaxKey}}, true
	case api.Data, api.Close:
		return flowFields(e), true
	case api.Answer:
		return append(flowFields(e), field{flag: &e.Good, high: 1}), true
	case api.Join:
		return append(adminFields(e), field{number: &e.Weight, low: 1, high: api.MaxWeight}), true
	case api.Retire:
		return adminFields(e), true
	case api.Tick:
		return nil, true
	}
	return nil, false
}

// flowFields: those that tell which flow is meant.
func flowFields(e *api.Event) []field {
	return []field{
		{number: &e.Slot, high: api.MaxFlows - 1},
		{number: &e.Gen, high: api.MaxGen},
	}
}

// adminFields: those that tell which request is made, and of which backend.
func adminFields(e *api.Event) []field {
	return []field{
		{number: &e.Request, high: api.MaxRequest},
		{number: &e.Backend, high: api.MaxBackends - 1},
	}
}

func (f field) within(n int) bool { return f.low <= n && n <= f.high }

func (f field) get() int {
	if f.flag == nil {
		return *f.number
	}
	if *f.flag {
		return 1
	}
	return 0
}

func (f field) set(n int) {
	if f.flag == nil {
		*f.number = n
		return
	}
	*f.flag = n == 1
}
