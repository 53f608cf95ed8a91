package gate

import (
	"usher/api"
	"usher/wire"
)

// source of an event; the error, an Errno, says why it does not come.
type source interface {
	event() (api.Event, error)
}

// told: an event as it is.
type told api.Event

func (t told) event() (api.Event, error) {
	e := api.Event(t)
	return e, refusal(wire.Check(e))
}

// sent: an event as its bytes.
type sent []byte

func (s sent) event() (api.Event, error) {
	e, err := wire.Decode(s)
	return e, refusal(err)
}

// refusal: OK is an Errno, too, but as an error it must be none.
func refusal(code api.Errno) error {
	if code == api.OK {
		return nil
	}
	return code
}
