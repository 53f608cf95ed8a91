// Package hash: where keys and backends lie on the ring.
package hash

import "usher/api"

// Where everything lies hangs on these four numbers: with others each flow would go elsewhere.
const (
	mixStart  = 2166136261
	mixFactor = 16777619
	spotHead  = 98
	spotTail  = 115
)

// maxSpots that one backend can have, at its greatest weight.
const maxSpots = api.MaxWeight * api.Spots

// Key: where a flow's key lies.
func Key(key int) (int, api.Errno) {
	if key < 0 || key > api.MaxKey {
		return 0, api.ErrRange
	}
	return mix(byte(key), byte(key>>8), byte(key>>16), byte(key>>24)), api.OK
}

// Spot: where a backend's spot lies.
func Spot(backend, i int) (int, api.Errno) {
	if backend < 0 || backend >= api.MaxBackends || i < 0 || i >= maxSpots {
		return 0, api.ErrRange
	}
	return mix(spotHead, byte(backend), byte(i), spotTail), api.OK
}

// mix bytes into a place: a sum of 32 bits, so that what is above them is lost by itself.
func mix(l ...byte) int {
	sum := uint32(mixStart)
	for _, b := range l {
		sum = (sum ^ uint32(b)) * mixFactor
	}
	return int(sum)
}
