package hash

import (
	"hash/fnv"
	"math"
	"testing"

	"usher/api"
)

// The faces stay as the chapter writes them.
var (
	_ func(int) (int, api.Errno)      = Key
	_ func(int, int) (int, api.Errno) = Spot
)

// reference: the same mix, by the library (tests may ask it, the program may not).
func reference(l ...byte) int {
	h := fnv.New32a()
	h.Write(l)
	return int(h.Sum32())
}

// P1.1: the start, the order of the two steps, the loss above 32 bits, and any number of bytes.
func TestMix(t *testing.T) {
	for _, c := range []struct {
		bytes []byte
		want  int
	}{
		{nil, 2166136261},
		{[]byte{0}, 84696351},
		{[]byte{97}, 3826002220},
		{[]byte{255}, 2047574606},
		{[]byte("foobar"), 3214735720},
		{[]byte{1, 2, 3, 4, 5, 6, 7, 8, 9}, 2196698316},
	} {
		if got := mix(c.bytes...); got != c.want {
			t.Errorf("mix of %v: %d, want %d", c.bytes, got, c.want)
		}
	}
}

// P1.1: each byte is mixed by itself, and long lists too stay within 32 bits.
func TestMixStaysWithin32Bits(t *testing.T) {
	var l []byte
	for i := range 1000 {
		l = append(l, byte(i*i+7*i))
		got := mix(l...)
		if got < 0 || got > math.MaxUint32 || got != reference(l...) {
			t.Fatalf("mix of %d bytes: %d, want %d", len(l), got, reference(l...))
		}
	}
}

// P1.2: places of keys, worked out apart from the program; the edges 0 and MaxKey, and keys whose bytes tell their order.
func TestKey(t *testing.T) {
	for _, c := range []struct{ key, want int }{
		{0, 1268118805},
		{1, 4218009092},
		{2, 3958272823},
		{255, 3280975578},
		{256, 212812234},
		{300, 1390944302},
		{65535, 382143707},
		{65536, 630422188},
		{0x01020304, 2603996501},
		{0x04030201, 1463068797},
		{1 << 31, 3415550869},
		{api.MaxKey - 1, 2388331168},
		{api.MaxKey, 3809873841},
	} {
		if got, e := Key(c.key); got != c.want || e != api.OK {
			t.Errorf("Key(%d): %d, %v, want %d, %v", c.key, got, e, c.want, api.OK)
		}
	}
}

// P1.2: keys from all over the range.
func TestKeysAcrossTheRange(t *testing.T) {
	for key := 0; key <= api.MaxKey; key += 1299709 {
		want := reference(byte(key), byte(key>>8), byte(key>>16), byte(key>>24))
		if got, e := Key(key); got != want || e != api.OK {
			t.Fatalf("Key(%d): %d, %v, want %d, %v", key, got, e, want, api.OK)
		}
	}
}

// P1.2: keys below 0 and above MaxKey, those among them whose low bytes are a right key's.
func TestKeyOutOfRange(t *testing.T) {
	for _, key := range []int{-1, -2, -300, -api.MaxKey, math.MinInt, api.MaxKey + 1, api.MaxKey + 301, 1 << 40, math.MaxInt} {
		if got, e := Key(key); got != 0 || e != api.ErrRange {
			t.Errorf("Key(%d): %d, %v, want 0, %v", key, got, e, api.ErrRange)
		}
	}
}

// P1.3: places of spots, worked out apart from the program; all edges, and pairs that tell backend from i.
func TestSpot(t *testing.T) {
	const last, most = api.MaxBackends - 1, api.MaxWeight*api.Spots - 1
	for _, c := range []struct{ backend, i, want int }{
		{0, 0, 2540049594},
		{0, 1, 2405681547},
		{1, 0, 444633813},
		{0, most, 2132414121},
		{last, 0, 1803770647},
		{last, most, 1805491860},
		{5, 17, 1594849392},
		{7, 3, 1353741828},
		{3, 7, 72703796},
	} {
		if got, e := Spot(c.backend, c.i); got != c.want || e != api.OK {
			t.Errorf("Spot(%d, %d): %d, %v, want %d, %v", c.backend, c.i, got, e, c.want, api.OK)
		}
	}
}

// P1.3: all spots that there are.
func TestAllSpots(t *testing.T) {
	for backend := range api.MaxBackends {
		for i := range api.MaxWeight * api.Spots {
			want := reference(98, byte(backend), byte(i), 115)
			if got, e := Spot(backend, i); got != want || e != api.OK {
				t.Errorf("Spot(%d, %d): %d, %v, want %d, %v", backend, i, got, e, want, api.OK)
			}
		}
	}
}

// P1.3: a wrong backend, a wrong i, and both; those among them whose lowest byte is a right one.
func TestSpotOutOfRange(t *testing.T) {
	const backends, spots = api.MaxBackends, api.MaxWeight * api.Spots
	for _, c := range []struct{ backend, i int }{
		{-1, 0}, {-1, spots - 1}, {backends, 0}, {backends, spots - 1},
		{0, -1}, {backends - 1, -1}, {0, spots}, {backends - 1, spots},
		{-1, -1}, {-1, spots}, {backends, -1}, {backends, spots},
		{256, 0}, {0, 256}, {-256, 0}, {0, -256}, {1 << 32, 1}, {1, 1 << 32},
		{math.MinInt, 0}, {math.MaxInt, 0}, {0, math.MinInt}, {0, math.MaxInt},
	} {
		if got, e := Spot(c.backend, c.i); got != 0 || e != api.ErrRange {
			t.Errorf("Spot(%d, %d): %d, %v, want 0, %v", c.backend, c.i, got, e, api.ErrRange)
		}
	}
}

// What comes of P1.1 and P1.2: keys that differ in one byte alone lie at unlike places.
func TestKeysThatDifferInOneByte(t *testing.T) {
	for _, key := range []int{0, 300, 0x01020304, 0x62731100, api.MaxKey} {
		for shift := 0; shift < 32; shift += 8 {
			seen := map[int]int{}
			for b := range 256 {
				other := key&^(255<<shift) | b<<shift
				place, e := Key(other)
				if e != api.OK {
					t.Fatalf("Key(%d): %v", other, e)
				}
				if twin, ok := seen[place]; ok {
					t.Errorf("the keys %d and %d lie both at %d", twin, other, place)
				}
				seen[place] = other
			}
		}
	}
}

// What a call answers hangs on its arguments alone: calls between do not change it.
func TestNothingIsKept(t *testing.T) {
	key, _ := Key(300)
	spot, _ := Spot(5, 17)
	for i := range 100 {
		Key(i - 50)
		Spot(i-50, i)
	}
	if again, _ := Key(300); again != key {
		t.Errorf("Key(300): %d at first, then %d", key, again)
	}
	if again, _ := Spot(5, 17); again != spot {
		t.Errorf("Spot(5, 17): %d at first, then %d", spot, again)
	}
}
