package wire

import (
	"bytes"
	"encoding/binary"
	"math"
	"slices"
	"testing"

	"usher/api"
)

// The faces stay as the chapter writes them.
var (
	_ func(api.Event) api.Errno           = Check
	_ func(api.Event) ([]byte, api.Errno) = Encode
	_ func([]byte) (api.Event, api.Errno) = Decode
)

// part: a field of an event as the chapter tells it, apart from the program's own.
type part struct {
	name      string
	low, high int
	put       func(e *api.Event, n int)
}

var (
	key     = part{"Key", 0, 1<<32 - 1, func(e *api.Event, n int) { e.Key = n }}
	slot    = part{"Slot", 0, 39, func(e *api.Event, n int) { e.Slot = n }}
	gen     = part{"Gen", 0, 1 << 20, func(e *api.Event, n int) { e.Gen = n }}
	good    = part{"Good", 0, 1, func(e *api.Event, n int) { e.Good = n == 1 }}
	request = part{"Request", 0, 1 << 20, func(e *api.Event, n int) { e.Request = n }}
	backend = part{"Backend", 0, 11, func(e *api.Event, n int) { e.Backend = n }}
	weight  = part{"Weight", 1, 8, func(e *api.Event, n int) { e.Weight = n }}
)

var allParts = []part{key, slot, gen, good, request, backend, weight}

// parts of the kinds, by their numbers.
var parts = [8][]part{
	1: {key},
	2: {slot, gen},
	3: {slot, gen},
	4: {slot, gen, good},
	5: {request, backend, weight},
	6: {request, backend},
	7: {},
}

// eachKind that there is.
func eachKind(do func(kind int, own []part)) {
	for kind := 1; kind <= 7; kind++ {
		do(kind, parts[kind])
	}
}

// has: is the part one of these?
func has(l []part, p part) bool {
	return slices.ContainsFunc(l, func(q part) bool { return q.name == p.name })
}

// made: an event of the kind with these numbers in its fields.
func made(kind int, n []int) api.Event {
	e := api.Event{Kind: kind}
	for i, p := range parts[kind] {
		p.put(&e, n[i])
	}
	return e
}

// framed: the bytes of a kind with these numbers, by the library.
func framed(kind int, n []int) []byte {
	b := []byte{byte(kind)}
	for _, x := range n {
		b = binary.AppendUvarint(b, uint64(x))
	}
	return b
}

// least numbers that a kind's fields may have.
func least(kind int) []int {
	var n []int
	for _, p := range parts[kind] {
		n = append(n, p.low)
	}
	return n
}

// most that a kind's fields may have.
func most(kind int) []int {
	var n []int
	for _, p := range parts[kind] {
		n = append(n, p.high)
	}
	return n
}

// edges of a field, and what lies between them where its bytes grow in number.
func edges(p part) []int {
	l := []int{p.low, p.high}
	for _, n := range []int{1, 2, 127, 128, 300, 16383, 16384, 1<<21 - 1, 1 << 21, 1<<28 - 1, 1 << 28, p.high - 1} {
		if p.low < n && n < p.high {
			l = append(l, n)
		}
	}
	return l
}

// eachEvent of all kinds whose fields stand at edges, one with another, with its numbers.
func eachEvent(do func(kind int, n []int)) {
	eachKind(func(kind int, own []part) {
		lists := [][]int{nil}
		for _, p := range own {
			var longer [][]int
			for _, l := range lists {
				for _, n := range edges(p) {
					longer = append(longer, append(slices.Clone(l), n))
				}
			}
			lists = longer
		}
		for _, n := range lists {
			do(kind, n)
		}
	})
}

// refused: an event that may not come is refused by Check and, with the same error and no bytes, by Encode.
func refused(t *testing.T, e api.Event, want api.Errno) {
	t.Helper()
	if got := Check(e); got != want {
		t.Errorf("Check(%+v): %v, want %v", e, got, want)
	}
	if b, got := Encode(e); got != want || len(b) > 0 {
		t.Errorf("Encode(%+v): %v, %v, want no bytes, %v", e, b, got, want)
	}
}

// undone: bytes that are refused, with an event that has nothing set.
func undone(t *testing.T, want api.Errno, b ...byte) {
	t.Helper()
	if e, got := Decode(b); got != want || e != (api.Event{}) {
		t.Errorf("Decode(%v): %+v, %v, want an empty event, %v", b, e, got, want)
	}
}

// The bounds are those of package api.
func TestBounds(t *testing.T) {
	for _, c := range []struct{ p, want int }{
		{key.high, api.MaxKey}, {slot.high, api.MaxFlows - 1}, {gen.high, api.MaxGen}, {request.high, api.MaxRequest},
		{backend.high, api.MaxBackends - 1}, {weight.high, api.MaxWeight},
	} {
		if c.p != c.want {
			t.Errorf("a bound of the tests is %d, of package api %d", c.p, c.want)
		}
	}
}

// P2.1: events of every kind, with all their fields at both bounds and between.
func TestCheck(t *testing.T) {
	eachEvent(func(kind int, n []int) {
		if e := made(kind, n); Check(e) != api.OK {
			t.Errorf("Check(%+v): %v, want %v", e, Check(e), api.OK)
		}
	})
	for _, e := range []api.Event{
		{Kind: api.Open, Key: 300},
		{Kind: api.Data, Slot: 3, Gen: 17},
		{Kind: api.Close, Slot: 39, Gen: 1 << 20},
		{Kind: api.Answer, Slot: 3, Gen: 17, Good: true},
		{Kind: api.Answer, Slot: 3, Gen: 17},
		{Kind: api.Join, Request: 9, Backend: 11, Weight: 4},
		{Kind: api.Retire, Request: 9, Backend: 11},
		{Kind: api.Tick},
	} {
		if Check(e) != api.OK {
			t.Errorf("Check(%+v): %v, want %v", e, Check(e), api.OK)
		}
	}
}

// P2.1, P2.2: kinds that there are not; those among them whose lowest byte is a kind's.
func TestNoSuchKind(t *testing.T) {
	for _, kind := range []int{0, -1, -7, 8, 9, 127, 128, 129, 255, 256, 257, 263, -255, 1<<32 + 1, math.MinInt, math.MinInt + 1, math.MaxInt} {
		refused(t, api.Event{Kind: kind}, api.ErrKind)
		refused(t, api.Event{Kind: kind, Key: 300, Good: true}, api.ErrKind)
		refused(t, api.Event{Kind: kind, Key: -1, Slot: -1, Gen: -1, Request: -1, Backend: -1, Weight: -1}, api.ErrKind)
	}
}

// beyond: numbers that a field may not have.
func beyond(p part) []int {
	return []int{p.low - 1, p.high + 1, -p.high - 1, p.high + 128, p.high + 1<<32, p.low + 1<<33, math.MinInt, math.MaxInt}
}

// P2.1, P2.2: each field one beyond each of its bounds, and far beyond, the others at both of theirs.
func TestFieldOutOfBounds(t *testing.T) {
	eachKind(func(kind int, own []part) {
		for i, p := range own {
			if p.name == "Good" {
				continue
			}
			for _, bad := range beyond(p) {
				for _, n := range [][]int{least(kind), most(kind)} {
					n[i] = bad
					refused(t, made(kind, n), api.ErrRange)
				}
			}
		}
	})
}

// P2.1, P2.2: each field that the kind does not have, set to whatever it may be elsewhere, or may be nowhere.
func TestFieldBeside(t *testing.T) {
	eachKind(func(kind int, own []part) {
		for _, p := range allParts {
			if has(own, p) {
				continue
			}
			for _, n := range []int{1, p.high, p.high + 1, -1, math.MinInt, math.MaxInt} {
				if p.name == "Good" {
					n = 1
				}
				for _, l := range [][]int{least(kind), most(kind)} {
					e := made(kind, l)
					p.put(&e, n)
					refused(t, e, api.ErrForm)
				}
			}
		}
	})
}

// P2.1, P2.2: a field that is out of bounds counts ahead of one that is beside the kind's.
func TestOutOfBoundsAheadOfBeside(t *testing.T) {
	eachKind(func(kind int, own []part) {
		for _, p := range own {
			for _, q := range allParts {
				if has(own, q) || p.name == "Good" {
					continue
				}
				e := made(kind, least(kind))
				p.put(&e, p.high+1)
				q.put(&e, 1)
				refused(t, e, api.ErrRange)
			}
		}
	})
	refused(t, api.Event{Kind: api.Join, Key: 1}, api.ErrRange)
	refused(t, api.Event{Kind: api.Tick, Key: -1, Slot: -1, Weight: 9}, api.ErrForm)
}

// P2.2: bytes of events, written out: every kind, each length of numbers, the order of the fields.
func TestEncode(t *testing.T) {
	for _, c := range []struct {
		e    api.Event
		want []byte
	}{
		{api.Event{Kind: api.Open}, []byte{1, 0}},
		{api.Event{Kind: api.Open, Key: 1}, []byte{1, 1}},
		{api.Event{Kind: api.Open, Key: 127}, []byte{1, 127}},
		{api.Event{Kind: api.Open, Key: 128}, []byte{1, 128, 1}},
		{api.Event{Kind: api.Open, Key: 300}, []byte{1, 172, 2}},
		{api.Event{Kind: api.Open, Key: 16383}, []byte{1, 255, 127}},
		{api.Event{Kind: api.Open, Key: 16384}, []byte{1, 128, 128, 1}},
		{api.Event{Kind: api.Open, Key: api.MaxKey}, []byte{1, 255, 255, 255, 255, 15}},
		{api.Event{Kind: api.Data, Slot: 39, Gen: 128}, []byte{2, 39, 128, 1}},
		{api.Event{Kind: api.Data, Gen: api.MaxGen}, []byte{2, 0, 128, 128, 64}},
		{api.Event{Kind: api.Close, Slot: 1, Gen: 2}, []byte{3, 1, 2}},
		{api.Event{Kind: api.Answer, Slot: 1, Gen: 2}, []byte{4, 1, 2, 0}},
		{api.Event{Kind: api.Answer, Slot: 1, Gen: 2, Good: true}, []byte{4, 1, 2, 1}},
		{api.Event{Kind: api.Join, Request: 5, Backend: 6, Weight: 7}, []byte{5, 5, 6, 7}},
		{api.Event{Kind: api.Join, Request: api.MaxRequest, Backend: 11, Weight: 8}, []byte{5, 128, 128, 64, 11, 8}},
		{api.Event{Kind: api.Retire, Request: 127, Backend: 3}, []byte{6, 127, 3}},
		{api.Event{Kind: api.Tick}, []byte{7}},
	} {
		if b, err := Encode(c.e); err != api.OK || !bytes.Equal(b, c.want) {
			t.Errorf("Encode(%+v): %v, %v, want %v, %v", c.e, b, err, c.want, api.OK)
		}
		if e, err := Decode(c.want); err != api.OK || e != c.e {
			t.Errorf("Decode(%v): %+v, %v, want %+v, %v", c.want, e, err, c.e, api.OK)
		}
	}
}

// P2.2, P2.3, and what comes of them: all events at edges become their bytes, and these become the events again.
func TestThereAndBack(t *testing.T) {
	eachEvent(func(kind int, n []int) {
		e, want := made(kind, n), framed(kind, n)
		if b, err := Encode(e); err != api.OK || !bytes.Equal(b, want) {
			t.Errorf("Encode(%+v): %v, %v, want %v, %v", e, b, err, want, api.OK)
		}
		if back, err := Decode(want); err != api.OK || back != e {
			t.Errorf("Decode(%v): %+v, %v, want %+v, %v", want, back, err, e, api.OK)
		}
	})
}

// P2.3: the size counts ahead of all else, and that there are no bytes ahead of the kind.
func TestDecodeSize(t *testing.T) {
	undone(t, api.ErrShort)
	undone(t, api.ErrShort, []byte{}...)
	for kind := range 256 {
		frame := make([]byte, api.MaxFrame+1, api.MaxFrame+9)
		frame[0] = byte(kind)
		undone(t, api.ErrSize, frame...)
		undone(t, api.ErrSize, append(frame, 128, 128)...)
		want := api.ErrForm
		switch {
		case kind == 0 || kind > 7:
			want = api.ErrKind
		case kind == api.Join:
			want = api.ErrRange // a weight of 0
		}
		undone(t, want, frame[:api.MaxFrame]...)
	}
	undone(t, api.ErrSize, make([]byte, 1<<16)...)
}

// P2.3: bytes that are no kind's, whatever follows them.
func TestDecodeNoSuchKind(t *testing.T) {
	for kind := range 256 {
		if kind >= 1 && kind <= 7 {
			continue
		}
		for _, rest := range [][]byte{nil, {0}, {1, 1, 1}, {128}, {128, 0}, bytes.Repeat([]byte{255}, 7)} {
			undone(t, api.ErrKind, append([]byte{byte(kind)}, rest...)...)
		}
	}
}

// P2.3: of every frame each beginning is too short, and each frame with bytes behind it is not in form.
func TestDecodeTornAndLong(t *testing.T) {
	eachEvent(func(kind int, n []int) {
		frame := framed(kind, n)
		for i := range frame {
			undone(t, api.ErrShort, frame[:i]...)
		}
		for _, more := range [][]byte{{0}, {1}, {127}, {128}, {255}, {128, 0}, bytes.Repeat([]byte{128}, 7), {7}} {
			undone(t, api.ErrForm, append(slices.Clone(frame), more...)...)
		}
		full := append(slices.Clone(frame), make([]byte, api.MaxFrame-len(frame))...)
		undone(t, api.ErrForm, full...)
		undone(t, api.ErrSize, append(full, 0)...)
	})
}

// broken numbers, what is wrong with them in any field, and whether that holds with bytes behind them, too.
var broken = []struct {
	bytes []byte
	want  api.Errno
	ends  bool // it is wrong only where the bytes end
}{
	{[]byte{}, api.ErrShort, true},
	{[]byte{128}, api.ErrShort, true},
	{[]byte{255}, api.ErrShort, true},
	{[]byte{128, 128, 128, 128, 128}, api.ErrShort, true},
	{[]byte{255, 255, 255, 255, 255, 255}, api.ErrShort, true},
	{[]byte{128, 128, 128, 128, 128, 128}, api.ErrShort, true},
	{[]byte{128, 0}, api.ErrForm, false},
	{[]byte{129, 0}, api.ErrForm, false},
	{[]byte{255, 0}, api.ErrForm, false},
	{[]byte{128, 128, 0}, api.ErrForm, false},
	{[]byte{255, 255, 255, 255, 0}, api.ErrForm, false},
	{[]byte{129, 128, 128, 128, 128, 0}, api.ErrForm, false},
	{[]byte{255, 255, 255, 255, 255, 0}, api.ErrForm, false},
	{[]byte{255, 255, 255, 255, 255, 255, 0}, api.ErrRange, false},
	{[]byte{128, 128, 128, 128, 128, 128, 0}, api.ErrRange, false},
	{[]byte{129, 128, 128, 128, 128, 128, 1}, api.ErrRange, false},
	{[]byte{129, 128, 128, 128, 128, 128, 128}, api.ErrRange, false},
	{[]byte{255, 255, 255, 255, 255, 255, 255, 255, 255, 255, 255, 255}, api.ErrRange, false},
	{[]byte{255, 255, 255, 255, 31}, api.ErrRange, false},
	{[]byte{128, 128, 128, 128, 16}, api.ErrRange, false},
	{[]byte{255, 255, 255, 255, 127}, api.ErrRange, false},
	{[]byte{129, 128, 128, 128, 128, 1}, api.ErrRange, false},
	{[]byte{255, 255, 255, 255, 255, 127}, api.ErrRange, false},
}

// P2.3: broken numbers in each field of each kind; the first field that is wrong counts, whatever comes behind it.
func TestDecodeBrokenNumber(t *testing.T) {
	eachKind(func(kind int, own []part) {
		for i := range own {
			for _, c := range broken {
				for _, n := range [][]int{least(kind), most(kind)} {
					frame := append(framed(kind, n[:i]), c.bytes...)
					undone(t, c.want, frame...)
					if c.ends {
						continue
					}
					for _, more := range [][]byte{{0}, {1, 1}, {128}, {128, 0}, {255, 255, 255, 255, 255, 255, 255}} {
						undone(t, c.want, append(slices.Clone(frame), more...)...)
					}
				}
			}
		}
	})
}

// P2.3: numbers in form that are beyond a field's bounds, ahead of fields that are missing, torn or wrong, and of bytes too many.
func TestDecodeOutOfBounds(t *testing.T) {
	eachKind(func(kind int, own []part) {
		for i, p := range own {
			for _, n := range []int{p.high + 1, p.high + 127, 2*p.high + 2, 1<<42 - 1} {
				frame := append(framed(kind, least(kind)[:i]), binary.AppendUvarint(nil, uint64(n))...)
				for _, more := range [][]byte{nil, {0}, {0, 0}, {0, 0, 0}, {128}, {128, 0}, {255, 255}} {
					undone(t, api.ErrRange, append(slices.Clone(frame), more...)...)
				}
			}
		}
	})
	undone(t, api.ErrRange, 5, 0, 0, 0)
	undone(t, api.ErrRange, 5, 0, 0, 0, 0)
	undone(t, api.ErrRange, 4, 0, 0, 2)
	undone(t, api.ErrRange, 4, 0, 0, 127)
}

// told: what the chapter says of these bytes, step by step, by other means than the program's.
func told(b []byte) (api.Event, api.Errno) {
	if len(b) == 0 {
		return api.Event{}, api.ErrShort
	}
	if b[0] < 1 || b[0] > 7 {
		return api.Event{}, api.ErrKind
	}
	kind := int(b[0])
	e, rest := api.Event{Kind: kind}, b[1:]
	for _, p := range parts[kind] {
		last := slices.IndexFunc(rest, func(x byte) bool { return x < 128 })
		if (last > 5 || last < 0) && len(rest) > 6 {
			return api.Event{}, api.ErrRange
		}
		if last < 0 {
			return api.Event{}, api.ErrShort
		}
		if last > 0 && rest[last] == 0 {
			return api.Event{}, api.ErrForm
		}
		n, _ := binary.Uvarint(rest[:last+1])
		if int(n) < p.low || int(n) > p.high {
			return api.Event{}, api.ErrRange
		}
		p.put(&e, int(n))
		rest = rest[last+1:]
	}
	if len(rest) > 0 {
		return api.Event{}, api.ErrForm
	}
	return e, api.OK
}

// asTold: Decode says of these bytes what the chapter does, and no event has two forms.
func asTold(t *testing.T, b []byte) {
	t.Helper()
	e, err := Decode(b)
	if want, code := told(b); e != want || err != code {
		t.Fatalf("Decode(%v): %+v, %v, want %+v, %v", b, e, err, want, code)
	}
	if err != api.OK {
		return
	}
	if again, err := Encode(e); err != api.OK || !bytes.Equal(again, b) {
		t.Fatalf("%v is decoded to %+v, and that encoded to %v, %v", b, e, again, err)
	}
}

// P2.3, and what comes of it: all frames of up to three bytes, and longer ones of bytes that tell.
func TestDecodeAllShortFrames(t *testing.T) {
	for kind := range 10 {
		asTold(t, []byte{byte(kind)})
		for x := range 256 {
			asTold(t, []byte{byte(kind), byte(x)})
			for y := range 256 {
				asTold(t, []byte{byte(kind), byte(x), byte(y)})
			}
		}
	}
	var longer func(b []byte)
	longer = func(b []byte) {
		asTold(t, b)
		if len(b) == 9 {
			return
		}
		for _, x := range []byte{0, 1, 128, 129} {
			longer(append(slices.Clone(b), x))
		}
	}
	for kind := 1; kind <= 7; kind++ {
		longer([]byte{byte(kind)})
	}
}

// Bytes that are handed in stay as they are, what lies behind them too.
func TestDecodeLeavesItsBytes(t *testing.T) {
	for _, l := range [][]byte{{5, 128, 1, 11, 8}, {5, 128, 1, 11, 9}, {1, 128, 0}, {7}, {9}} {
		room := append(slices.Clone(l), 71, 72, 73)
		before := slices.Clone(room)
		Decode(room[:len(l)])
		if !bytes.Equal(room, before) {
			t.Errorf("Decode(%v) left %v", before[:len(l)], room)
		}
	}
}

// Each answer is new memory, and hangs on its arguments alone.
func TestNothingIsKept(t *testing.T) {
	join := api.Event{Kind: api.Join, Request: 300, Backend: 11, Weight: 8}
	first, _ := Encode(join)
	want := slices.Clone(first)
	for i := range cap(first) {
		first[:cap(first)][i] = 77
	}
	Encode(api.Event{Kind: api.Answer, Slot: 1, Gen: 2, Good: true})
	if again, err := Encode(join); err != api.OK || !bytes.Equal(again, want) {
		t.Errorf("Encode(%+v): %v at first, then %v, %v", join, want, again, err)
	}
	Decode([]byte{4, 1, 2, 1})
	if e, err := Decode(want); err != api.OK || e != join {
		t.Errorf("Decode(%v): %+v, %v, want %+v", want, e, err, join)
	}
	if e, err := Decode([]byte{4, 1, 2, 0}); err != api.OK || e.Good {
		t.Errorf("Decode of an answer that is not good: %+v, %v", e, err)
	}
}
