package lines

import (
	"math/rand"
	"reflect"
	"slices"
	"strings"
	"testing"

	"usher/api"
)

// drawnEvent that may come.
func drawnEvent(dice *rand.Rand) api.Event {
	kind := 1 + dice.Intn(7)
	var n []int
	for _, p := range kinds[kind].parts {
		switch dice.Intn(3) {
		case 0:
			l := edges(p)
			n = append(n, l[dice.Intn(len(l))])
		case 1:
			n = append(n, p.low+dice.Intn(min(20, p.high-p.low+1)))
		default:
			n = append(n, p.low+dice.Intn(p.high-p.low+1))
		}
	}
	return made(kind, n)
}

func drawnEvents(dice *rand.Rand) []api.Event {
	l := make([]api.Event, dice.Intn(12))
	for i := range l {
		l[i] = drawnEvent(dice)
	}
	return l
}

// P14.1 to P14.3: what is shown is read, and what is read is shown as it was.
func TestThereAndBack(t *testing.T) {
	dice := rand.New(rand.NewSource(14))
	for range 5000 {
		l := drawnEvents(dice)
		text, place, err := Show(l)
		if err != api.OK || place != 0 || strings.Count(text, "\n") != len(l) {
			t.Fatalf("Show(%+v): %q %d %v", l, text, place, err)
		}
		wantRead(t, text, l...)
		readAsTold(t, text)
	}
}

// asItWas: a text that is read is what its events are shown as.
func asItWas(t *testing.T, text string) {
	t.Helper()
	readAsTold(t, text)
	if l, _, err := Read(text); err == api.OK {
		wantShow(t, l, text)
	}
}

// P14.3: drawn texts that are torn here and there.
func TestTorn(t *testing.T) {
	dice := rand.New(rand.NewSource(41))
	bits := []string{"", " ", "\n", "0", "1", "9", "x", "tick\n", "open ", "good", "bad", "-", "+", "\r", "\xff"}
	for range 20000 {
		text, _, _ := Show(drawnEvents(dice))
		for range dice.Intn(3) {
			from := dice.Intn(len(text) + 1)
			to := min(len(text), from+dice.Intn(3))
			text = text[:from] + bits[dice.Intn(len(bits))] + text[to:]
		}
		asItWas(t, text)
	}
}

// P14.3: lines with one byte less, more or other, each byte at each place.
func TestOneByte(t *testing.T) {
	_, right := some()
	for _, line := range right {
		for i := range len(line) + 1 {
			for c := range 256 {
				b := string([]byte{byte(c)})
				asItWas(t, line[:i]+b+line[i:])
				if i < len(line) {
					asItWas(t, line[:i]+b+line[i+1:])
				}
			}
			if i < len(line) {
				asItWas(t, line[:i]+line[i+1:])
			}
		}
	}
}

// P14.3: all short texts of some bits.
func TestShortTexts(t *testing.T) {
	bits := []string{"open", "answer", "join", "tick", "good", " ", "0", "1", "\n"}
	texts := []string{""}
	for range 5 {
		var longer []string
		for _, text := range texts {
			for _, b := range bits {
				longer = append(longer, text+b)
			}
		}
		for _, text := range longer {
			asItWas(t, text)
		}
		texts = longer
	}
}

// What is handed in stays as it is, its spare room too.
func TestShowLeavesItsList(t *testing.T) {
	l, _ := some()
	for _, at := range []int{-1, 0, 4, 9} {
		whole := append(slices.Clone(l), api.Event{Kind: 8, Key: -1}, api.Event{Kind: 1, Key: 5})
		if at >= 0 {
			whole[at] = api.Event{Kind: 3, Slot: 40, Gen: -1, Good: true, Weight: 9}
		}
		before := slices.Clone(whole)
		Show(whole[:len(l)])
		if !slices.Equal(whole, before) {
			t.Errorf("Show changed its list: %+v, it was %+v", whole, before)
		}
	}
}

// What comes out is new: the spare room of one answer is no other's.
func TestNothingShared(t *testing.T) {
	l, right := some()
	text := strings.Join(right, "")
	one, _, _ := Read(text)
	two, _, _ := Read(text)
	if reflect.ValueOf(one).Pointer() == reflect.ValueOf(two).Pointer() {
		t.Errorf("two answers share their memory")
	}
	for i := range one[:cap(one)] {
		one[:cap(one)][i] = api.Event{Kind: 99}
	}
	if !slices.Equal(two, l) {
		t.Errorf("an answer changed with another: %+v", two)
	}
	wantRead(t, text, l...)
	wantShow(t, l, text)
}

// Nothing is kept from call to call, of what was refused neither.
func TestNothingIsKept(t *testing.T) {
	l, right := some()
	text := strings.Join(right, "")
	for range 3 {
		noRead(t, text+"x", len(l), api.ErrForm)
		wantRead(t, text, l...)
		noRead(t, strings.Repeat("tick\n", 4001), 4000, api.ErrFull)
		wantRead(t, "")
		noShow(t, append(slices.Clone(l), api.Event{}), len(l), api.ErrKind)
		wantShow(t, l, text)
		noShow(t, make([]api.Event, 4001), 0, api.ErrSize)
		wantShow(t, nil, "")
	}
}

// A line that is shown does not hang on the list that it came of.
func TestShownStays(t *testing.T) {
	l, right := some()
	text, _, _ := Show(l)
	for i := range l {
		l[i] = api.Event{Kind: 7}
	}
	if text != strings.Join(right, "") {
		t.Errorf("what was shown is now %q", text)
	}
}
