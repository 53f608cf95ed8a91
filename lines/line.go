package lines

import (
	"iter"
	"strconv"
	"strings"

	"usher/api"
	"usher/wire"
)

// words of the kinds, by their numbers, of which 0 is none.
var words = [api.Tick + 1]string{"", "open", "data", "close", "answer", "join", "retire", "tick"}

const (
	goodWord = "good"
	badWord  = "bad"
)

// kindOf a word; 0: it is none's.
func kindOf(word string) int {
	for kind, w := range words {
		if w == word {
			return kind
		}
	}
	return 0
}

// numbers of an event's kind, in the order of its line. They are pointed at, so that a line is told and read by one list.
func numbers(e *api.Event) []*int {
	switch e.Kind {
	case api.Open:
		return []*int{&e.Key}
	case api.Data, api.Close, api.Answer:
		return []*int{&e.Slot, &e.Gen}
	case api.Join:
		return []*int{&e.Request, &e.Backend, &e.Weight}
	case api.Retire:
		return []*int{&e.Request, &e.Backend}
	}
	return nil
}

// lineOf an event that may come.
func lineOf(e api.Event) string {
	line := words[e.Kind]
	for _, n := range numbers(&e) {
		line += " " + strconv.Itoa(*n)
	}
	if e.Kind == api.Answer {
		line += " " + outcome(e.Good)
	}
	return line + "\n"
}

func outcome(good bool) string {
	if good {
		return goodWord
	}
	return badWord
}

// eventOf a line; false: it is no event's. What is read of it counts only if its event has this very line, for an event has no other: so a sign, a nought ahead, a blank or a part too much need not be looked for.
func eventOf(line string) (api.Event, bool) {
	parts := strings.Split(strings.TrimSuffix(line, "\n"), " ")
	e := api.Event{Kind: kindOf(parts[0])}
	if !fill(numbers(&e), parts[1:]) {
		return api.Event{}, false
	}
	e.Good = e.Kind == api.Answer && parts[len(parts)-1] == goodWord
	return e, wire.Check(e) == api.OK && lineOf(e) == line
}

// fill the numbers with the first of these parts; false: there are too few, or one is no number.
func fill(own []*int, parts []string) bool {
	if len(parts) < len(own) {
		return false
	}
	for i, n := range own {
		var err error
		if *n, err = strconv.Atoi(parts[i]); err != nil {
			return false
		}
	}
	return true
}

// linesOf a text, each with its place. A line feed belongs to its line, so that a last line without one can be told.
func linesOf(text string) iter.Seq2[int, string] {
	return func(yield func(int, string) bool) {
		rest := text
		for place := 0; rest != ""; place++ {
			end := strings.IndexByte(rest, '\n') + 1
			if end == 0 {
				end = len(rest)
			}
			if !yield(place, rest[:end]) {
				return
			}
			rest = rest[end:]
		}
	}
}
