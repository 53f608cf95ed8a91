package lines

import (
	"fmt"
	"math"
	"regexp"
	"slices"
	"strconv"
	"strings"
	"testing"

	"usher/api"
)

// The faces stay as the chapter writes them.
var (
	_ func([]api.Event) (string, int, api.Errno) = Show
	_ func(string) ([]api.Event, int, api.Errno) = Read
)

// The numbers as the document has them, so that no bound is asked of itself.
const (
	maxEvents = 4000
	maxText   = 200000
)

// part: a field of an event as the chapters tell it.
type part struct {
	name      string
	low, high int
	put       func(e *api.Event, n int)
}

var (
	key     = part{"Key", 0, 4294967295, func(e *api.Event, n int) { e.Key = n }}
	slot    = part{"Slot", 0, 39, func(e *api.Event, n int) { e.Slot = n }}
	gen     = part{"Gen", 0, 1048576, func(e *api.Event, n int) { e.Gen = n }}
	good    = part{"Good", 0, 1, func(e *api.Event, n int) { e.Good = n == 1 }}
	request = part{"Request", 0, 1048576, func(e *api.Event, n int) { e.Request = n }}
	backend = part{"Backend", 0, 11, func(e *api.Event, n int) { e.Backend = n }}
	weight  = part{"Weight", 1, 8, func(e *api.Event, n int) { e.Weight = n }}
)

var allParts = []part{key, slot, gen, good, request, backend, weight}

// kinds by their numbers: their words and parts.
var kinds = [8]struct {
	word  string
	parts []part
}{
	1: {"open", []part{key}},
	2: {"data", []part{slot, gen}},
	3: {"close", []part{slot, gen}},
	4: {"answer", []part{slot, gen, good}},
	5: {"join", []part{request, backend, weight}},
	6: {"retire", []part{request, backend}},
	7: {"tick", nil},
}

// made: an event of the kind with these numbers in its fields.
func made(kind int, n []int) api.Event {
	e := api.Event{Kind: kind}
	for i, p := range kinds[kind].parts {
		p.put(&e, n[i])
	}
	return e
}

// lined: the line of a kind with these numbers.
func lined(kind int, n []int) string {
	s := []string{kinds[kind].word}
	for i, p := range kinds[kind].parts {
		if p.name == "Good" {
			s = append(s, []string{"bad", "good"}[n[i]])
		} else {
			s = append(s, fmt.Sprint(n[i]))
		}
	}
	return strings.Join(s, " ") + "\n"
}

// least numbers that a kind's fields may have.
func least(kind int) []int {
	var n []int
	for _, p := range kinds[kind].parts {
		n = append(n, p.low)
	}
	return n
}

// most that a kind's fields may have.
func most(kind int) []int {
	var n []int
	for _, p := range kinds[kind].parts {
		n = append(n, p.high)
	}
	return n
}

// edges of a field, and what lies between them where its digits grow in number.
func edges(p part) []int {
	l := []int{p.low, p.high}
	for _, n := range []int{1, 2, 7, 9, 10, 11, 19, 20, 99, 100, 300, 999, 1000, 9999, 99999, 100000, 999999, 1000000, 999999999, 1000000000, p.high - 1} {
		if p.low < n && n < p.high && !slices.Contains(l, n) {
			l = append(l, n)
		}
	}
	return l
}

// eachEvent of all kinds whose fields stand at edges, one with another, with its numbers.
func eachEvent(do func(kind int, n []int)) {
	for kind := 1; kind <= 7; kind++ {
		lists := [][]int{nil}
		for _, p := range kinds[kind].parts {
			var longer [][]int
			for _, l := range lists {
				for _, n := range edges(p) {
					longer = append(longer, append(slices.Clone(l), n))
				}
			}
			lists = longer
		}
		for _, n := range lists {
			do(kind, n)
		}
	}
}

// some events, at least one of each kind, and their lines.
func some() ([]api.Event, []string) {
	return []api.Event{
		{Kind: 5, Request: 1, Backend: 0, Weight: 4},
		{Kind: 7},
		{Kind: 1, Key: 300},
		{Kind: 4, Slot: 0, Gen: 3, Good: true},
		{Kind: 2, Slot: 39, Gen: 1048576},
		{Kind: 4, Slot: 5, Gen: 0},
		{Kind: 7},
		{Kind: 3, Slot: 10, Gen: 100},
		{Kind: 6, Request: 1048576, Backend: 11},
		{Kind: 1, Key: 4294967295},
	}, []string{
		"join 1 0 4\n",
		"tick\n",
		"open 300\n",
		"answer 0 3 good\n",
		"data 39 1048576\n",
		"answer 5 0 bad\n",
		"tick\n",
		"close 10 100\n",
		"retire 1048576 11\n",
		"open 4294967295\n",
	}
}

// wrong events, each with what Check says of it.
func wrong() map[api.Event]api.Errno {
	m := map[api.Event]api.Errno{}
	for _, kind := range []int{0, -1, 8, 9, 256 + 1, 1<<32 + 7, math.MinInt, math.MaxInt} {
		m[api.Event{Kind: kind}] = api.ErrKind
		m[api.Event{Kind: kind, Key: -1, Good: true}] = api.ErrKind
	}
	for kind := 1; kind <= 7; kind++ {
		for i, p := range kinds[kind].parts {
			if p.name == "Good" {
				continue
			}
			for _, n := range []int{p.low - 1, p.high + 1, math.MinInt, math.MaxInt} {
				l := least(kind)
				l[i] = n
				e := made(kind, l)
				m[e] = api.ErrRange
				if kind != 1 {
					e.Key = 1
					m[e] = api.ErrRange
				}
			}
		}
		for _, p := range allParts {
			if !slices.ContainsFunc(kinds[kind].parts, func(q part) bool { return q.name == p.name }) {
				e := made(kind, most(kind))
				p.put(&e, 1)
				m[e] = api.ErrForm
			}
		}
	}
	return m
}

// brief: as much of a text or a list as can be read.
func brief(x any) string {
	s := fmt.Sprintf("%+v", x)
	if text, ok := x.(string); ok {
		s = strconv.Quote(text)
	}
	if len(s) > 300 {
		return s[:300] + ".."
	}
	return s
}

func wantShow(t *testing.T, l []api.Event, want string) {
	t.Helper()
	if got, place, err := Show(l); err != api.OK || place != 0 || got != want {
		t.Errorf("Show(%s): %s %d %v, want %s", brief(l), brief(got), place, err, brief(want))
	}
}

func noShow(t *testing.T, l []api.Event, place int, want api.Errno) {
	t.Helper()
	if got, at, err := Show(l); err != want || at != place || got != "" {
		t.Errorf("Show(%s): %s %d %v, want nothing, %d and %v", brief(l), brief(got), at, err, place, want)
	}
}

func wantRead(t *testing.T, text string, want ...api.Event) {
	t.Helper()
	if got, place, err := Read(text); err != api.OK || place != 0 || !slices.Equal(got, want) {
		t.Errorf("Read(%s): %s %d %v, want %s", brief(text), brief(got), place, err, brief(want))
	}
}

func noRead(t *testing.T, text string, place int, want api.Errno) {
	t.Helper()
	if got, at, err := Read(text); err != want || at != place || len(got) != 0 {
		t.Errorf("Read(%s): %s %d %v, want nothing, %d and %v", brief(text), brief(got), at, err, place, want)
	}
}

// noLine: is this refused, alone and at each place among lines that are right?
func noLine(t *testing.T, line string) {
	t.Helper()
	noRead(t, line, 0, api.ErrForm)
	_, right := some()
	for i := range right {
		noRead(t, strings.Join(right[:i], "")+line+strings.Join(right[i:], ""), i, api.ErrForm)
	}
	noRead(t, strings.Join(right, "")+line, len(right), api.ErrForm)
}

// shapes of lines, by their kinds; a number has no nought ahead, and no more digits than the greatest one.
var shapes = func() [8]*regexp.Regexp {
	const n = ` (0|[1-9][0-9]{0,9})`
	return [8]*regexp.Regexp{
		1: regexp.MustCompile(`\Aopen` + n + `\n\z`),
		2: regexp.MustCompile(`\Adata` + n + n + `\n\z`),
		3: regexp.MustCompile(`\Aclose` + n + n + `\n\z`),
		4: regexp.MustCompile(`\Aanswer` + n + n + ` (good|bad)\n\z`),
		5: regexp.MustCompile(`\Ajoin` + n + n + n + `\n\z`),
		6: regexp.MustCompile(`\Aretire` + n + n + `\n\z`),
		7: regexp.MustCompile(`\Atick\n\z`),
	}
}()

// toldLine: the event of a line, by the shapes and the bounds; false: it is none's.
func toldLine(line string) (api.Event, bool) {
	for kind := 1; kind <= 7; kind++ {
		m := shapes[kind].FindStringSubmatch(line)
		if m == nil {
			continue
		}
		var l []int
		for i, p := range kinds[kind].parts {
			n := 0
			if p.name != "Good" {
				n, _ = strconv.Atoi(m[i+1])
			} else if m[i+1] == "good" {
				n = 1
			}
			if n < p.low || n > p.high {
				return api.Event{}, false
			}
			l = append(l, n)
		}
		return made(kind, l), true
	}
	return api.Event{}, false
}

// readAsTold: does Read answer what the chapter's words say?
func readAsTold(t *testing.T, text string) {
	t.Helper()
	if len(text) > maxText {
		noRead(t, text, 0, api.ErrSize)
		return
	}
	var want []api.Event
	for i, line := range strings.SplitAfter(text, "\n") {
		if line == "" {
			break
		}
		e, ok := toldLine(line)
		if i >= maxEvents {
			noRead(t, text, i, api.ErrFull)
			return
		}
		if !ok {
			noRead(t, text, i, api.ErrForm)
			return
		}
		want = append(want, e)
	}
	wantRead(t, text, want...)
}
