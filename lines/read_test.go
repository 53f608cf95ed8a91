package lines

import (
	"fmt"
	"strings"
	"testing"

	"usher/api"
)

// P14.3: no line at all.
func TestReadNothing(t *testing.T) { wantRead(t, "") }

// P14.3: the chapter's examples.
func TestReadExamples(t *testing.T) {
	wantRead(t, "answer 0 3 good\n", api.Event{Kind: api.Answer, Slot: 0, Gen: 3, Good: true})
	noRead(t, "answer 0 3 good", 0, api.ErrForm)
	noRead(t, "open 007\n", 0, api.ErrForm)
	noRead(t, "open 007", 0, api.ErrForm)
	noRead(t, "tick\nopen 007\n", 1, api.ErrForm)
}

// P14.3: words that are none, and the lines of one kind with another's word, which are lines only if the fields fit.
func TestReadWords(t *testing.T) {
	for _, word := range []string{
		"", "o", "ope", "opens", "Open", "OPEN", "oopen", "dat", "datas", "Data", "clos", "closed", "answe", "answers", "Answer",
		"joi", "joins", "Join", "retir", "retired", "Retire", "tic", "ticks", "Tick", "TICK", "1", "7", "0", "good", "bad", "bring",
		"\topen", "open\t", "\x00tick", "tick\x00", "tick\r", "tick\xff", "ticκ", "ｔick", "\ufefftick", "tick\u00a0",
	} {
		for kind := 1; kind <= 7; kind++ {
			noLine(t, word+strings.TrimPrefix(lined(kind, least(kind)), kinds[kind].word))
		}
	}
	for kind := 1; kind <= 7; kind++ {
		for other := 1; other <= 7; other++ {
			for _, n := range [][]int{least(other), most(other)} {
				readAsTold(t, kinds[kind].word+strings.TrimPrefix(lined(other, n), kinds[other].word))
			}
		}
	}
}

// P14.3: a field less, or more, for each word.
func TestReadTooFewAndTooMany(t *testing.T) {
	for kind := 1; kind <= 7; kind++ {
		for _, n := range [][]int{least(kind), most(kind)} {
			fields := strings.Fields(lined(kind, n))
			for i := range fields {
				noLine(t, strings.Join(fields[:i], " ")+"\n")
				noLine(t, strings.Join(fields[i+1:], " ")+"\n")
			}
			whole := strings.Join(fields, " ")
			for _, more := range []string{" 0", " 1", " 0 0", " good", " bad", " tick", " open 1", "0", " ", "  ", "\t", "\r", "\v", ".", ";", " #"} {
				readAsTold(t, whole+more+"\n")
				if more != "0" || kind == 7 {
					noLine(t, whole+more+"\n")
				}
			}
		}
	}
}

// with: the line of a kind, its field at this place written otherwise.
func with(kind, place int, text string) string {
	fields := strings.Fields(lined(kind, most(kind)))
	fields[1+place] = text
	return strings.Join(fields, " ") + "\n"
}

// P14.1, P14.3: each number one beyond each of its bounds, and far beyond, where it would come round.
func TestReadOutOfBounds(t *testing.T) {
	for kind := 1; kind <= 7; kind++ {
		for i, p := range kinds[kind].parts {
			if p.name == "Good" {
				continue
			}
			for _, n := range []int{p.low - 1, p.high + 1, p.high + 2, p.high * 10, p.high + 1<<32, 1 << 62, 1<<63 - 1, -1 << 63, -p.high} {
				noLine(t, with(kind, i, fmt.Sprint(n)))
			}
			for _, s := range []string{
				"9223372036854775808", "18446744073709551615", "18446744073709551616", "18446744073709551617", "36893488147419103233",
				"340282366920938463463374607431768211457", strings.Repeat("1", 100), strings.Repeat("9", 5000), "1" + strings.Repeat("0", 64) + "1",
			} {
				noLine(t, with(kind, i, s))
			}
		}
	}
}

// P14.1, P14.3: numbers that are written otherwise: noughts ahead, signs, other digits, nothing.
func TestReadNumbers(t *testing.T) {
	for kind := 1; kind <= 7; kind++ {
		for i, p := range kinds[kind].parts {
			if p.name == "Good" {
				continue
			}
			for _, s := range []string{"0", "1", "8", "9", "10", "11", "12", "39", "40"} {
				readAsTold(t, with(kind, i, s))
			}
			for _, s := range []string{
				"", "00", "000", "01", "001", "007", "010", strings.Repeat("0", 4000) + "1", "+0", "+1", "-0", "-1", "--1", "- 1", "+", "-",
				"0x1", "1_0", "0b1", "0o1", "1.", "1.0", "1e0", ".1", "1,0", "a", "1a", "a1", "one", "true", "good", "bad", "nil",
				"١", "１", "1\x00", "\x001", "1\t", "\t1", "1\r", "\xff", "\xb1", "²", "1\u00a0", " 1", "1 ", " ",
			} {
				noLine(t, with(kind, i, s))
			}
		}
	}
}

// P14.1, P14.3: an Answer is good or bad, by these very words.
func TestReadGood(t *testing.T) {
	wantRead(t, "answer 1 2 good\n", api.Event{Kind: 4, Slot: 1, Gen: 2, Good: true})
	wantRead(t, "answer 1 2 bad\n", api.Event{Kind: 4, Slot: 1, Gen: 2})
	for _, s := range []string{
		"", "g", "goo", "goodd", "Good", "GOOD", "ba", "badd", "Bad", "BAD", "0", "1", "true", "false", "yes", "no", "goodbad", "good bad",
		"bad good", "good good", "bad bad", " good", " bad", "good ", "bad ", "good\t", "bad\r", "\x00bad", "gοod",
	} {
		noLine(t, with(4, 2, s))
	}
	for _, line := range []string{"good\n", "bad\n", "answer good 1 2\n", "answer 1 good 2\n", "answer 1 2\n", "open good\n", "tick good\n", "tick bad\n", "data 1 2 good\n", "data 1 2 bad\n"} {
		noLine(t, line)
	}
}

// P14.1, P14.3: one blank ahead of each field, none elsewhere, and nothing else instead of it.
func TestReadBlanks(t *testing.T) {
	_, right := some()
	for _, line := range right {
		noLine(t, " "+line)
		noLine(t, "\t"+line)
		noLine(t, strings.TrimSuffix(line, "\n")+" \n")
		noLine(t, strings.TrimSuffix(line, "\n")+"\r\n")
		for _, other := range []string{"", "  ", "\t", " \t", "\v", "\f", "\r", "\x00", "\u00a0", "\u2003", ",", "_", "\n", "\n "} {
			if strings.Contains(line, " ") {
				noLine(t, strings.Replace(line, " ", other, 1))
				noLine(t, strings.ReplaceAll(line, " ", other))
			}
		}
	}
}

// P14.3: a line without a line feed is none; behind the last line feed there is no line; between two there is one, that is none's.
func TestReadLineFeeds(t *testing.T) {
	l, right := some()
	for i, line := range right {
		ahead := strings.Join(right[:i], "")
		wantRead(t, ahead+line, l[:i+1]...)
		for cut := 1; cut < len(line); cut++ {
			noRead(t, ahead+line[:cut], i, api.ErrForm)
		}
		for _, more := range []string{"\n", "\n\n", " ", " \n", "\r", "\x00", "x"} {
			noRead(t, ahead+line+more, i+1, api.ErrForm)
			noRead(t, ahead+more+line, i, api.ErrForm)
		}
		noRead(t, ahead+"\n"+line, i, api.ErrForm)
	}
	for _, line := range []string{"\n", "\n\n", "\r\n", " \n", "tick\r", "tick\v", "tick\u2028", "tick\u0085"} {
		noRead(t, line, 0, api.ErrForm)
	}
	noRead(t, "tick\ntick", 1, api.ErrForm)
	noRead(t, "ticktick\n", 0, api.ErrForm)
	noRead(t, "open\n7\n", 0, api.ErrForm)
}

// P14.3: the place is that of the first line that is none.
func TestReadFirstWrong(t *testing.T) {
	noRead(t, "tick\nx\ntick\ny\n", 1, api.ErrForm)
	noRead(t, "x\ny\n", 0, api.ErrForm)
	noRead(t, "tick\ntick\nopen 4294967296\nopen 1", 2, api.ErrForm)
	noRead(t, strings.Repeat("tick\n", 1000)+"open\n"+strings.Repeat("tack\n", 1000), 1000, api.ErrForm)
}

// P14.3: as many bytes as there may be, and one more; the size is looked at ahead of all lines.
func TestReadSize(t *testing.T) {
	ticks := strings.Repeat("tick\n", maxText/5)
	noRead(t, ticks, maxEvents, api.ErrFull)
	for _, more := range []string{"\n", "t", "tick\n", ticks} {
		noRead(t, ticks+more, 0, api.ErrSize)
		noRead(t, more+ticks, 0, api.ErrSize)
	}
	for _, c := range []string{"x", "\n", " ", "0", "\x00", "\xff"} {
		noRead(t, strings.Repeat(c, maxText), 0, api.ErrForm)
		noRead(t, strings.Repeat(c, maxText+1), 0, api.ErrSize)
		noRead(t, "tick\nopen "+strings.Repeat(c, maxText-10), 1, api.ErrForm)
		noRead(t, "tick\nopen "+strings.Repeat(c, maxText-9), 0, api.ErrSize)
	}
	long := strings.Repeat("answer 39 1048576 good\n", maxEvents-1)
	rest := maxText - len(long)
	noRead(t, long+strings.Repeat("1", rest), maxEvents-1, api.ErrForm)
	noRead(t, long+strings.Repeat("1", rest+1), 0, api.ErrSize)
	noRead(t, long+"tick\n"+strings.Repeat("1", rest-5), maxEvents, api.ErrFull)
	noRead(t, long+"tick\n"+strings.Repeat("1", rest-4), 0, api.ErrSize)
}

// P14.3: as many lines as there may be, and one more, whatever it is; a line ahead of it that is none comes first.
func TestReadFull(t *testing.T) {
	tick := []api.Event{{Kind: 7}}
	var l []api.Event
	for range maxEvents {
		l = append(l, tick...)
	}
	most := strings.Repeat("tick\n", maxEvents)
	wantRead(t, most, l...)
	wantRead(t, most[5:], l[1:]...)
	for _, more := range []string{"tick\n", "tick", "t", "\n", "x\n", "open 007\n", " ", "tick\nx\n", "x\ntick\n"} {
		noRead(t, most+more, maxEvents, api.ErrFull)
		readAsTold(t, most[5:]+more)
	}
	noRead(t, most[:len(most)-1], maxEvents-1, api.ErrForm)
	noRead(t, most[5:]+"x\ntick\n", maxEvents-1, api.ErrForm)
	noRead(t, most[5:]+"\ntick\n", maxEvents-1, api.ErrForm)
	noRead(t, "x\n"+most, 0, api.ErrForm)
	noRead(t, most[:500]+"x\n"+most, 100, api.ErrForm)
}
