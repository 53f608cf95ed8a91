package wheel

import (
	"cmp"

	"usher/api"
)

// Each block has eight parts, and a list for each of them; what is in none of the blocks of now has one list more.
const (
	parts     = 8
	levels    = 3
	far       = levels * parts
	listCount = far + 1
)

// blocks: how many ticks the block of each level has.
var blocks = [levels]int{8, 64, 512}

func isTick(n int) bool { return 0 <= n && n <= api.MaxTick }

// fits: may the timer stand in a wheel at that tick? The tick is held to its bounds already, so that the sum stays within its own.
func fits(t api.Timer, now int) bool {
	return now < t.At && t.At <= min(now+api.MaxSpan, api.MaxTick) && 0 <= t.Id && t.Id < api.MaxTimers
}

// place of a timer: which list it stands in.
func place(at, now int) int {
	for level, size := range blocks {
		if at/size == now/size {
			return level*parts + at/(size/parts)%parts
		}
	}
	return far
}

// begun: of which levels does a block begin at that tick?
func begun(now int) [levels]bool {
	var b [levels]bool
	for level, size := range blocks {
		b[level] = now%size == 0
	}
	return b
}

// waiting: the list in which the timers of a level's block stood till it began.
func waiting(level, now int) int {
	if level == levels-1 {
		return far
	}
	return (level+1)*parts + now/blocks[level]%parts
}

// compareTimers compares two timers by their ticks, then by their Ids.
func compareTimers(a, b api.Timer) int {
	return cmp.Or(cmp.Compare(a.At, b.At), cmp.Compare(a.Id, b.Id))
}
