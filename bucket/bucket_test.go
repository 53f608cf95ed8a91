package bucket

import (
	"math"
	"math/rand"
	"testing"

	"usher/api"
)

// The faces stay as the chapter writes them.
var (
	_ func(api.Budget) api.Errno                           = Check
	_ func(api.Budget) (api.Bucket, api.Errno)             = Fill
	_ func(api.Budget, api.Bucket) (api.Bucket, api.Errno) = Earn
	_ func(api.Budget, api.Bucket) (api.Bucket, api.Errno) = Spend
)

const maxFactor = 20

var (
	wrongParts = []int{-1, -2, -maxFactor, -1 << 32, math.MinInt, maxFactor + 1, maxFactor + 2, 256, 1 << 32, 1<<32 + 1, math.MaxInt}
	wrongDens  = append([]int{0}, wrongParts...)
	// Tokens that right buckets may have, and others: with a wrong budget none of them matters.
	anyTokens = []int{0, 1, 8, 400, 401, -1, math.MinInt, math.MaxInt}
)

func budget(num, den, burst int) api.Budget {
	return api.Budget{Num: num, Den: den, Burst: burst}
}

// wantRight: is the budget right for Check, and for the other calls?
func wantRight(t *testing.T, b api.Budget) {
	t.Helper()
	if e := Check(b); e != api.OK {
		t.Errorf("Check(%v): %v, want %v", b, e, api.OK)
	}
	wantFill(t, b, b.Burst*b.Den)
	wantEarn(t, b, 0, min(b.Num, b.Burst*b.Den))
	if b.Burst == 0 {
		wantNoSpend(t, b, 0, api.ErrBusy)
	} else {
		wantSpend(t, b, b.Burst*b.Den, (b.Burst-1)*b.Den)
	}
}

// wantWrong: do all calls refuse the budget with the same error, whatever the bucket has?
func wantWrong(t *testing.T, b api.Budget) {
	t.Helper()
	if e := Check(b); e != api.ErrRange {
		t.Errorf("Check(%v): %v, want %v", b, e, api.ErrRange)
	}
	if x, e := Fill(b); x != (api.Bucket{}) || e != api.ErrRange {
		t.Errorf("Fill(%v): %v, %v, want {0}, %v", b, x, e, api.ErrRange)
	}
	for _, tokens := range anyTokens {
		wantNoEarn(t, b, tokens, api.ErrRange)
		wantNoSpend(t, b, tokens, api.ErrRange)
	}
}

func wantFill(t *testing.T, b api.Budget, want int) {
	t.Helper()
	if x, e := Fill(b); x.Tokens != want || e != api.OK {
		t.Errorf("Fill(%v): %v, %v, want %d, %v", b, x, e, want, api.OK)
	}
}

func wantEarn(t *testing.T, b api.Budget, tokens, want int) {
	t.Helper()
	if x, e := Earn(b, api.Bucket{Tokens: tokens}); x.Tokens != want || e != api.OK {
		t.Errorf("Earn(%v, %d): %v, %v, want %d, %v", b, tokens, x, e, want, api.OK)
	}
}

// wantNoEarn: is it refused so, with the zero value beside the error?
func wantNoEarn(t *testing.T, b api.Budget, tokens int, want api.Errno) {
	t.Helper()
	if x, e := Earn(b, api.Bucket{Tokens: tokens}); x != (api.Bucket{}) || e != want {
		t.Errorf("Earn(%v, %d): %v, %v, want {0}, %v", b, tokens, x, e, want)
	}
}

func wantSpend(t *testing.T, b api.Budget, tokens, want int) {
	t.Helper()
	if x, e := Spend(b, api.Bucket{Tokens: tokens}); x.Tokens != want || e != api.OK {
		t.Errorf("Spend(%v, %d): %v, %v, want %d, %v", b, tokens, x, e, want, api.OK)
	}
}

func wantNoSpend(t *testing.T, b api.Budget, tokens int, want api.Errno) {
	t.Helper()
	if x, e := Spend(b, api.Bucket{Tokens: tokens}); x != (api.Bucket{}) || e != want {
		t.Errorf("Spend(%v, %d): %v, %v, want {0}, %v", b, tokens, x, e, want)
	}
}

// eachBudget: all right ones.
func eachBudget(do func(b api.Budget)) {
	for num := 0; num <= maxFactor; num++ {
		for den := 1; den <= maxFactor; den++ {
			for burst := 0; burst <= maxFactor; burst++ {
				do(budget(num, den, burst))
			}
		}
	}
}

// P9.1: budgets at each bound, one by one and all together, and ordinary ones.
func TestBudgetsThatAreRight(t *testing.T) {
	for _, b := range []api.Budget{
		budget(1, 4, 2), budget(3, 4, 2), budget(5, 3, 7),
		budget(0, 4, 2), budget(maxFactor, 4, 2),
		budget(1, 1, 2), budget(1, maxFactor, 2),
		budget(1, 4, 0), budget(1, 4, maxFactor),
		budget(0, 1, 0), budget(0, 1, maxFactor), budget(0, maxFactor, 0), budget(0, maxFactor, maxFactor),
		budget(maxFactor, 1, 0), budget(maxFactor, 1, maxFactor), budget(maxFactor, maxFactor, 0), budget(maxFactor, maxFactor, maxFactor),
	} {
		wantRight(t, b)
	}
	eachBudget(func(b api.Budget) { wantRight(t, b) })
}

// P9.1: Num beyond each of its bounds, by one and by more.
func TestNumOutOfRange(t *testing.T) {
	for _, num := range wrongParts {
		for _, den := range []int{1, 4, maxFactor} {
			for _, burst := range []int{0, 2, maxFactor} {
				wantWrong(t, budget(num, den, burst))
			}
		}
	}
}

// P9.1: Den beyond each of its bounds: 0 is too small.
func TestDenOutOfRange(t *testing.T) {
	for _, den := range wrongDens {
		for _, num := range []int{0, 1, maxFactor} {
			for _, burst := range []int{0, 2, maxFactor} {
				wantWrong(t, budget(num, den, burst))
			}
		}
	}
	wantWrong(t, api.Budget{})
}

// P9.1: Burst beyond each of its bounds.
func TestBurstOutOfRange(t *testing.T) {
	for _, burst := range wrongParts {
		for _, num := range []int{0, 1, maxFactor} {
			for _, den := range []int{1, 4, maxFactor} {
				wantWrong(t, budget(num, den, burst))
			}
		}
	}
}

// P9.1: several that are wrong at once, among them pairs of which one undoes the other.
func TestSeveralOutOfRange(t *testing.T) {
	for _, den := range wrongDens {
		for _, burst := range wrongParts {
			wantWrong(t, budget(1, den, burst))
			wantWrong(t, budget(burst, den, 2))
			wantWrong(t, budget(burst, den, burst))
		}
	}
	for _, num := range wrongParts {
		for _, burst := range wrongParts {
			wantWrong(t, budget(num, 4, burst))
		}
	}
}

// P9.1 ahead of P9.2 and P9.5: a wrong budget with a bucket that may not be for it, nor for any, and with one that has not enough.
func TestWrongBudgetsAheadOfAllElse(t *testing.T) {
	for _, tokens := range []int{-1, 0, 3, 9, 41, 401, math.MinInt, math.MaxInt} {
		for _, b := range []api.Budget{
			budget(-1, 4, 2), budget(maxFactor+1, 4, 2),
			budget(1, 0, 2), budget(1, maxFactor+1, 2), budget(1, -4, 2), budget(1, -4, -2),
			budget(1, 4, -1), budget(1, 4, maxFactor+1),
		} {
			wantNoEarn(t, b, tokens, api.ErrRange)
			wantNoSpend(t, b, tokens, api.ErrRange)
		}
	}
}

// P9.2: for each right budget no tokens and Burst times Den of them may be; one less, or one more, may not.
func TestBucketsThatMayBe(t *testing.T) {
	eachBudget(func(b api.Budget) {
		full := b.Burst * b.Den
		for _, tokens := range []int{0, full} {
			x := api.Bucket{Tokens: tokens}
			if _, e := Earn(b, x); e != api.OK {
				t.Fatalf("Earn(%v, %v): %v, want %v", b, x, e, api.OK)
			}
			if _, e := Spend(b, x); e == api.ErrState {
				t.Fatalf("Spend(%v, %v): %v", b, x, e)
			}
		}
		for _, tokens := range []int{-1, full + 1} {
			wantNoEarn(t, b, tokens, api.ErrState)
			wantNoSpend(t, b, tokens, api.ErrState)
		}
	})
}

// P9.2: buckets far outside, also such that an earning or a spending would bring back within, or wrap round.
func TestBucketsThatMayNotBe(t *testing.T) {
	for _, b := range []api.Budget{budget(0, 4, 2), budget(3, 4, 2), budget(maxFactor, 1, 0), budget(maxFactor, maxFactor, maxFactor)} {
		full := b.Burst * b.Den
		for _, tokens := range []int{
			-1, -2, -b.Den, -b.Num - 1, -full - 1, -1 << 32, math.MinInt, math.MinInt + b.Den,
			full + 1, full + b.Den, full + b.Num + 1, 2*full + 1, 1 << 32, 1<<32 + 1, math.MaxInt - b.Num, math.MaxInt,
		} {
			wantNoEarn(t, b, tokens, api.ErrState)
			wantNoSpend(t, b, tokens, api.ErrState)
		}
	}
}

// P9.2: the bound is of Burst and Den alone; Num does not move it.
func TestNumDoesNotMoveTheBound(t *testing.T) {
	for num := 0; num <= maxFactor; num++ {
		wantEarn(t, budget(num, 4, 2), 8, 8)
		wantSpend(t, budget(num, 4, 2), 8, 4)
		wantNoEarn(t, budget(num, 4, 2), 9, api.ErrState)
		wantNoSpend(t, budget(num, 4, 2), 9, api.ErrState)
	}
}

// P9.2 ahead of P9.5: a bucket that may not be, where there are not so many tokens, either.
func TestStateAheadOfBusy(t *testing.T) {
	wantNoSpend(t, budget(1, 4, 2), -1, api.ErrState)
	wantNoSpend(t, budget(1, 4, 0), -1, api.ErrState)
	wantNoSpend(t, budget(1, 4, 0), 1, api.ErrState)
	wantNoSpend(t, budget(1, 4, 0), 3, api.ErrState)
	wantNoSpend(t, budget(1, 4, 0), 4, api.ErrState)
}

// P9.3: Burst times Den, worked out by hand; none at Burst 0.
func TestFill(t *testing.T) {
	for _, c := range []struct{ num, den, burst, want int }{
		{1, 4, 2, 8},
		{0, 4, 2, 8},
		{20, 4, 2, 8},
		{1, 2, 4, 8},
		{1, 1, 1, 1},
		{1, 1, 20, 20},
		{1, 20, 1, 20},
		{3, 7, 9, 63},
		{20, 20, 20, 400},
		{1, 1, 0, 0},
		{1, 20, 0, 0},
		{0, 1, 0, 0},
		{20, 20, 0, 0},
	} {
		wantFill(t, budget(c.num, c.den, c.burst), c.want)
	}
}

// P9.4: earnings that stay below Burst times Den, that meet it, and that would pass it, by one and by more; with Num 0, too.
func TestEarn(t *testing.T) {
	for _, c := range []struct{ num, den, burst, tokens, want int }{
		{3, 4, 2, 0, 3},
		{3, 4, 2, 4, 7},
		{3, 4, 2, 5, 8},
		{3, 4, 2, 6, 8},
		{3, 4, 2, 7, 8},
		{3, 4, 2, 8, 8},
		{1, 4, 2, 6, 7},
		{1, 4, 2, 7, 8},
		{1, 4, 2, 8, 8},
		{0, 4, 2, 0, 0},
		{0, 4, 2, 5, 5},
		{0, 4, 2, 8, 8},
		{20, 4, 2, 0, 8},
		{8, 4, 2, 0, 8},
		{9, 4, 2, 0, 8},
		{7, 4, 2, 0, 7},
		{20, 20, 20, 379, 399},
		{20, 20, 20, 380, 400},
		{20, 20, 20, 381, 400},
		{20, 20, 20, 400, 400},
		{20, 4, 0, 0, 0},
		{0, 1, 0, 0, 0},
	} {
		wantEarn(t, budget(c.num, c.den, c.burst), c.tokens, c.want)
	}
}

// P9.5: spendings with just Den tokens, with one less, with none, and with more.
func TestSpend(t *testing.T) {
	for _, c := range []struct{ num, den, burst, tokens, want int }{
		{3, 4, 2, 4, 0},
		{3, 4, 2, 5, 1},
		{3, 4, 2, 7, 3},
		{3, 4, 2, 8, 4},
		{0, 4, 2, 8, 4},
		{20, 4, 2, 8, 4},
		{1, 1, 1, 1, 0},
		{1, 1, 20, 20, 19},
		{1, 20, 1, 20, 0},
		{20, 20, 20, 20, 0},
		{20, 20, 20, 21, 1},
		{20, 20, 20, 400, 380},
	} {
		wantSpend(t, budget(c.num, c.den, c.burst), c.tokens, c.want)
	}
	for _, tokens := range []int{0, 1, 2, 3} {
		wantNoSpend(t, budget(3, 4, 2), tokens, api.ErrBusy)
		wantNoSpend(t, budget(20, 4, 2), tokens, api.ErrBusy)
	}
	wantNoSpend(t, budget(1, 1, 1), 0, api.ErrBusy)
	wantNoSpend(t, budget(1, 1, 0), 0, api.ErrBusy)
	wantNoSpend(t, budget(20, 20, 20), 19, api.ErrBusy)
	wantNoSpend(t, budget(20, 20, 0), 0, api.ErrBusy)
}

// P9.2 to P9.5: all right budgets and all buckets that may be, counted token by token.
func TestAllBuckets(t *testing.T) {
	eachBudget(func(b api.Budget) {
		full := 0
		for range b.Burst {
			full += b.Den
		}
		if x, e := Fill(b); x.Tokens != full || e != api.OK {
			t.Fatalf("Fill(%v): %v, %v, want %d", b, x, e, full)
		}
		for tokens := 0; tokens <= full; tokens++ {
			earned := tokens
			for range b.Num {
				if earned < full {
					earned++
				}
			}
			spent, want := tokens-b.Den, api.OK
			if spent < 0 {
				spent, want = 0, api.ErrBusy
			}
			if x, e := Earn(b, api.Bucket{Tokens: tokens}); x.Tokens != earned || e != api.OK {
				t.Fatalf("Earn(%v, %d): %v, %v, want %d", b, tokens, x, e, earned)
			}
			if x, e := Spend(b, api.Bucket{Tokens: tokens}); x.Tokens != spent || e != want {
				t.Fatalf("Spend(%v, %d): %v, %v, want %d, %v", b, tokens, x, e, spent, want)
			}
		}
	})
}

// earn, spend: with a bucket that came of other calls; what they answer may be.
func earn(t *testing.T, b api.Budget, x api.Bucket) api.Bucket {
	t.Helper()
	y, e := Earn(b, x)
	if e != api.OK || y.Tokens < x.Tokens || y.Tokens > b.Burst*b.Den {
		t.Fatalf("Earn(%v, %v): %v, %v", b, x, y, e)
	}
	return y
}

// spend: the bucket afterwards, and whether it was enough.
func spend(t *testing.T, b api.Budget, x api.Bucket) (api.Bucket, bool) {
	t.Helper()
	y, e := Spend(b, x)
	if e == api.ErrBusy {
		return x, false
	}
	if e != api.OK || y.Tokens < 0 || y.Tokens >= x.Tokens {
		t.Fatalf("Spend(%v, %v): %v, %v", b, x, y, e)
	}
	return y, true
}

// What comes of it: whatever the order, of so many that earned at most Burst, and Num / Den of them, rounded down, have spent.
func TestNoMoreSpend(t *testing.T) {
	d := rand.New(rand.NewSource(9))
	for range 2000 {
		b := budget(d.Intn(maxFactor+1), 1+d.Intn(maxFactor), d.Intn(maxFactor+1))
		x, e := Fill(b)
		if e != api.OK {
			t.Fatalf("Fill(%v): %v", b, e)
		}
		earned, spent, greed := 0, 0, 1+d.Intn(9)
		for range 300 {
			if d.Intn(10) >= greed {
				x = earn(t, b, x)
				earned++
			} else if y, ok := spend(t, b, x); ok {
				x = y
				spent++
			}
			if spent > b.Burst+b.Num*earned/b.Den {
				t.Fatalf("%v: %d spent of %d that earned", b, spent, earned)
			}
		}
	}
}

// What comes of it, as sharp as it is: who spends whenever there is enough spends just so many, while no earning is cut off.
func TestSoManySpend(t *testing.T) {
	eachBudget(func(b api.Budget) {
		x, e := Fill(b)
		if e != api.OK {
			t.Fatalf("Fill(%v): %v", b, e)
		}
		cut := b.Den-1+b.Num > b.Burst*b.Den
		earned, spent := 0, 0
		for {
			for y, ok := spend(t, b, x); ok; y, ok = spend(t, b, x) {
				x = y
				spent++
			}
			if most := b.Burst + b.Num*earned/b.Den; spent > most || (!cut && spent != most) {
				t.Fatalf("%v: %d spent of %d that earned, at most %d", b, spent, earned, most)
			}
			if earned == 60 {
				return
			}
			x = earn(t, b, x)
			earned++
		}
	})
}

// What comes of it: with Burst 0 nobody ever spends; with Num 0, Burst and no more.
func TestNothingComesOfNothing(t *testing.T) {
	for num := 0; num <= maxFactor; num++ {
		b := budget(num, 3, 0)
		x, _ := Fill(b)
		for range 50 {
			wantNoSpend(t, b, x.Tokens, api.ErrBusy)
			x = earn(t, b, x)
		}
	}
	for burst := 0; burst <= maxFactor; burst++ {
		b := budget(0, 3, burst)
		x, _ := Fill(b)
		for range burst {
			x, _ = spend(t, b, earn(t, b, x))
		}
		wantNoSpend(t, b, earn(t, b, x).Tokens, api.ErrBusy)
	}
}

// What a call answers hangs on its arguments alone: calls between do not change it.
func TestNothingIsKept(t *testing.T) {
	for i := range 100 {
		b := budget(i%23-1, i%22, i%24-1)
		Check(b)
		Fill(b)
		Earn(b, api.Bucket{Tokens: i - 5})
		Spend(b, api.Bucket{Tokens: i - 5})
		wantFill(t, budget(1, 4, 2), 8)
		wantEarn(t, budget(3, 4, 2), 7, 8)
		wantSpend(t, budget(3, 4, 2), 7, 3)
		wantNoSpend(t, budget(3, 4, 2), 3, api.ErrBusy)
	}
}
