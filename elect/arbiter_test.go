package elect

import (
	"math"
	"testing"

	"portcullis/api"
	"portcullis/plain"
)

// outside are numbers that are not from low to high.
func outside(low, high int) []int {
	return []int{math.MinInt, -1 << 32, low - 2, low - 1, high + 1, high + 2, 1 << 32, math.MaxInt}
}

func arbiter(t *testing.T, lease int) *Arbiter {
	t.Helper()
	a, err := NewArbiter(lease)
	if err != nil || a == nil {
		t.Fatalf("NewArbiter(%d): got %v, %v, want one", lease, a, err)
	}
	return a
}

// leased is an arbiter of lease 10 that a node Asked at 100.
func leased(t *testing.T, node int) *Arbiter {
	t.Helper()
	a := arbiter(t, 10)
	wantAsk(t, "leased", a, node, 100, 110)
	return a
}

func wantAsk(t *testing.T, what string, a *Arbiter, node, now, want int) {
	t.Helper()
	if got, err := a.Ask(node, now); got != want || err != nil {
		t.Errorf("%s: Ask(%d, %d): got %d, %v, want %d", what, node, now, got, err, want)
	}
}

func wantAskRefused(t *testing.T, what string, a *Arbiter, node, now int, want api.Errno) {
	t.Helper()
	if got, err := a.Ask(node, now); got != 0 || plain.Told(err) != want {
		t.Errorf("%s: Ask(%d, %d): got %d, %v, want %v", what, node, now, got, err, want)
	}
}

func wantFree(t *testing.T, what string, a *Arbiter, node, now int) {
	t.Helper()
	if err := a.Free(node, now); err != nil {
		t.Errorf("%s: Free(%d, %d): got %v", what, node, now, err)
	}
}

func wantFreeRefused(t *testing.T, what string, a *Arbiter, node, now int, want api.Errno) {
	t.Helper()
	if err := a.Free(node, now); plain.Told(err) != want {
		t.Errorf("%s: Free(%d, %d): got %v, want %v", what, node, now, err, want)
	}
}

// E1: NewArbiter

// TestNewArbiter: a lease is from 1 to MaxTime.
func TestNewArbiter(t *testing.T) {
	for _, lease := range []int{1, 2, 10, api.MaxTime - 1, api.MaxTime} {
		wantAsk(t, "new", arbiter(t, lease), 0, 0, lease)
	}
	for _, lease := range outside(1, api.MaxTime) {
		if a, err := NewArbiter(lease); a != nil || plain.Told(err) != api.ErrRange {
			t.Errorf("NewArbiter(%d): got %v, %v, want ErrRange", lease, a, err)
		}
	}
}

// E1: Ask

// TestAskFirst: nobody has it at first, so that either node gets it, at any time.
func TestAskFirst(t *testing.T) {
	for node := range 2 {
		for _, now := range []int{0, 1, 500, api.MaxTime - 1, api.MaxTime} {
			a := arbiter(t, 10)
			wantAsk(t, "first", a, node, now, now+10)
			wantAskRefused(t, "the other one", a, 1-node, now, api.ErrClash)
		}
		wantAsk(t, "longest", arbiter(t, api.MaxTime), node, api.MaxTime, 2*api.MaxTime)
	}
}

// TestAskAgain: who has it gets it from then on, also if it is over.
func TestAskAgain(t *testing.T) {
	for node := range 2 {
		for _, now := range []int{100, 101, 105, 109, 110, 111, 5000} {
			a := leased(t, node)
			wantAsk(t, "again", a, node, now, now+10)
			wantAskRefused(t, "again", a, 1-node, now+9, api.ErrClash)
			wantAsk(t, "over", a, 1-node, now+10, now+20)
		}
	}
}

// TestAskClash: another one gets it from its until on, not ahead of that.
func TestAskClash(t *testing.T) {
	for node := range 2 {
		for _, now := range []int{100, 101, 105, 108, 109} {
			a := leased(t, node)
			wantAskRefused(t, "before", a, 1-node, now, api.ErrClash)
			wantAsk(t, "still its own", a, node, now, now+10)
		}
		for _, now := range []int{110, 111, 112, 5000} {
			a := leased(t, node)
			wantAsk(t, "over", a, 1-node, now, now+10)
			wantAskRefused(t, "turned", a, node, now, api.ErrClash)
			wantAskRefused(t, "turned", a, node, now+9, api.ErrClash)
			wantAsk(t, "turned, over", a, node, now+10, now+20)
		}
	}
	short := arbiter(t, 1)
	wantAsk(t, "short", short, 0, 7, 8)
	wantAskRefused(t, "short", short, 1, 7, api.ErrClash)
	wantAsk(t, "short", short, 1, 8, 9)
	long := arbiter(t, api.MaxTime)
	wantAsk(t, "long", long, 1, 1, api.MaxTime+1)
	wantAskRefused(t, "long", long, 0, api.MaxTime, api.ErrClash)
	full := arbiter(t, api.MaxTime)
	wantAsk(t, "all the time", full, 1, 0, api.MaxTime)
	wantAskRefused(t, "all the time", full, 0, api.MaxTime-1, api.ErrClash)
	wantAsk(t, "at the end", full, 0, api.MaxTime, 2*api.MaxTime)
}

// E1: Free

// TestFree: who has it gives it back, so that the other one gets it at once.
func TestFree(t *testing.T) {
	for node := range 2 {
		for _, now := range []int{100, 101, 109, 110, 111, 5000} {
			a := leased(t, node)
			wantFree(t, "own", a, node, now)
			wantAsk(t, "given back", a, 1-node, now, now+10)
			wantAskRefused(t, "gone on", a, node, now, api.ErrClash)
			wantFree(t, "no more its own", a, node, now+1)
			wantAskRefused(t, "gone on", a, node, now+9, api.ErrClash)
			wantAsk(t, "gone on, over", a, node, now+10, now+20)
		}
		a := leased(t, node)
		wantFree(t, "own", a, node, 105)
		wantFree(t, "twice", a, node, 106)
		wantAsk(t, "who gave it back", a, node, 107, 117)
		wantAskRefused(t, "has it again", a, 1-node, 116, api.ErrClash)
	}
}

// TestFreeOther: who has it not gives nothing back.
func TestFreeOther(t *testing.T) {
	for node := range 2 {
		for _, now := range []int{100, 105, 109} {
			a := leased(t, node)
			wantFree(t, "another one's", a, 1-node, now)
			wantAskRefused(t, "still", a, 1-node, now, api.ErrClash)
			wantAskRefused(t, "still", a, 1-node, 109, api.ErrClash)
			wantAsk(t, "over", a, 1-node, 110, 120)
		}
		for _, now := range []int{0, 3, api.MaxTime} {
			a := arbiter(t, 10)
			wantFree(t, "nobody's", a, node, now)
			wantAsk(t, "nobody's", a, 1-node, now, now+10)
			a = arbiter(t, 10)
			wantFree(t, "nobody's", a, node, now)
			wantAsk(t, "nobody's", a, node, now, now+10)
		}
	}
}

// E1: errors of node and now

// TestArbiterNode: a node is 0 or 1; ahead of the errors of now, and of a clash.
func TestArbiterNode(t *testing.T) {
	for _, node := range outside(0, 1) {
		for _, now := range []int{math.MinInt, -1, 0, 99, 100, 105, 110, api.MaxTime, api.MaxTime + 1} {
			a := leased(t, 1)
			wantAskRefused(t, "no node", a, node, now, api.ErrRange)
			wantFreeRefused(t, "no node", a, node, now, api.ErrRange)
			wantAskRefused(t, "still", a, 0, 109, api.ErrClash)
			wantAsk(t, "still", a, 1, 100, 110)
			wantAskRefused(t, "new", arbiter(t, 10), node, now, api.ErrRange)
			wantFreeRefused(t, "new", arbiter(t, 10), node, now, api.ErrRange)
		}
	}
}

// TestArbiterTime: a time is from 0 to MaxTime, and not less than in a call ahead that had no error.
func TestArbiterTime(t *testing.T) {
	for node := range 2 {
		for _, now := range outside(0, api.MaxTime) {
			for _, a := range []*Arbiter{arbiter(t, 10), leased(t, 0), leased(t, 1)} {
				wantAskRefused(t, "no time", a, node, now, api.ErrRange)
				wantFreeRefused(t, "no time", a, node, now, api.ErrRange)
			}
		}
		for _, now := range []int{0, 1, 98, 99} {
			for owner := range 2 {
				a := leased(t, owner)
				wantAskRefused(t, "back", a, node, now, api.ErrState)
				wantFreeRefused(t, "back", a, node, now, api.ErrState)
				wantAskRefused(t, "still", a, 1-owner, 109, api.ErrClash)
				wantAsk(t, "still", a, owner, 100, 110)
			}
		}
	}
}

// TestArbiterGoesOn: Ask and Free move the time, whoever comes; what is refused does not.
func TestArbiterGoesOn(t *testing.T) {
	for i, move := range []func(a *Arbiter){
		func(a *Arbiter) { wantAsk(t, "own", a, 1, 105, 115) },
		func(a *Arbiter) { wantFree(t, "own", a, 1, 105) },
		func(a *Arbiter) { wantFree(t, "another one's", a, 0, 105) },
	} {
		a := leased(t, 1)
		move(a)
		for node := range 2 {
			wantAskRefused(t, "moved", a, node, 104, api.ErrState)
			wantFreeRefused(t, "moved", a, node, 104, api.ErrState)
		}
		if _, err := a.Ask(1, 105); err != nil {
			t.Errorf("move %d: at the same time: got %v", i, err)
		}
	}
	for _, refuse := range []func(a *Arbiter){
		func(a *Arbiter) { wantAskRefused(t, "clash", a, 0, 105, api.ErrClash) },
		func(a *Arbiter) { wantAskRefused(t, "no node", a, 2, 105, api.ErrRange) },
		func(a *Arbiter) { wantFreeRefused(t, "no node", a, 2, 105, api.ErrRange) },
		func(a *Arbiter) { wantAskRefused(t, "no time", a, 1, api.MaxTime+1, api.ErrRange) },
		func(a *Arbiter) { wantFreeRefused(t, "no time", a, 1, api.MaxTime+1, api.ErrRange) },
	} {
		a := leased(t, 1)
		refuse(a)
		wantAskRefused(t, "not given", a, 0, 100, api.ErrClash)
		wantFree(t, "not moved", a, 0, 100)
		wantAskRefused(t, "not longer", a, 0, 109, api.ErrClash)
		wantAsk(t, "not longer", a, 0, 110, 120)
	}
}

// TestArbitersApart: each has a lease and a time of its own.
func TestArbitersApart(t *testing.T) {
	a, b := arbiter(t, 10), arbiter(t, 20)
	wantAsk(t, "one", a, 0, 50, 60)
	wantAsk(t, "another", b, 1, 3, 23)
	wantAskRefused(t, "one", a, 1, 59, api.ErrClash)
	wantAskRefused(t, "another", b, 0, 22, api.ErrClash)
	wantFree(t, "another", b, 1, 4)
	wantAskRefused(t, "one", a, 1, 59, api.ErrClash)
	wantAsk(t, "another", b, 0, 4, 24)
}
