package elect

import (
	"math/rand"
	"testing"

	"portcullis/api"
)

// gate is an arbiter and two voters whose clocks are off.
type gate struct {
	arbiter *Arbiter
	voters  [2]*Voter
	clocks  [2]int // the voters' own
	now     int    // the arbiter's
	own     bool   // whether a voter Asks by its own clock
}

func twoVoters(t *testing.T, lease, drift int, own bool) *gate {
	t.Helper()
	return &gate{
		arbiter: arbiter(t, lease),
		voters:  [2]*Voter{voter(t, 0, 200, drift), voter(t, 1, 100, drift)},
		own:     own,
	}
}

// goOn sets the arbiter's time, and the voters' clocks off it by so much; these do not go back either.
func (g *gate) goOn(now int, off [2]int) {
	g.now = now
	for i := range g.clocks {
		g.clocks[i] = max(g.clocks[i], now+off[i])
	}
}

// asked is by which clock a voter Asks.
func (g *gate) asked(i int) int {
	if g.own {
		return g.clocks[i]
	}
	return g.now
}

// ask for a lease, and tell whether the arbiter gave one, and up to when.
func (g *gate) ask(i int) (until int, given bool) {
	until, err := g.arbiter.Ask(i, g.asked(i))
	return until, err == nil
}

// beat: a voter that wants Asks, and is Granted what it gets.
func (g *gate) beat(i int) {
	if wants, err := g.voters[i].Wants(g.clocks[i]); err != nil || !wants {
		return
	}
	if until, given := g.ask(i); given {
		g.voters[i].Grant(until, g.clocks[i])
	}
}

// free: a voter is Standby, and gives its lease back.
func (g *gate) free(i int) {
	g.voters[i].Grant(0, g.clocks[i])
	g.arbiter.Free(i, g.asked(i))
}

// roles of both, by their own clocks.
func (g *gate) roles(t *testing.T) (roles [2]int) {
	t.Helper()
	for i, v := range g.voters {
		role, err := v.Role(g.clocks[i])
		if err != nil {
			t.Fatalf("Role of %d at %d: got %v", i, g.clocks[i], err)
		}
		roles[i] = role
	}
	return roles
}

// E3

// TestNeverBothClocks: one voter gets a lease, the other one Asks at each time; all clocks that are off by at most drift.
func TestNeverBothClocks(t *testing.T) {
	for _, own := range []bool{false, true} {
		for drift := range 4 {
			turned := 0
			for lease := 1; lease <= 12; lease++ {
				for first := -drift; first <= drift; first++ {
					for second := -drift; second <= drift; second++ {
						turned += neverBoth(t, twoVoters(t, lease, drift, own), [2]int{first, second})
					}
				}
			}
			if turned == 0 {
				t.Errorf("drift %d: the second one never was Master", drift)
			}
		}
	}
}

// neverBoth tells whether both were Master, one behind the other.
func neverBoth(t *testing.T, g *gate, off [2]int) int {
	t.Helper()
	var was [2]bool
	for now := 50; now < 70; now++ {
		g.goOn(now, off)
		if now == 50 {
			g.beat(0)
		} else {
			g.beat(1)
		}
		roles := g.roles(t)
		if roles == [2]int{api.Master, api.Master} {
			t.Errorf("both are Master: off by %v, by its own clock %v, at %d: %+v", off, g.own, now, *g.arbiter)
		}
		for i, role := range roles {
			was[i] = was[i] || role == api.Master
		}
	}
	if was == [2]bool{true, true} {
		return 1
	}
	return 0
}

// late is a lease that the arbiter gave, and that did not come yet.
type late struct{ node, until int }

// TestNeverBoth: long runs with clocks that go now faster, now slower, and with words that are lost or late.
func TestNeverBoth(t *testing.T) {
	r := rand.New(rand.NewSource(17))
	masters, turns := [2]int{}, 0
	for run := range 200 {
		drift := r.Intn(6)
		g := twoVoters(t, 1+r.Intn(40), drift, run%2 == 0)
		last, now := -1, drift
		var waiting []late
		for range 300 {
			now += r.Intn(4)
			g.goOn(now, [2]int{r.Intn(2*drift+1) - drift, r.Intn(2*drift+1) - drift})
			waiting = oneStep(r, g, waiting)
			roles := g.roles(t)
			if roles == [2]int{api.Master, api.Master} {
				t.Fatalf("run %d, at %d: both are Master, with a drift of %d", run, now, drift)
			}
			for i, role := range roles {
				if role != api.Master {
					continue
				}
				masters[i]++
				if last == 1-i {
					turns++
				}
				last = i
			}
		}
	}
	if min(masters[0], masters[1]) < 1000 || turns < 500 {
		t.Errorf("they were Master %v times, and it went over %d times", masters, turns)
	}
}

// oneStep: a random thing comes about at the gate.
func oneStep(r *rand.Rand, g *gate, waiting []late) []late {
	i := r.Intn(2)
	switch r.Intn(8) {
	case 0, 1:
		g.voters[i].Hear(g.voters[1-i].Prio(), g.clocks[i])
	case 2, 3:
		g.beat(i)
	case 4: // it asks, and is told late, or never
		if until, given := g.ask(i); given {
			waiting = append(waiting, late{i, until})
		}
	case 5:
		if len(waiting) > 0 {
			at := r.Intn(len(waiting))
			g.voters[waiting[at].node].Grant(waiting[at].until, g.clocks[waiting[at].node])
			waiting = append(waiting[:at], waiting[at+1:]...)
		}
	case 6: // what it gives back it does not take up late
		g.free(i)
		var others []late
		for _, w := range waiting {
			if w.node != i {
				others = append(others, w)
			}
		}
		waiting = others
	case 7:
		g.voters[i].Demote(r.Intn(511) - 255)
	}
	return waiting
}
