package elect

import (
	"testing"

	"portcullis/api"
	"portcullis/plain"
)

func voter(t *testing.T, node, prio, drift int) *Voter {
	t.Helper()
	v, err := NewVoter(node, prio, drift)
	if err != nil || v == nil {
		t.Fatalf("NewVoter(%d, %d, %d): got %v, %v, want one", node, prio, drift, v, err)
	}
	return v
}

// heard is a voter of drift 0 that Heard a priority at 100.
func heard(t *testing.T, node, prio, other int) *Voter {
	t.Helper()
	v := voter(t, node, prio, 0)
	wantHear(t, v, other, 100)
	return v
}

// granted is a voter of node 1 and priority 100 that was Granted a lease at 100.
func granted(t *testing.T, drift, until int) *Voter {
	t.Helper()
	v := voter(t, 1, 100, drift)
	wantGrant(t, v, until, 100)
	return v
}

func wantHear(t *testing.T, v *Voter, prio, now int) {
	t.Helper()
	if err := v.Hear(prio, now); err != nil {
		t.Errorf("Hear(%d, %d): got %v", prio, now, err)
	}
}

func wantHearRefused(t *testing.T, what string, v *Voter, prio, now int, want api.Errno) {
	t.Helper()
	if err := v.Hear(prio, now); plain.Told(err) != want {
		t.Errorf("%s: Hear(%d, %d): got %v, want %v", what, prio, now, err, want)
	}
}

func wantGrant(t *testing.T, v *Voter, until, now int) {
	t.Helper()
	if err := v.Grant(until, now); err != nil {
		t.Errorf("Grant(%d, %d): got %v", until, now, err)
	}
}

func wantGrantRefused(t *testing.T, what string, v *Voter, until, now int, want api.Errno) {
	t.Helper()
	if err := v.Grant(until, now); plain.Told(err) != want {
		t.Errorf("%s: Grant(%d, %d): got %v, want %v", what, until, now, err, want)
	}
}

func wantWants(t *testing.T, what string, v *Voter, now int, want bool) {
	t.Helper()
	if got, err := v.Wants(now); got != want || err != nil {
		t.Errorf("%s: Wants(%d): got %v, %v, want %v", what, now, got, err, want)
	}
}

func wantWantsRefused(t *testing.T, what string, v *Voter, now int, want api.Errno) {
	t.Helper()
	if got, err := v.Wants(now); got || plain.Told(err) != want {
		t.Errorf("%s: Wants(%d): got %v, %v, want %v", what, now, got, err, want)
	}
}

func wantRole(t *testing.T, what string, v *Voter, now, want int) {
	t.Helper()
	if got, err := v.Role(now); got != want || err != nil {
		t.Errorf("%s: Role(%d): got %d, %v, want %d", what, now, got, err, want)
	}
}

func wantRoleRefused(t *testing.T, what string, v *Voter, now int, want api.Errno) {
	t.Helper()
	if got, err := v.Role(now); got != 0 || plain.Told(err) != want {
		t.Errorf("%s: Role(%d): got %d, %v, want %v", what, now, got, err, want)
	}
}

func wantDemote(t *testing.T, v *Voter, by, prio int) {
	t.Helper()
	if err := v.Demote(by); err != nil {
		t.Errorf("Demote(%d): got %v", by, err)
	}
	wantPrio(t, "demoted", v, prio)
}

func wantPrio(t *testing.T, what string, v *Voter, want int) {
	t.Helper()
	if got := v.Prio(); got != want {
		t.Errorf("%s: Prio: got %d, want %d", what, got, want)
	}
}

// E2: NewVoter

// TestNewVoter: node 0 or 1, a priority from 0 to 255, a drift from 0 to 1000; Standby at first, at any time, and it wants.
func TestNewVoter(t *testing.T) {
	for node := range 2 {
		for _, prio := range []int{0, 1, 100, 254, 255} {
			for _, drift := range []int{0, 1, 999, 1000} {
				v := voter(t, node, prio, drift)
				wantPrio(t, "new", v, prio)
				for _, now := range []int{0, 1, api.MaxTime} {
					wantRole(t, "new", v, now, api.Standby)
					wantWants(t, "new", v, now, true)
				}
			}
		}
	}
	refused := func(node, prio, drift int) {
		if v, err := NewVoter(node, prio, drift); v != nil || plain.Told(err) != api.ErrRange {
			t.Errorf("NewVoter(%d, %d, %d): got %v, %v, want ErrRange", node, prio, drift, v, err)
		}
	}
	for _, node := range outside(0, 1) {
		refused(node, 100, 3)
	}
	for _, prio := range outside(0, 255) {
		refused(1, prio, 3)
	}
	for _, drift := range outside(0, 1000) {
		refused(0, 100, drift)
	}
}

// E2: now

// TestVoterTime: a time is from 0 to MaxTime, and not less than in a call ahead; ahead of all other errors.
func TestVoterTime(t *testing.T) {
	for _, now := range outside(0, api.MaxTime) {
		v := voter(t, 1, 100, 0)
		wantHearRefused(t, "no time", v, 100, now, api.ErrRange)
		wantGrantRefused(t, "no time", v, 9, now, api.ErrRange)
		wantWantsRefused(t, "no time", v, now, api.ErrRange)
		wantRoleRefused(t, "no time", v, now, api.ErrRange)
		wantWants(t, "still", v, 0, true)
	}
	for _, now := range []int{0, 1, 98, 99} {
		v := granted(t, 0, 200)
		for _, prio := range []int{0, 255, 256, -1} {
			wantHearRefused(t, "back", v, prio, now, api.ErrState)
		}
		for _, until := range []int{0, 500, -1, 2*api.MaxTime + 1} {
			wantGrantRefused(t, "back", v, until, now, api.ErrState)
		}
		wantWantsRefused(t, "back", v, now, api.ErrState)
		wantRoleRefused(t, "back", v, now, api.ErrState)
		wantRole(t, "still", v, 100, api.Master)
	}
}

// TestVoterGoesOn: each of the four calls with a now moves the time.
func TestVoterGoesOn(t *testing.T) {
	for i, move := range []func(v *Voter, now int) error{
		func(v *Voter, now int) error { return v.Hear(7, now) },
		func(v *Voter, now int) error { return v.Grant(7, now) },
		func(v *Voter, now int) error { _, err := v.Wants(now); return err },
		func(v *Voter, now int) error { _, err := v.Role(now); return err },
	} {
		for _, at := range []int{1, 70, api.MaxTime} {
			v := voter(t, 0, 100, 5)
			if err := move(v, at); err != nil {
				t.Errorf("call %d at %d: got %v", i, at, err)
			}
			wantHearRefused(t, "moved", v, 7, at-1, api.ErrState)
			wantGrantRefused(t, "moved", v, 7, at-1, api.ErrState)
			wantWantsRefused(t, "moved", v, at-1, api.ErrState)
			wantRoleRefused(t, "moved", v, at-1, api.ErrState)
			if err := move(v, at); err != nil {
				t.Errorf("call %d at %d again: got %v", i, at, err)
			}
		}
	}
}

// TestVoterErrors: what is refused moves no time, and nothing else.
func TestVoterErrors(t *testing.T) {
	for _, refuse := range []func(v *Voter){
		func(v *Voter) { wantHearRefused(t, "priority", v, 256, 120, api.ErrRange) },
		func(v *Voter) { wantHearRefused(t, "priority", v, -1, 120, api.ErrRange) },
		func(v *Voter) { wantGrantRefused(t, "until", v, -1, 120, api.ErrRange) },
		func(v *Voter) { wantGrantRefused(t, "until", v, 2*api.MaxTime+1, 120, api.ErrRange) },
		func(v *Voter) { wantHearRefused(t, "no time", v, 50, api.MaxTime+1, api.ErrRange) },
		func(v *Voter) { wantHearRefused(t, "back", v, 50, 99, api.ErrState) },
		func(v *Voter) { wantGrantRefused(t, "no time", v, 500, api.MaxTime+1, api.ErrRange) },
		func(v *Voter) { wantGrantRefused(t, "back", v, 0, 99, api.ErrState) },
		func(v *Voter) { wantWantsRefused(t, "no time", v, api.MaxTime+1, api.ErrRange) },
		func(v *Voter) { wantRoleRefused(t, "no time", v, api.MaxTime+1, api.ErrRange) },
		func(v *Voter) { v.Demote(256) },
	} {
		v := granted(t, 0, 110)
		wantHear(t, v, 150, 100)
		refuse(v)
		wantPrio(t, "refused", v, 100)
		wantRole(t, "not moved", v, 100, api.Master)
		wantRole(t, "same lease", v, 109, api.Master)
		wantRole(t, "same lease", v, 110, api.Standby)
		wantWants(t, "same priority", v, 129, false)
		wantWants(t, "same time", v, 130, true)
	}
}

// E2: Hear, Wants

// TestHear: a priority is from 0 to 255.
func TestHear(t *testing.T) {
	for _, prio := range []int{0, 1, 254, 255} {
		wantHear(t, voter(t, 0, 100, 3), prio, 0)
		wantHear(t, voter(t, 1, 100, 3), prio, api.MaxTime)
	}
	for _, prio := range outside(0, 255) {
		wantHearRefused(t, "no priority", voter(t, 0, 100, 3), prio, 5, api.ErrRange)
	}
}

// TestWantsPrio: it wants unless a greater one counts; of like ones node 0 wants, and node 1 does not.
func TestWantsPrio(t *testing.T) {
	for _, c := range []struct {
		prio, other int
		want        [2]bool
	}{
		{100, 0, [2]bool{true, true}},
		{100, 99, [2]bool{true, true}},
		{100, 100, [2]bool{true, false}},
		{100, 101, [2]bool{false, false}},
		{100, 255, [2]bool{false, false}},
		{0, 0, [2]bool{true, false}},
		{0, 1, [2]bool{false, false}},
		{1, 0, [2]bool{true, true}},
		{255, 255, [2]bool{true, false}},
		{254, 255, [2]bool{false, false}},
		{255, 254, [2]bool{true, true}},
	} {
		for node, want := range c.want {
			v := heard(t, node, c.prio, c.other)
			wantWants(t, "heard", v, 100, want)
			wantWants(t, "heard", v, 129, want)
			wantWants(t, "heard long ago", v, 130, true)
			wantWants(t, "heard long ago", v, api.MaxTime, true)
		}
	}
}

// TestWantsCounts: a priority counts for 30 from its time on, and what is heard next stands in its place.
func TestWantsCounts(t *testing.T) {
	v := voter(t, 0, 100, 0)
	wantHear(t, v, 200, 0)
	wantWants(t, "at 0", v, 29, false)
	wantWants(t, "at 0", v, 30, true)
	wantHear(t, v, 200, 40)
	wantWants(t, "heard again", v, 40, false)
	wantHear(t, v, 201, 60)
	wantWants(t, "the later one", v, 70, false)
	wantWants(t, "the later one", v, 89, false)
	wantWants(t, "the later one", v, 90, true)
	wantHear(t, v, 200, 100)
	wantHear(t, v, 50, 100)
	wantWants(t, "the other one is demoted", v, 100, true)
	wantHear(t, v, 101, 110)
	wantWants(t, "the other one is raised", v, 139, false)
	wantHear(t, v, 99, 139)
	wantWants(t, "the other one is demoted", v, 139, true)
	wantWants(t, "the other one is demoted", v, api.MaxTime, true)
	wantHear(t, v, 101, api.MaxTime)
	wantWants(t, "at the end", v, api.MaxTime, false)
}

// TestWantsMaster: who is Master wants, whatever counts; no more when it is not.
func TestWantsMaster(t *testing.T) {
	for node := range 2 {
		v := voter(t, node, 100, 3)
		wantHear(t, v, 255, 100)
		wantWants(t, "Standby", v, 100, false)
		wantGrant(t, v, 120, 100)
		wantWants(t, "Master", v, 100, true)
		wantWants(t, "Master", v, 113, true)
		wantWants(t, "Standby again", v, 114, false)
		wantWants(t, "Standby again", v, 120, false)
		wantGrant(t, v, 130, 121)
		wantWants(t, "Master again", v, 123, true)
		wantGrant(t, v, 0, 123)
		wantWants(t, "given back", v, 123, false)
		wantWants(t, "nothing counts", v, 130, true)
		wantRole(t, "nothing counts", v, 130, api.Standby)
	}
}

// E2: Grant, Role

// TestGrant: until is from 0 to 2 MaxTime.
func TestGrant(t *testing.T) {
	for _, until := range []int{0, 1, api.MaxTime, api.MaxTime + 1, 2*api.MaxTime - 1, 2 * api.MaxTime} {
		wantGrant(t, voter(t, 0, 100, 3), until, 0)
		wantGrant(t, voter(t, 1, 100, 3), until, api.MaxTime)
	}
	for _, until := range outside(0, 2*api.MaxTime) {
		wantGrantRefused(t, "no until", voter(t, 0, 100, 3), until, 5, api.ErrRange)
	}
}

// TestRole: Master as long as until less now is more than twice drift.
func TestRole(t *testing.T) {
	for _, drift := range []int{0, 1, 2, 3, 500, 999, 1000} {
		for _, until := range []int{2*drift + 101, 2*drift + 102, 2*drift + 150, api.MaxTime - 1} {
			v := granted(t, drift, until)
			wantRole(t, "granted", v, 100, api.Master)
			wantRole(t, "the last time", v, until-2*drift-1, api.Master)
			wantRole(t, "over", v, until-2*drift, api.Standby)
			wantRole(t, "over", v, until-2*drift+1, api.Standby)
			wantRole(t, "over", v, api.MaxTime, api.Standby)
		}
		for _, until := range []int{0, 99, 100, 100 + drift, 100 + 2*drift} {
			wantRole(t, "too short", granted(t, drift, until), 100, api.Standby)
		}
		v := granted(t, drift, 2*api.MaxTime)
		wantRole(t, "longest", v, api.MaxTime, api.Master)
	}
}

// TestRoleGranted: the last lease is the one that it has, be it longer or shorter.
func TestRoleGranted(t *testing.T) {
	v := granted(t, 5, 150)
	wantGrant(t, v, 170, 110)
	wantRole(t, "longer", v, 159, api.Master)
	wantRole(t, "longer", v, 160, api.Standby)
	wantGrant(t, v, 300, 200)
	wantRole(t, "again", v, 200, api.Master)
	wantGrant(t, v, 250, 201)
	wantRole(t, "shorter", v, 239, api.Master)
	wantRole(t, "shorter", v, 240, api.Standby)
	wantGrant(t, v, 300, 241)
	wantGrant(t, v, 0, 242)
	wantRole(t, "none", v, 242, api.Standby)
}

// TestRoleAlone: a role hangs on the lease alone, not on priorities.
func TestRoleAlone(t *testing.T) {
	v := granted(t, 0, 200)
	wantHear(t, v, 255, 100)
	wantDemote(t, v, 255, 0)
	wantRole(t, "demoted", v, 199, api.Master)
	wantDemote(t, v, -255, 255)
	wantRole(t, "raised", v, 200, api.Standby)
}

// E2: Demote, Prio

// TestDemote: less by so much, but not below 0, or above 255.
func TestDemote(t *testing.T) {
	for _, c := range []struct{ prio, by, want int }{
		{100, 0, 100},
		{100, 1, 99},
		{100, 99, 1},
		{100, 100, 0},
		{100, 101, 0},
		{100, 254, 0},
		{100, 255, 0},
		{100, -1, 101},
		{100, -154, 254},
		{100, -155, 255},
		{100, -156, 255},
		{100, -255, 255},
		{255, 255, 0},
		{255, 254, 1},
		{255, -1, 255},
		{255, -255, 255},
		{0, 1, 0},
		{0, 255, 0},
		{0, -1, 1},
		{0, -255, 255},
	} {
		wantDemote(t, voter(t, 0, c.prio, 0), c.by, c.want)
		wantDemote(t, voter(t, 1, c.prio, 1000), c.by, c.want)
	}
	for _, by := range outside(-255, 255) {
		v := voter(t, 0, 100, 0)
		if err := v.Demote(by); plain.Told(err) != api.ErrRange {
			t.Errorf("Demote(%d): got %v, want ErrRange", by, err)
		}
		wantPrio(t, "refused", v, 100)
	}
}

// TestDemoteStays: it is so from then on, from the priority that was there then.
func TestDemoteStays(t *testing.T) {
	v := voter(t, 1, 100, 0)
	wantDemote(t, v, 30, 70)
	wantDemote(t, v, 30, 40)
	wantDemote(t, v, -10, 50)
	wantDemote(t, v, 200, 0)
	wantDemote(t, v, -10, 10)
	wantRole(t, "later", v, 500, api.Standby)
	wantPrio(t, "later", v, 10)
}

// TestDemoteWants: its priority now is what counts, also against what was heard ahead.
func TestDemoteWants(t *testing.T) {
	v := heard(t, 0, 100, 90)
	wantWants(t, "above", v, 101, true)
	wantDemote(t, v, 10, 90)
	wantWants(t, "like", v, 102, true)
	wantDemote(t, v, 1, 89)
	wantWants(t, "below", v, 103, false)
	wantDemote(t, v, -2, 91)
	wantWants(t, "above again", v, 104, true)
}

// TestVotersApart: each has a lease, a priority and a time of its own.
func TestVotersApart(t *testing.T) {
	v, w := voter(t, 0, 100, 0), voter(t, 1, 200, 2)
	wantGrant(t, v, 150, 100)
	wantHear(t, w, 250, 3)
	wantDemote(t, v, 50, 50)
	wantPrio(t, "another", w, 200)
	wantRole(t, "another", w, 3, api.Standby)
	wantWants(t, "another", w, 3, false)
	wantRole(t, "one", v, 120, api.Master)
	wantWants(t, "one", v, 150, true)
	wantRole(t, "another", w, 4, api.Standby)
}
