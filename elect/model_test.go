package elect

import (
	"fmt"
	"math/rand"
	"testing"

	"portcullis/api"
	"portcullis/plain"
)

// wrongTime tells what is wrong with a time, behind those of calls ahead.
func wrongTime(now int, ahead []int) api.Errno {
	if now < 0 || now > 1_000_000 {
		return api.ErrRange
	}
	for _, then := range ahead {
		if now < then {
			return api.ErrState
		}
	}
	return api.OK
}

// given is a lease: to whom, and up to when.
type given struct{ node, until int }

// arbiterModel is an arbiter as the chapter's words have it: all leases that it ever gave, and all times.
type arbiterModel struct {
	lease  int
	leases []given
	times  []int
}

func (m *arbiterModel) wrong(node, now int) api.Errno {
	if node < 0 || node > 1 {
		return api.ErrRange
	}
	return wrongTime(now, m.times)
}

func (m *arbiterModel) ask(node, now int) (int, api.Errno) {
	if err := m.wrong(node, now); err != api.OK {
		return 0, err
	}
	for _, l := range m.leases {
		if l.node != node && l.until > now {
			return 0, api.ErrClash
		}
	}
	m.times = append(m.times, now)
	m.leases = append(m.leases, given{node, now + m.lease})
	return now + m.lease, api.OK
}

func (m *arbiterModel) free(node, now int) api.Errno {
	if err := m.wrong(node, now); err != api.OK {
		return err
	}
	m.times = append(m.times, now)
	for i, l := range m.leases {
		if l.node == node && l.until > now {
			m.leases[i].until = now
		}
	}
	return api.OK
}

// said is what was Heard, or Granted, and when.
type said struct{ what, at int }

// voterModel is a voter as the chapter's words have it: all that it was ever told.
type voterModel struct {
	node, prio, drift int
	heard, leases     []said
	times             []int
}

func (m *voterModel) hear(prio, now int) api.Errno {
	if err := wrongTime(now, m.times); err != api.OK {
		return err
	}
	if prio < 0 || prio > 255 {
		return api.ErrRange
	}
	m.times = append(m.times, now)
	m.heard = append(m.heard, said{prio, now})
	return api.OK
}

func (m *voterModel) grant(until, now int) api.Errno {
	if err := wrongTime(now, m.times); err != api.OK {
		return err
	}
	if until < 0 || until > 2_000_000 {
		return api.ErrRange
	}
	m.times = append(m.times, now)
	m.leases = append(m.leases, said{until, now})
	return api.OK
}

func (m *voterModel) role(now int) (int, api.Errno) {
	if err := wrongTime(now, m.times); err != api.OK {
		return 0, err
	}
	m.times = append(m.times, now)
	if n := len(m.leases); n > 0 && m.leases[n-1].what-now > m.drift+m.drift {
		return 2, api.OK
	}
	return 1, api.OK
}

func (m *voterModel) wants(now int) (bool, api.Errno) {
	role, err := m.role(now)
	if err != api.OK {
		return false, err
	}
	n := len(m.heard)
	if role == 2 || n == 0 || now-m.heard[n-1].at >= 30 {
		return true, api.OK
	}
	other := m.heard[n-1].what
	if m.node == 1 {
		return other < m.prio, api.OK
	}
	return other <= m.prio, api.OK
}

func (m *voterModel) demote(by int) api.Errno {
	if by < -255 || by > 255 {
		return api.ErrRange
	}
	for ; by > 0 && m.prio > 0; by-- {
		m.prio--
	}
	for ; by < 0 && m.prio < 255; by++ {
		m.prio++
	}
	return api.OK
}

// latest of the times, 0 if there was none.
func latest(times []int) int {
	if len(times) == 0 {
		return 0
	}
	return times[len(times)-1]
}

// randomTime goes on, mostly by little.
func randomTime(r *rand.Rand, last int) int {
	switch r.Intn(30) {
	case 0:
		return last - 1 - r.Intn(3)
	case 1:
		return api.MaxTime + 1
	case 2:
		return last + r.Intn(50)
	}
	return last + r.Intn(4)
}

// about is a number from low to high, or a little beside that.
func about(r *rand.Rand, low, high int) int {
	if r.Intn(15) == 0 {
		return []int{low - 1, high + 1}[r.Intn(2)]
	}
	return low + r.Intn(high-low+1)
}

// TestAgainstModel: long runs of random calls on an arbiter and on a voter; and each outcome was seen.
func TestAgainstModel(t *testing.T) {
	r := rand.New(rand.NewSource(18))
	seen := map[string]int{}
	for range 100 {
		lease, node, drift := 1+r.Intn(20), r.Intn(2), r.Intn(4)
		a, m := arbiter(t, lease), &arbiterModel{lease: lease}
		v, o := voter(t, node, 100, drift), &voterModel{node: node, prio: 100, drift: drift}
		for range 300 {
			got, want, name := bothArbiters(r, a, m)
			if got != want {
				t.Fatalf("%s: got %s, want %s", name, got, want)
			}
			seen[name]++
			got, want, name = bothVoters(r, v, o)
			if got != want || v.Prio() != o.prio {
				t.Fatalf("%s: got %s, Prio %d, want %s, Prio %d", name, got, v.Prio(), want, o.prio)
			}
			seen[name]++
		}
	}
	for _, name := range []string{
		"ask OK", "ask ErrRange", "ask ErrState", "ask ErrClash", "free OK", "free ErrRange", "free ErrState",
		"hear OK", "hear ErrRange", "hear ErrState", "grant OK", "grant ErrRange", "grant ErrState",
		"role 1 OK", "role 2 OK", "role 0 ErrRange", "role 0 ErrState",
		"wants true OK", "wants false OK", "wants false ErrRange", "wants false ErrState",
		"demote OK", "demote ErrRange",
	} {
		if seen[name] < 20 {
			t.Errorf("%s was seen %d times", name, seen[name])
		}
	}
}

// bothArbiters makes one random call on an arbiter and on its model: what each answers, and a name of the outcome.
func bothArbiters(r *rand.Rand, a *Arbiter, m *arbiterModel) (got, want, name string) {
	node, now := about(r, 0, 1), randomTime(r, latest(m.times))
	if r.Intn(4) == 0 {
		err := a.Free(node, now)
		wrong := m.free(node, now)
		return fmt.Sprint(plain.Told(err)), fmt.Sprint(wrong), fmt.Sprint("free ", wrong)
	}
	until, err := a.Ask(node, now)
	end, wrong := m.ask(node, now)
	return fmt.Sprint(until, plain.Told(err)), fmt.Sprint(end, wrong), fmt.Sprint("ask ", wrong)
}

// bothVoters makes one random call on a voter and on its model: what each answers, and a name of the outcome.
func bothVoters(r *rand.Rand, v *Voter, m *voterModel) (got, want, name string) {
	now := randomTime(r, latest(m.times))
	switch r.Intn(6) {
	case 0:
		prio := about(r, 0, 255)
		if r.Intn(3) == 0 {
			prio = m.prio
		}
		err := v.Hear(prio, now)
		wrong := m.hear(prio, now)
		return fmt.Sprint(plain.Told(err)), fmt.Sprint(wrong), fmt.Sprint("hear ", wrong)
	case 1:
		until := latest(m.times) + r.Intn(15)
		if r.Intn(3) == 0 {
			until = about(r, 0, 2*api.MaxTime)
		}
		err := v.Grant(until, now)
		wrong := m.grant(until, now)
		return fmt.Sprint(plain.Told(err)), fmt.Sprint(wrong), fmt.Sprint("grant ", wrong)
	case 2:
		by := about(r, -255, 255)
		if r.Intn(2) == 0 {
			by = m.prio - 100
		}
		err := v.Demote(by)
		wrong := m.demote(by)
		return fmt.Sprint(plain.Told(err)), fmt.Sprint(wrong), fmt.Sprint("demote ", wrong)
	case 3:
		role, err := v.Role(now)
		is, wrong := m.role(now)
		return fmt.Sprint(role, plain.Told(err)), fmt.Sprint(is, wrong), fmt.Sprint("role ", is, " ", wrong)
	}
	wants, err := v.Wants(now)
	does, wrong := m.wants(now)
	return fmt.Sprint(wants, plain.Told(err)), fmt.Sprint(does, wrong), fmt.Sprint("wants ", does, " ", wrong)
}
