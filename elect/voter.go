package elect

import (
	"portcullis/api"
	"portcullis/clock"
)

// Voter may become Master.
type Voter struct {
	clock.Clock
	node, prio, drift int
	until             int // when its lease is over, by the arbiter's clock
	other             int // the priority that it heard last
	counts            int // up to when that counts
}

// NewVoter makes one.
func NewVoter(node, prio, drift int) (*Voter, error) {
	if !isNode(node) || !isPrio(prio) || drift < 0 || drift > maxDrift {
		return nil, api.ErrRange
	}
	return &Voter{node: node, prio: prio, drift: drift}, nil
}

// Hear the other one's priority.
func (v *Voter) Hear(prio, now int) error {
	then := v.Clock // a copy, as a call with an error moves no time
	if err := then.Move(now); err != nil {
		return err
	}
	if !isPrio(prio) {
		return api.ErrRange
	}
	v.Clock = then
	v.other, v.counts = prio, now+memory
	return nil
}

// Grant of a lease.
func (v *Voter) Grant(until, now int) error {
	then := v.Clock // a copy, as in Hear
	if err := then.Move(now); err != nil {
		return err
	}
	if until < 0 || until > 2*api.MaxTime {
		return api.ErrRange
	}
	v.Clock = then
	v.until = until
	return nil
}

// Wants tells whether it should ask.
func (v *Voter) Wants(now int) (bool, error) {
	if err := v.Move(now); err != nil {
		return false, err
	}
	alone := now >= v.counts
	return v.leads(now) || alone || v.outranks(v.other), nil
}

// Role of it.
func (v *Voter) Role(now int) (int, error) {
	if err := v.Move(now); err != nil {
		return 0, err
	}
	if v.leads(now) {
		return api.Master, nil
	}
	return api.Standby, nil
}

// Demote it.
func (v *Voter) Demote(by int) error {
	if by < -maxPrio || by > maxPrio {
		return api.ErrRange
	}
	v.prio = min(max(v.prio-by, 0), maxPrio)
	return nil
}

// Prio of it.
func (v *Voter) Prio() int { return v.prio }

// leads tells whether it is Master: once drift for its own clock, and once more for the other one's, so that it has ended before the other one may begin.
func (v *Voter) leads(now int) bool { return v.until-now > 2*v.drift }

// outranks tells whether another one's priority is not ahead of its own; of like ones node 0's is ahead.
func (v *Voter) outranks(prio int) bool {
	return v.prio > prio || v.prio == prio && v.node == 0
}
