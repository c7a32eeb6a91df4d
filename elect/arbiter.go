package elect

import (
	"portcullis/api"
	"portcullis/clock"
)

// Arbiter gives a lease to one node at a time.
type Arbiter struct {
	clock.Clock
	lease int
	owner int // the node that had it last
	until int // when it is over; 0, as at first, is over at all times, so that nobody has it
}

// NewArbiter makes one.
func NewArbiter(lease int) (*Arbiter, error) {
	if lease < 1 || lease > api.MaxTime {
		return nil, api.ErrRange
	}
	return &Arbiter{lease: lease}, nil
}

// Ask for the lease.
func (a *Arbiter) Ask(node, now int) (until int, err error) {
	then, err := a.moved(node, now)
	if err != nil {
		return 0, err
	}
	if node != a.owner && a.until > now {
		return 0, api.ErrClash
	}
	a.Clock = then
	a.owner, a.until = node, now+a.lease
	return a.until, nil
}

// Free gives it back.
func (a *Arbiter) Free(node, now int) error {
	then, err := a.moved(node, now)
	if err != nil {
		return err
	}
	a.Clock = then
	if node == a.owner {
		a.until = now
	}
	return nil
}

// moved is what the clock would be when a node comes: a copy, as a call that is refused moves no time.
func (a *Arbiter) moved(node, now int) (clock.Clock, error) {
	then := a.Clock
	if !isNode(node) {
		return then, api.ErrRange
	}
	err := then.Move(now)
	return then, err
}
