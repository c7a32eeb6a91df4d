package sync

import (
	"portcullis/api"
	"portcullis/clock"
)

// Teller tells notes, till they were heard of.
type Teller struct {
	clock.Clock
	again int
	last  int            // the number of the last note
	left  map[int]untold // by number; the last ones, without a gap
}

// untold is a note that was not heard of.
type untold struct {
	note api.Note
	due  int // the time from which on it is to be told
}

// NewTeller makes one.
func NewTeller(again int) (*Teller, error) {
	if again < 1 || again > api.MaxTime {
		return nil, api.ErrRange
	}
	return &Teller{again: again, left: map[int]untold{}}, nil
}

// Tell a note.
func (t *Teller) Tell(n api.Note, now int) (int, error) {
	then := t.Clock // a copy, as a call with an error moves no time
	if err := then.Move(now); err != nil {
		return 0, err
	}
	n.Seq = t.last + 1
	if err := check(n); err != nil {
		return 0, err
	}
	if len(t.left) >= api.MaxList {
		return 0, api.ErrFull
	}
	t.Clock = then
	t.last = n.Seq
	t.left[n.Seq] = untold{note: n}
	return n.Seq, nil
}

// Heard tells up to where notes were.
func (t *Teller) Heard(seq int) error {
	if seq < 0 || seq > t.last {
		return api.ErrRange
	}
	for number := t.first(); number <= seq; number++ {
		delete(t.left, number)
	}
	return nil
}

// Due notes.
func (t *Teller) Due(now int) ([]api.Note, error) {
	if err := t.Move(now); err != nil {
		return nil, err
	}
	var due []api.Note
	for number := t.first(); number <= t.last; number++ {
		u := t.left[number]
		if u.due > now {
			continue
		}
		due = append(due, u.note)
		u.due = now + t.again
		t.left[number] = u
	}
	return due, nil
}

// Left to be heard of.
func (t *Teller) Left() int { return len(t.left) }

// first is the number of the first note that is left; if none is, the next one that there will be.
func (t *Teller) first() int { return t.last - len(t.left) + 1 }
