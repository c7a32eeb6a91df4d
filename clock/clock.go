// Package clock has times that do not go back.
package clock

import (
	"portcullis/api"
)

// Clock stands at the time of the last call that moved it; a new one at 0.
type Clock struct{ now int }

// Move sets the clock: ErrRange: now is no time; ErrState: the clock is beyond it. With an error it stands.
func (c *Clock) Move(now int) error {
	if now < 0 || now > api.MaxTime {
		return api.ErrRange
	}
	if now < c.now {
		return api.ErrState
	}
	c.now = now
	return nil
}
