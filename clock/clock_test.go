package clock

import (
	"math"
	"testing"

	"portcullis/api"
	"portcullis/plain"
)

// TestMove: the clock goes on or stands, and what is refused does not move it.
func TestMove(t *testing.T) {
	var c Clock
	for i, step := range []struct {
		now  int
		want api.Errno
	}{
		{math.MinInt, api.ErrRange},
		{-1, api.ErrRange},
		{0, api.OK},
		{0, api.OK},
		{7, api.OK},
		{6, api.ErrState},
		{-1, api.ErrRange},
		{api.MaxTime + 1, api.ErrRange},
		{math.MaxInt, api.ErrRange},
		{7, api.OK},
		{8, api.OK},
		{7, api.ErrState},
		{api.MaxTime, api.OK},
		{api.MaxTime, api.OK},
		{api.MaxTime - 1, api.ErrState},
		{0, api.ErrState},
	} {
		if err := c.Move(step.now); plain.Told(err) != step.want {
			t.Errorf("move %d, to %d: got %v, want %v", i, step.now, err, step.want)
		}
	}
}
