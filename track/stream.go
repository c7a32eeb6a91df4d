package track

import (
	"portcullis/api"
	"portcullis/seg"
)

// minWin is how far a number may be off even where a Win is 0.
const minWin = 1

// stream is a Stream behind what a side says, and whether that is accepted.
func stream(f api.Flow, s api.Segment, side int) (api.Flow, bool) {
	switch {
	case has(s, api.Rst):
		return reset(f, s, side)
	case f.State != api.Asked:
		return goOn(f, s, side)
	case side == 0:
		return askAgain(f, s)
	}
	return answer(f, s)
}

// reset is what a Rst does.
func reset(f api.Flow, s api.Segment, side int) (api.Flow, bool) {
	accepted := s.Seq == f.High[side]
	if f.State == api.Asked && side == 1 {
		// Side 1 has said nothing yet, so it has no High: that it heard side 0 is what tells it from a stranger.
		accepted = has(s, api.Ack) && s.Ack == f.High[0]
	}
	f.State = api.Ended
	return f, accepted
}

// askAgain is what the first segment does when it comes once more.
func askAgain(f api.Flow, s api.Segment) (api.Flow, bool) {
	accepted := s.Flags == api.Syn && end(s) == f.High[0]
	f.Win[0] = s.Win
	return f, accepted
}

// answer is what the first segment of side 1 does.
func answer(f api.Flow, s api.Segment) (api.Flow, bool) {
	accepted := s.Flags == api.Syn|api.Ack && s.Ack == f.High[0]
	f.State = api.Both
	f.High[1], f.Win[1] = end(s), s.Win
	return f, accepted
}

// goOn is what all others do, once both sides spoke.
func goOn(f api.Flow, s api.Segment, side int) (api.Flow, bool) {
	accepted := mayGoOn(f, s, side)
	if ahead(end(s), f.High[side]) {
		f.High[side] = end(s)
	}
	f.Win[side] = s.Win
	f.Done[side] = f.Done[side] || has(s, api.Fin)
	switch {
	case f.Done[0] && f.Done[1]:
		f.State = api.Ended
	case (f.Done[0] || f.Done[1]) && f.State != api.Ended:
		f.State = api.Half
	}
	return f, accepted
}

// mayGoOn tells whether a segment stands where its side is, and says nothing behind what ended that side.
func mayGoOn(f api.Flow, s api.Segment, side int) bool {
	other := 1 - side
	if has(s, api.Syn) || !seg.Near(s.Seq, f.High[side], max(f.Win[other], minWin)) {
		return false
	}
	if has(s, api.Ack) && !seg.Near(s.Ack, f.High[other], max(f.Win[side], minWin)) {
		return false
	}
	return !f.Done[side] || !ahead(end(s), f.High[side])
}

// end is the number behind all that a segment says.
func end(s api.Segment) int {
	n := s.Seq + len(s.Body)
	if has(s, api.Syn) {
		n++
	}
	if has(s, api.Fin) {
		n++
	}
	return n & api.MaxAddr
}

// ahead tells whether a is ahead of b, as numbers that go round at 2^32: by less than half of the round.
func ahead(a, b int) bool {
	return int32(a-b) > 0
}

func has(s api.Segment, flag int) bool {
	return s.Flags&flag != 0
}
