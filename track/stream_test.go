package track

import (
	"fmt"
	"math/rand"
	"strings"
	"testing"

	"portcullis/api"
)

// T3

// said is a segment of a Stream with the ports of the sample, as a side has them.
func said(side, flags, seq, ack, win, body int) api.Segment {
	s := api.Segment{From: 5000, To: 80, Seq: seq, Ack: ack, Win: win, Flags: flags, Body: make([]byte, body)}
	if side == 1 {
		s.From, s.To = s.To, s.From
	}
	return s
}

// flow is a Stream of the sample's key, of Stamp 4 and until 200.
func flow(state int, high, win [2]int, done ...int) api.Flow {
	f := api.Flow{Key: sampleKey(api.Stream), State: state, Until: 200, Stamp: 4, High: high, Win: win, Number: 3}
	for _, side := range done {
		f.Done[side] = true
	}
	return f
}

// wantSaid wants what a side says at 150 to be accepted; then is the flow then, but for its Stamp and Until, which follow.
func wantSaid(t *testing.T, f api.Flow, s api.Segment, side int, then api.Flow) {
	t.Helper()
	then.Stamp, then.Until = 5, 150+map[int]int{api.Asked: 30, api.Both: 300, api.Half: 60, api.Ended: 10}[then.State]
	got, err := Step(f, s, side, 150)
	wantFlow(t, fmt.Sprintf("Step of %v, side %d, %v", f, side, s), got, err, then)
}

func wantUnsaid(t *testing.T, f api.Flow, s api.Segment, side int) {
	t.Helper()
	got, err := Step(f, s, side, 150)
	wantRefused(t, fmt.Sprintf("Step of %v, side %d, %v", f, side, s), got, err, api.ErrState)
}

// TestTalk: a Stream from its beginning to its end, with what it is at each step.
func TestTalk(t *testing.T) {
	f, err := Begin(sampleKey(api.Stream), said(0, api.Syn, api.MaxAddr, 0, 50, 0), 3, 10)
	want := api.Flow{Key: sampleKey(api.Stream), State: api.Asked, Until: 40, Stamp: 1, High: [2]int{0, 0}, Win: [2]int{50, 0}, Number: 3}
	wantFlow(t, "Begin", f, err, want)
	for i, c := range []struct {
		side, flags, seq, ack, win, body int
		state, until, high               int
	}{
		{0, api.Syn, api.MaxAddr, 0, 60, 0, api.Asked, 41, 0},
		{1, api.Syn | api.Ack, 700, 0, 70, 0, api.Both, 312, 701},
		{0, api.Ack, 0, 701, 80, 0, api.Both, 313, 0},
		{0, api.Ack, 0, 701, 80, 20, api.Both, 314, 20},
		{0, api.Ack, 0, 701, 80, 20, api.Both, 315, 20},
		{1, api.Ack, 701, 20, 70, 5, api.Both, 316, 706},
		{1, 0, 706, 0, 70, 5, api.Both, 317, 711},
		{0, api.Ack | api.Fin, 20, 711, 80, 10, api.Half, 78, 31},
		{1, api.Ack, 711, 31, 70, 9, api.Half, 79, 720},
		{0, api.Ack, 31, 720, 80, 0, api.Half, 80, 31},
		{1, api.Ack | api.Fin, 720, 31, 70, 0, api.Ended, 31, 721},
		{0, api.Ack, 31, 721, 80, 0, api.Ended, 32, 31},
		{0, api.Rst, 31, 0, 80, 0, api.Ended, 33, 31},
	} {
		s := said(c.side, c.flags, c.seq, c.ack, c.win, c.body)
		want.State, want.Until, want.High[c.side] = c.state, c.until, c.high
		want.Win[c.side] = c.win
		want.Done[c.side] = want.Done[c.side] || c.flags&api.Fin != 0
		want.Stamp++
		f, err = Step(f, s, c.side, 11+i)
		wantFlow(t, fmt.Sprint("step ", i), f, err, want)
	}
}

// TestReset: a Rst ends the flow if it stands just behind what its side has said, and changes nothing else of it.
func TestReset(t *testing.T) {
	for _, state := range []int{api.Asked, api.Both, api.Half, api.Ended} {
		for side := range 2 {
			if state == api.Asked && side == 1 {
				continue
			}
			f := flow(state, [2]int{1000, 2000}, [2]int{50, 60}, 1)
			then := f
			then.State = api.Ended
			for _, flags := range []int{0, api.Ack, api.Syn, api.Fin, api.Ack | api.Syn | api.Fin} {
				// Neither Ack nor the other flags, nor what it carries, are looked at.
				wantSaid(t, f, said(side, api.Rst|flags, f.High[side], 77777, 9, 3), side, then)
				for _, off := range []int{-1, 1, 1000, 1 << 31} {
					wantUnsaid(t, f, said(side, api.Rst|flags, f.High[side]+off, f.High[1-side], 9, 0), side)
				}
			}
		}
	}
}

// TestResetAnswer: a Rst of side 1 in Asked counts by its Ack, whatever its Seq is.
func TestResetAnswer(t *testing.T) {
	f := flow(api.Asked, [2]int{1000, 0}, [2]int{50, 0})
	then := f
	then.State = api.Ended
	for _, seq := range []int{0, 1, 1000, api.MaxAddr} {
		wantSaid(t, f, said(1, api.Rst|api.Ack, seq, 1000, 9, 3), 1, then)
		wantUnsaid(t, f, said(1, api.Rst|api.Ack, seq, 999, 9, 0), 1)
		wantUnsaid(t, f, said(1, api.Rst|api.Ack, seq, 1001, 9, 0), 1)
		wantUnsaid(t, f, said(1, api.Rst, seq, 1000, 9, 0), 1)
	}
	// Where both spoke it counts by its Seq.
	f.State = api.Both
	wantUnsaid(t, f, said(1, api.Rst|api.Ack, 1, 1000, 9, 0), 1)
}

// TestAskAgain: of side 0 in Asked just what it began with, whose Win then counts.
func TestAskAgain(t *testing.T) {
	f := flow(api.Asked, [2]int{1000, 0}, [2]int{50, 0})
	then := f
	for _, win := range []int{0, 51, api.MaxPort} {
		then.Win[0] = win
		wantSaid(t, f, said(0, api.Syn, 999, 0, win, 0), 0, then)
		wantSaid(t, f, said(0, api.Syn, 989, 5, win, 10), 0, then)
	}
	for flags := range 16 {
		if flags == api.Syn || flags&api.Rst != 0 {
			continue
		}
		for seq := 997; seq <= 1001; seq++ {
			wantUnsaid(t, f, said(0, flags, seq, 0, 50, 0), 0)
		}
	}
	for _, c := range [][2]int{{998, 0}, {1000, 0}, {999, 1}, {1001, 0}, {0, 0}} {
		wantUnsaid(t, f, said(0, api.Syn, c[0], 0, 50, c[1]), 0)
	}
	round := flow(api.Asked, [2]int{2, 0}, [2]int{50, 0})
	wantSaid(t, round, said(0, api.Syn, api.MaxAddr-1, 0, 50, 3), 0, round)
}

// TestAnswer: of side 1 in Asked just Syn and Ack, of what side 0 has said.
func TestAnswer(t *testing.T) {
	f := flow(api.Asked, [2]int{1000, 0}, [2]int{50, 0})
	for _, c := range []struct{ seq, body, high int }{
		{0, 0, 1},
		{5, 4, 10},
		{api.MaxAddr - 1, 0, api.MaxAddr},
		{api.MaxAddr, 0, 0},
		{api.MaxAddr - 1, 3, 2},
	} {
		then := f
		then.State, then.High[1], then.Win[1] = api.Both, c.high, 60
		wantSaid(t, f, said(1, api.Syn|api.Ack, c.seq, 1000, 60, c.body), 1, then)
	}
	for flags := range 16 {
		if flags == api.Syn|api.Ack || flags&api.Rst != 0 {
			continue
		}
		wantUnsaid(t, f, said(1, flags, 0, 1000, 60, 0), 1)
		wantUnsaid(t, f, said(1, flags, 999, 1000, 60, 0), 1)
	}
	for _, ack := range []int{0, 999, 1001, 1000 + 1<<31} {
		wantUnsaid(t, f, said(1, api.Syn|api.Ack, 0, ack, 60, 0), 1)
	}
}

// TestSynLater: once both spoke, no Syn.
func TestSynLater(t *testing.T) {
	for state := api.Both; state <= api.Ended; state++ {
		f := flow(state, [2]int{1000, 2000}, [2]int{50, 60})
		for side := range 2 {
			for _, flags := range []int{api.Syn, api.Syn | api.Ack, api.Syn | api.Fin, api.Syn | api.Ack | api.Fin} {
				for off := -2; off <= 1; off++ {
					wantUnsaid(t, f, said(side, flags, f.High[side]+off, f.High[1-side], 50, 0), side)
				}
			}
		}
	}
}

// TestSeqNear: Seq is off by at most the other side's Win, and by 1 where that is 0.
func TestSeqNear(t *testing.T) {
	for state := api.Both; state <= api.Ended; state++ {
		for side := range 2 {
			for _, high := range []int{0, 1, 70000, 1 << 31, api.MaxAddr} {
				for _, c := range [][2]int{{0, 1}, {1, 1}, {2, 2}, {300, 300}, {api.MaxPort, api.MaxPort}} {
					f := flow(state, [2]int{500, 500}, [2]int{7, 7})
					f.High[side], f.Win[1-side] = high, c[0]
					then := f
					then.Win[side] = 8
					wantSaid(t, f, said(side, 0, (high-c[1])&api.MaxAddr, 9999, 8, 0), side, then)
					wantUnsaid(t, f, said(side, 0, (high-c[1]-1)&api.MaxAddr, 9999, 8, 0), side)
					wantUnsaid(t, f, said(side, 0, (high+c[1]+1)&api.MaxAddr, 9999, 8, 0), side)
					then.High[side] = (high + c[1]) & api.MaxAddr
					wantSaid(t, f, said(side, 0, then.High[side], 9999, 8, 0), side, then)
				}
			}
		}
	}
}

// TestAckNear: Ack, where it has the flag, is off from the other side's High by at most this side's Win, as it was ahead of the segment.
func TestAckNear(t *testing.T) {
	for state := api.Both; state <= api.Ended; state++ {
		for side := range 2 {
			for _, high := range []int{0, 1, 70000, 1 << 31, api.MaxAddr} {
				for _, c := range [][2]int{{0, 1}, {1, 1}, {2, 2}, {300, 300}, {api.MaxPort, api.MaxPort}} {
					f := flow(state, [2]int{500, 500}, [2]int{9, 9})
					f.High[1-side], f.Win[side] = high, c[0]
					for _, win := range []int{0, 1000, api.MaxPort} {
						then := f
						then.Win[side] = win
						wantSaid(t, f, said(side, api.Ack, 500, (high-c[1])&api.MaxAddr, win, 0), side, then)
						wantSaid(t, f, said(side, api.Ack, 500, (high+c[1])&api.MaxAddr, win, 0), side, then)
						wantUnsaid(t, f, said(side, api.Ack, 500, (high-c[1]-1)&api.MaxAddr, win, 0), side)
						wantUnsaid(t, f, said(side, api.Ack, 500, (high+c[1]+1)&api.MaxAddr, win, 0), side)
						wantSaid(t, f, said(side, 0, 500, (high+c[1]+1)&api.MaxAddr, win, 0), side, then)
					}
				}
			}
		}
	}
}

// TestHigh: it goes on to the end of what is said, if that is ahead, and never back.
func TestHigh(t *testing.T) {
	for _, c := range []struct{ high, seq, body, flags, then int }{
		{1000, 1000, 0, 0, 1000},
		{1000, 1000, 1, 0, 1001},
		{1000, 990, 9, 0, 1000},
		{1000, 990, 10, 0, 1000},
		{1000, 990, 11, 0, 1001},
		{1000, 1010, 3983, 0, 4993},
		{1000, 990, 0, api.Fin, 1000},
		{1000, 999, 0, api.Fin, 1000},
		{1000, 1000, 0, api.Fin, 1001},
		{1000, 1000, 5, api.Fin, 1006},
		{api.MaxAddr, api.MaxAddr, 1, 0, 0},
		{api.MaxAddr, api.MaxAddr, 0, api.Fin, 0},
		{api.MaxAddr - 5, api.MaxAddr - 7, 30, 0, 22},
		{3, api.MaxAddr, 3, 0, 3},
		{3, api.MaxAddr, 5, 0, 4},
		{1<<31 - 1, 1<<31 - 1, 2, 0, 1<<31 + 1},
	} {
		for side := range 2 {
			f := flow(api.Both, [2]int{500, 500}, [2]int{40, 40})
			f.High[side] = c.high
			then := f
			then.High[side], then.Win[side] = c.then, 11
			if c.flags == api.Fin {
				then.Done[side], then.State = true, api.Half
			}
			wantSaid(t, f, said(side, c.flags, c.seq, 0, 11, c.body), side, then)
		}
	}
}

// TestDoneSide: a side that is Done says no more than it has said, but that again.
func TestDoneSide(t *testing.T) {
	for _, state := range []int{api.Half, api.Ended} {
		for side := range 2 {
			f := flow(state, [2]int{1000, 1000}, [2]int{40, 40}, side)
			then := f
			then.Win[side] = 41
			for _, c := range []struct{ seq, body, flags int }{
				{1000, 0, 0},
				{1000, 0, api.Ack},
				{999, 0, api.Fin},
				{999, 1, 0},
				{980, 19, api.Fin},
				{980, 3, api.Fin},
			} {
				wantSaid(t, f, said(side, c.flags, c.seq, 1000, 41, c.body), side, then)
			}
			for _, c := range []struct{ seq, body, flags int }{
				{1000, 1, 0},
				{1000, 0, api.Fin},
				{1001, 0, 0},
				{1040, 0, api.Ack},
				{999, 1, api.Fin},
				{980, 21, 0},
			} {
				wantUnsaid(t, f, said(side, c.flags, c.seq, 1000, 41, c.body), side)
				// The other side may.
				other := f
				other.Done = [2]bool{}
				other.Done[1-side] = true
				if _, err := Step(other, said(side, c.flags, c.seq, 1000, 41, c.body), side, 150); err != nil {
					t.Errorf("side %d, %v: %v", side, c, err)
				}
			}
			round := flow(state, [2]int{0, 0}, [2]int{40, 40}, side)
			wantUnsaid(t, round, said(side, 0, api.MaxAddr, 0, 41, 2), side)
			then = round
			then.Win[side] = 41
			wantSaid(t, round, said(side, 0, api.MaxAddr, 0, 41, 1), side, then)
		}
	}
}

// TestStates: which state comes of which sides are Done; what is Ended stays so, and what nobody is Done of stays what it was.
func TestStates(t *testing.T) {
	for state := api.Both; state <= api.Ended; state++ {
		for done := range 4 {
			for side := range 2 {
				for _, flags := range []int{0, api.Fin} {
					f := flow(state, [2]int{1000, 1000}, [2]int{40, 40})
					f.Done = [2]bool{done&1 != 0, done&2 != 0}
					then := f
					then.Done[side] = then.Done[side] || flags == api.Fin
					many := 0
					for _, d := range then.Done {
						if d {
							many++
						}
					}
					then.State = max(state, []int{state, api.Half, api.Ended}[many])
					wantSaid(t, f, said(side, flags, 990, 0, 40, 0), side, then)
				}
			}
		}
	}
}

// slow is what the chapter says of a Stream, as long as it says it: the flow then, and why it is refused or accepted.
func slow(f api.Flow, s api.Segment, side, now int) (api.Flow, string) {
	const round = 1 << 32
	fin, syn, rst, ack := s.Flags%2 == 1, s.Flags/2%2 == 1, s.Flags/4%2 == 1, s.Flags/8%2 == 1
	end := s.Seq + len(s.Body)
	for _, one := range []bool{fin, syn} {
		if one {
			end++
		}
	}
	end %= round
	// gap is how far a is ahead of b, below 0 if it is behind it.
	gap := func(a, b int) int {
		g := (a - b + round) % round
		if g >= round/2 {
			g -= round
		}
		return g
	}
	near := func(a, b, most int) bool {
		if most == 0 {
			most = 1
		}
		g := gap(a, b)
		return -most <= g && g <= most
	}
	why := ""
	switch other := 1 - side; {
	case rst && f.State == api.Asked && side == 1:
		if !ack || s.Ack != f.High[0] {
			return api.Flow{}, "no: reset of no answer"
		}
		f.State, why = api.Ended, "reset by ack"
	case rst:
		if s.Seq != f.High[side] {
			return api.Flow{}, "no: reset elsewhere"
		}
		f.State, why = api.Ended, "reset by seq"
	case f.State == api.Asked && side == 0:
		if !syn || ack || fin || end != f.High[0] {
			return api.Flow{}, "no: not the first again"
		}
		f.Win[0], why = s.Win, "again"
	case f.State == api.Asked:
		if !syn || !ack || fin || s.Ack != f.High[0] {
			return api.Flow{}, "no: no answer"
		}
		f.State, f.High[1], f.Win[1], why = api.Both, end, s.Win, "answer"
	case syn:
		return api.Flow{}, "no: syn"
	case !near(s.Seq, f.High[side], f.Win[other]):
		return api.Flow{}, "no: seq"
	case ack && !near(s.Ack, f.High[other], f.Win[side]):
		return api.Flow{}, "no: ack"
	case f.Done[side] && gap(end, f.High[side]) > 0:
		return api.Flow{}, "no: done"
	default:
		if gap(end, f.High[side]) > 0 {
			f.High[side] = end
		}
		f.Win[side] = s.Win
		if fin {
			f.Done[side] = true
		}
		before := f.State
		if f.Done[0] != f.Done[1] && before != api.Ended {
			f.State = api.Half
		} else if f.Done[0] && f.Done[1] {
			f.State = api.Ended
		}
		why = fmt.Sprintf("%d to %d", before, f.State)
	}
	f.Stamp++
	f.Until = now + map[int]int{api.Asked: 30, api.Both: 300, api.Half: 60, api.Ended: 10}[f.State]
	return f, why
}

// roll is a Stream and a segment of one of its sides that is often, but not always, one that it may say.
func roll(r *rand.Rand) (f api.Flow, s api.Segment, side int) {
	some := func() int { // numbers close to where they go round, and halfway
		return (r.Intn(3)<<31 + r.Intn(9) - 4) & api.MaxAddr
	}
	small := func() int { return r.Intn(4) * r.Intn(3) }
	side = r.Intn(2)
	f = flow(api.Asked+r.Intn(4), [2]int{some(), some()}, [2]int{small(), small()})
	f.Done = [2]bool{r.Intn(3) == 0, r.Intn(3) == 0}
	off := func() int { return r.Intn(9) - 4 }
	if r.Intn(2) == 0 {
		off = func() int { return 0 }
	}
	body := small()
	seq := f.High[side] + off()
	if r.Intn(2) == 0 {
		seq -= body + 1
	}
	s = said(side, r.Intn(16), seq&api.MaxAddr, (f.High[1-side]+off())&api.MaxAddr, small(), body)
	return f, s, side
}

// TestSlow: the same as the slow one, in what comes by chance; and each of its ways is gone often enough.
func TestSlow(t *testing.T) {
	r := rand.New(rand.NewSource(11))
	seen := map[string]int{}
	for range 200_000 {
		f, s, side := roll(r)
		now := 100 + r.Intn(100)
		want, why := slow(f, s, side, now)
		seen[why]++
		got, err := Step(f, s, side, now)
		if strings.HasPrefix(why, "no: ") {
			wantRefused(t, why, got, err, api.ErrState)
		} else {
			wantFlow(t, why, got, err, want)
		}
		if t.Failed() {
			t.Fatalf("at %v, side %d, %v", f, side, s)
		}
	}
	for _, why := range []string{
		"reset by ack", "reset by seq", "again", "answer", "2 to 2", "2 to 3", "2 to 4", "3 to 3", "3 to 4", "4 to 4",
		"no: reset of no answer", "no: reset elsewhere", "no: not the first again", "no: no answer", "no: syn", "no: seq", "no: ack", "no: done",
	} {
		if seen[why] < 100 {
			t.Errorf("%s: seen only %d times", why, seen[why])
		}
	}
}
