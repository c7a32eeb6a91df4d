package track

import (
	"bytes"
	"math"
	"slices"
	"testing"

	"portcullis/api"
	"portcullis/plain"
)

const (
	here  = 10<<24 | 1
	there = 192<<24 | 168<<16 | 7
	begun = 100 // when sample flows began
)

func kinds() []int {
	return []int{api.Stream, api.Single, api.Echo}
}

// sampleKey is an ordinary key of a kind.
func sampleKey(kind int) api.Key {
	if kind == api.Echo {
		return api.Key{Kind: kind, Src: here, From: 4660, Dst: there, To: 4660}
	}
	return api.Key{Kind: kind, Src: here, From: 5000, Dst: there, To: 80}
}

// sampleFirst is what such a key's Src says first.
func sampleFirst(kind int) api.Segment {
	switch kind {
	case api.Stream:
		return api.Segment{From: 5000, To: 80, Seq: 1000, Win: 500, Flags: api.Syn, Body: []byte{1, 2, 3}}
	case api.Single:
		return api.Segment{From: 5000, To: 80, Body: []byte{1, 2, 3}}
	}
	return api.Segment{To: 4660, Seq: 9, Body: []byte{1, 2, 3}}
}

// sampleFlow is the flow that comes of these two at the time begun, by rule 3.
func sampleFlow(kind int) api.Flow {
	f := api.Flow{Key: sampleKey(kind), State: api.Asked, Until: begun + 30, Stamp: 1, Number: 3}
	switch kind {
	case api.Stream:
		f.High, f.Win = [2]int{1004, 0}, [2]int{500, 0}
	case api.Echo:
		f.Until = begun + 10
	}
	return f
}

// sampleSaid is what a side of such a flow may say.
func sampleSaid(kind, side int) api.Segment {
	s := sampleFirst(kind)
	if side == 0 {
		return s
	}
	switch kind {
	case api.Stream:
		return api.Segment{From: 80, To: 5000, Seq: 7000, Ack: 1004, Win: 600, Flags: api.Syn | api.Ack}
	case api.Single:
		s.From, s.To = s.To, s.From
	case api.Echo:
		s.From = 1
	}
	return s
}

// wantFlow wants a flow, and no error; and that it is one that Check takes.
func wantFlow(t *testing.T, what string, got api.Flow, err error, want api.Flow) {
	t.Helper()
	if got != want || err != nil {
		t.Errorf("%s: got %v, %v, want %v", what, got, err, want)
	}
	if err := Check(want); err != nil {
		t.Errorf("%s: Check of %v: %v", what, want, err)
	}
}

// wantRefused wants an error, and nothing else with it.
func wantRefused(t *testing.T, what string, got api.Flow, err error, want api.Errno) {
	t.Helper()
	if got != (api.Flow{}) || plain.Told(err) != want {
		t.Errorf("%s: got %v, %v, want %v", what, got, err, want)
	}
}

// outside are numbers that are not from low to high.
func outside(low, high int) []int {
	return []int{low - 1, high + 1, math.MinInt, math.MaxInt, low - 1<<32, high + 1<<32}
}

// T1: Life

// TestLife: of each kind in each state, and of what is none.
func TestLife(t *testing.T) {
	want := map[[2]int]int{
		{1, 1}: 30, {1, 2}: 300, {1, 3}: 60, {1, 4}: 10,
		{2, 1}: 30, {2, 2}: 60,
		{3, 1}: 10, {3, 2}: 20,
	}
	numbers := append(outside(-3, 9), -2, -1, 0, 1, 2, 3, 4, 5, 6, 7, 1<<32+1, 1<<32+2, -1<<63+1)
	for _, kind := range numbers {
		for _, state := range numbers {
			if got := Life(kind, state); got != want[[2]int{kind, state}] {
				t.Errorf("Life(%d, %d): got %d, want %d", kind, state, got, want[[2]int{kind, state}])
			}
		}
	}
}

// T1: Begin

// TestBegin: the flow of each kind.
func TestBegin(t *testing.T) {
	for _, kind := range kinds() {
		got, err := Begin(sampleKey(kind), sampleFirst(kind), 3, begun)
		wantFlow(t, "Begin", got, err, sampleFlow(kind))
	}
}

// TestBeginEdges: the least and the greatest of rule and of now, also where Until is beyond MaxTime.
func TestBeginEdges(t *testing.T) {
	for _, kind := range kinds() {
		for _, rule := range []int{-1, 0, 1, api.MaxList} {
			for _, now := range []int{0, 1, api.MaxTime - 1, api.MaxTime} {
				want := sampleFlow(kind)
				want.Number, want.Until = rule, want.Until-begun+now
				got, err := Begin(sampleKey(kind), sampleFirst(kind), rule, now)
				wantFlow(t, "Begin", got, err, want)
			}
		}
	}
}

// TestBeginPorts: ports and addresses at their ends, and one address on both sides.
func TestBeginPorts(t *testing.T) {
	for _, kind := range kinds() {
		for _, port := range []int{0, api.MaxPort} {
			for _, a := range []int{0, api.MaxAddr} {
				k := api.Key{Kind: kind, Src: a, From: port, Dst: a, To: port}
				s := sampleFirst(kind)
				s.To = port
				if kind != api.Echo {
					s.From = port
				}
				want := sampleFlow(kind)
				want.Key = k
				got, err := Begin(k, s, 3, begun)
				wantFlow(t, "Begin", got, err, want)
			}
		}
	}
}

// TestBeginHigh: behind Syn and Body, also where the numbers go round; Ack is not looked at without its flag.
func TestBeginHigh(t *testing.T) {
	for _, c := range []struct{ seq, body, win, ack, high int }{
		{0, 0, 0, 0, 1},
		{0, 1, 1, 0, 2},
		{5, 7, 65535, api.MaxAddr, 13},
		{api.MaxAddr - 1, 0, 3, 1, api.MaxAddr},
		{api.MaxAddr, 0, 3, 0, 0},
		{api.MaxAddr - 1, 1, 3, 0, 0},
		{api.MaxAddr, 1, 3, 0, 1},
		{api.MaxAddr, api.MaxBody - 17, 3, 0, api.MaxBody - 17},
		{1<<31 - 1, 0, 3, 0, 1 << 31},
	} {
		s := sampleFirst(api.Stream)
		s.Seq, s.Body, s.Win, s.Ack = c.seq, make([]byte, c.body), c.win, c.ack
		want := sampleFlow(api.Stream)
		want.High[0], want.Win[0] = c.high, c.win
		got, err := Begin(sampleKey(api.Stream), s, 3, begun)
		wantFlow(t, "Begin", got, err, want)
	}
}

// TestBeginRange: a kind, a rule, a time that is none, whatever else is wrong.
func TestBeginRange(t *testing.T) {
	for _, kind := range append(outside(1, 3), 4, 15, -3) {
		for _, like := range kinds() {
			k := sampleKey(like)
			k.Kind = kind
			got, err := Begin(k, sampleFirst(like), 3, begun)
			wantRefused(t, "Begin of no kind", got, err, api.ErrRange)
		}
	}
	for _, kind := range kinds() {
		for what, s := range worse(kind) {
			for _, rule := range outside(-1, api.MaxList) {
				got, err := Begin(sampleKey(kind), s, rule, begun)
				wantRefused(t, "Begin by no rule, "+what, got, err, api.ErrRange)
			}
			for _, now := range outside(0, api.MaxTime) {
				got, err := Begin(sampleKey(kind), s, 3, now)
				wantRefused(t, "Begin at no time, "+what, got, err, api.ErrRange)
			}
		}
	}
}

// worse are what a key's Src says first, and the like with faults that are told behind those of other arguments.
func worse(kind int) map[string]api.Segment {
	m := map[string]api.Segment{"good": sampleFirst(kind)}
	s := sampleFirst(kind)
	s.Body = make([]byte, api.MaxBody)
	m["full"] = s
	s = sampleFirst(kind)
	s.To++
	m["of another port"] = s
	if kind == api.Stream {
		s = sampleFirst(kind)
		s.Flags |= api.Fin
		m["with Fin"] = s
	} else {
		s = sampleFirst(kind)
		s.Win = 1
		m["with Win"] = s
	}
	return m
}

// wrongSegments are segments that Encode refuses, and how; their ports are wrong too where that is told behind it.
func wrongSegments(kind int) map[api.Errno][]api.Segment {
	m := map[api.Errno][]api.Segment{}
	add := func(how api.Errno, spoil func(*api.Segment)) {
		s := sampleFirst(kind)
		spoil(&s)
		m[how] = append(m[how], s)
	}
	for _, n := range outside(0, api.MaxPort) {
		add(api.ErrRange, func(s *api.Segment) { s.From = n })
		add(api.ErrRange, func(s *api.Segment) { s.To = n })
		add(api.ErrRange, func(s *api.Segment) { s.Win, s.From = n, 1-s.From&1 })
	}
	for _, n := range outside(0, api.MaxAddr) {
		add(api.ErrRange, func(s *api.Segment) { s.Seq, s.To = n, 1 })
		add(api.ErrRange, func(s *api.Segment) { s.Ack, s.To = n, 1 })
	}
	for _, n := range outside(0, 15) {
		add(api.ErrRange, func(s *api.Segment) { s.Flags, s.To = n, 1 })
	}
	add(api.ErrFull, func(s *api.Segment) { s.To, s.Body = 1, make([]byte, api.MaxBody) })
	if kind == api.Stream {
		add(api.ErrFull, func(s *api.Segment) { s.Body = make([]byte, api.MaxBody-16) })
		add(api.ErrFull, func(s *api.Segment) { s.Flags, s.Body = api.Rst, make([]byte, api.MaxBody-16) })
		return m
	}
	add(api.ErrShape, func(s *api.Segment) { s.Ack = 1 })
	add(api.ErrShape, func(s *api.Segment) { s.Win, s.Body = 1, make([]byte, api.MaxBody) })
	add(api.ErrShape, func(s *api.Segment) { s.Flags = api.Syn })
	if kind == api.Single {
		add(api.ErrShape, func(s *api.Segment) { s.Seq = 1 })
		add(api.ErrFull, func(s *api.Segment) { s.Body = make([]byte, api.MaxBody-5) })
		return m
	}
	add(api.ErrRange, func(s *api.Segment) { s.From = 2 })
	add(api.ErrRange, func(s *api.Segment) { s.Seq = api.MaxPort + 1 })
	add(api.ErrFull, func(s *api.Segment) { s.Body = make([]byte, api.MaxBody-7) })
	return m
}

// TestBeginSegment: what Encode tells, ahead of what is told of ports and flags.
func TestBeginSegment(t *testing.T) {
	for _, kind := range kinds() {
		for how, l := range wrongSegments(kind) {
			for _, s := range l {
				got, err := Begin(sampleKey(kind), s, 3, begun)
				wantRefused(t, "Begin with a wrong segment", got, err, how)
			}
		}
		for _, a := range outside(0, api.MaxAddr) {
			k := sampleKey(kind)
			k.Src = a
			got, err := Begin(k, sampleFirst(kind), 3, begun)
			wantRefused(t, "Begin from no address", got, err, api.ErrRange)
			k = sampleKey(kind)
			k.Dst, k.To = a, 1
			got, err = Begin(k, sampleFirst(kind), 3, begun)
			wantRefused(t, "Begin to no address", got, err, api.ErrRange)
		}
	}
}

// TestBeginShape: ports that are not the key's, ahead of flags that may not be.
func TestBeginShape(t *testing.T) {
	for _, kind := range []int{api.Stream, api.Single} {
		for _, k := range []api.Key{
			{Kind: kind, Src: here, From: 5001, Dst: there, To: 80},
			{Kind: kind, Src: here, From: 5000, Dst: there, To: 81},
			{Kind: kind, Src: here, From: 80, Dst: there, To: 5000},
			{Kind: kind, Src: here, From: 5000 + 1<<16, Dst: there, To: 80},
			{Kind: kind, Src: here, From: 5000, Dst: there, To: math.MinInt},
		} {
			got, err := Begin(k, sampleFirst(kind), 3, begun)
			wantRefused(t, "Begin of other ports", got, err, api.ErrShape)
			if kind == api.Stream {
				s := sampleFirst(kind)
				s.Flags = api.Ack
				got, err := Begin(k, s, 3, begun)
				wantRefused(t, "Begin of other ports and flags", got, err, api.ErrShape)
			}
		}
	}
	for _, c := range []struct{ keyFrom, keyTo, from, to int }{
		{4660, 4660, 1, 4660}, // it answers
		{4660, 4660, 0, 4661},
		{4661, 4660, 0, 4660},
		{4660, 4661, 0, 4660},
		{0, 4660, 0, 4660}, // its From is no port
		{4660, 4660 + 1<<16, 0, 4660},
	} {
		k := api.Key{Kind: api.Echo, Src: here, From: c.keyFrom, Dst: there, To: c.keyTo}
		got, err := Begin(k, api.Segment{From: c.from, To: c.to}, 3, begun)
		wantRefused(t, "Begin of another Echo", got, err, api.ErrShape)
	}
}

// TestBeginState: of all flags a Stream begins with Syn alone.
func TestBeginState(t *testing.T) {
	for flags := range 16 {
		s := sampleFirst(api.Stream)
		s.Flags = flags
		got, err := Begin(sampleKey(api.Stream), s, 3, begun)
		if flags == api.Syn {
			wantFlow(t, "Begin", got, err, sampleFlow(api.Stream))
		} else {
			wantRefused(t, "Begin with other flags", got, err, api.ErrState)
		}
	}
}

// T2

// TestStep: each kind and side; of a Single and an Echo side 1 makes it Both, and it stays so.
func TestStep(t *testing.T) {
	for _, c := range []struct{ kind, state, side, then, life int }{
		{api.Single, api.Asked, 0, api.Asked, 30},
		{api.Single, api.Asked, 1, api.Both, 60},
		{api.Single, api.Both, 0, api.Both, 60},
		{api.Single, api.Both, 1, api.Both, 60},
		{api.Echo, api.Asked, 0, api.Asked, 10},
		{api.Echo, api.Asked, 1, api.Both, 20},
		{api.Echo, api.Both, 0, api.Both, 20},
		{api.Echo, api.Both, 1, api.Both, 20},
	} {
		f := sampleFlow(c.kind)
		f.State, f.Stamp = c.state, 7
		want := f
		want.State, want.Stamp, want.Until = c.then, 8, begun+5+c.life
		got, err := Step(f, sampleSaid(c.kind, c.side), c.side, begun+5)
		wantFlow(t, "Step", got, err, want)
	}
}

// TestStepEchoSeq: an Echo's Seq and Body are what they like.
func TestStepEchoSeq(t *testing.T) {
	for _, seq := range []int{0, api.MaxPort} {
		s := api.Segment{From: 1, To: 4660, Seq: seq, Body: make([]byte, api.MaxBody-8)}
		want := sampleFlow(api.Echo)
		want.State, want.Stamp, want.Until = api.Both, 2, begun+20
		got, err := Step(sampleFlow(api.Echo), s, 1, begun)
		wantFlow(t, "Step", got, err, want)
	}
}

// TestStepSide: a side that is none, whatever else is wrong.
func TestStepSide(t *testing.T) {
	for _, kind := range kinds() {
		bad := sampleFlow(kind)
		bad.Key.Kind, bad.Done[1] = api.Single, true
		for _, side := range outside(0, 1) {
			got, err := Step(sampleFlow(kind), sampleSaid(kind, 0), side, begun)
			wantRefused(t, "Step of no side", got, err, api.ErrRange)
			got, err = Step(bad, sampleSaid(kind, 1), side, begun)
			wantRefused(t, "Step of no side and a bad flow", got, err, api.ErrRange)
		}
	}
}

// TestStepChecks: Check's errors are told ahead of those of now and of the segment.
func TestStepChecks(t *testing.T) {
	full := sampleFirst(api.Single)
	full.Body = make([]byte, api.MaxBody)
	for side := range 2 {
		low := sampleFlow(api.Single)
		low.Stamp = 0
		got, err := Step(low, full, side, begun)
		wantRefused(t, "Step of a bad flow", got, err, api.ErrRange)
		odd := sampleFlow(api.Single)
		odd.High[1] = 1
		got, err = Step(odd, full, side, begun)
		wantRefused(t, "Step of an odd flow", got, err, api.ErrShape)
		got, err = Step(odd, sampleSaid(api.Single, side), side, -1)
		wantRefused(t, "Step of an odd flow at no time", got, err, api.ErrShape)
		echo := sampleFlow(api.Echo)
		echo.Key.From = 1
		got, err = Step(echo, api.Segment{From: 2}, side, api.MaxTime+1)
		wantRefused(t, "Step of an odd Echo", got, err, api.ErrShape)
	}
}

// TestStepNow: a time that is none, whatever is wrong with the segment.
func TestStepNow(t *testing.T) {
	for _, kind := range kinds() {
		for _, now := range outside(0, api.MaxTime) {
			for what, s := range worse(kind) {
				got, err := Step(sampleFlow(kind), s, 0, now)
				wantRefused(t, "Step at no time, "+what, got, err, api.ErrRange)
			}
		}
	}
}

// TestStepSegment: what Encode tells, of each side, ahead of what is told of ports and of the flow's end.
func TestStepSegment(t *testing.T) {
	for _, kind := range kinds() {
		for how, l := range wrongSegments(kind) {
			for _, s := range l {
				for side := range 2 {
					for _, now := range []int{begun, api.MaxTime} {
						got, err := Step(sampleFlow(kind), s, side, now)
						wantRefused(t, "Step with a wrong segment", got, err, how)
					}
				}
			}
		}
	}
}

// TestStepShape: ports that are not the flow's, as the side has them, ahead of the flow's end.
func TestStepShape(t *testing.T) {
	for _, kind := range kinds() {
		for side := range 2 {
			var l []api.Segment
			from, to := sampleSaid(kind, side), sampleSaid(kind, side)
			from.From ^= 1
			to.To ^= 1
			l = append(l, from, to, sampleSaid(kind, 1-side))
			for _, s := range l {
				for _, now := range []int{begun, api.MaxTime} {
					got, err := Step(sampleFlow(kind), s, side, now)
					wantRefused(t, "Step of other ports", got, err, api.ErrShape)
				}
				last := sampleFlow(kind)
				last.Stamp = api.MaxTime
				got, err := Step(last, s, side, begun)
				wantRefused(t, "Step of other ports and too many changes", got, err, api.ErrShape)
			}
		}
	}
}

// TestStepEnd: up to Until, and up to MaxTime changes.
func TestStepEnd(t *testing.T) {
	for _, kind := range kinds() {
		for side := range 2 {
			f, s := sampleFlow(kind), sampleSaid(kind, side)
			for _, now := range []int{0, f.Until - 1} {
				got, err := Step(f, s, side, now)
				if err != nil || got.Stamp != 2 || got.Until != now+Life(kind, got.State) {
					t.Errorf("Step at %d: got %v, %v", now, got, err)
				}
			}
			for _, now := range []int{f.Until, f.Until + 1, api.MaxTime} {
				got, err := Step(f, s, side, now)
				wantRefused(t, "Step too late", got, err, api.ErrState)
			}
			f.Stamp = api.MaxTime - 1
			got, err := Step(f, s, side, begun)
			if err != nil || got.Stamp != api.MaxTime {
				t.Errorf("Step to the last change: got %v, %v", got, err)
			}
			f.Stamp = api.MaxTime
			got, err = Step(f, s, side, begun)
			wantRefused(t, "Step behind the last change", got, err, api.ErrState)
			f = sampleFlow(kind)
			f.Until = 0
			got, err = Step(f, s, side, 0)
			wantRefused(t, "Step of what is over at 0", got, err, api.ErrState)
			f.Until = 2 * api.MaxTime
			got, err = Step(f, s, side, api.MaxTime)
			if err != nil || got.Until != api.MaxTime+Life(kind, got.State) || Check(got) != nil {
				t.Errorf("Step at the last time: got %v, %v", got, err)
			}
		}
	}
}

// TestKept: what is handed in is not written into.
func TestKept(t *testing.T) {
	for _, kind := range kinds() {
		memory := slices.Repeat([]byte{7}, 20)
		s := sampleFirst(kind)
		s.Body = memory[5:10]
		if _, err := Begin(sampleKey(kind), s, 3, begun); err != nil {
			t.Error(err)
		}
		f := sampleFlow(kind)
		if kind == api.Stream {
			f.High[0] += 2
		}
		if _, err := Step(f, s, 0, begun); err != nil {
			t.Error(err)
		}
		if !bytes.Equal(memory, slices.Repeat([]byte{7}, 20)) {
			t.Errorf("kind %d: a body was written into: %v", kind, memory)
		}
	}
}

// T4

// bound is a number of a flow, and from where to where it may be.
type bound struct {
	name      string
	of        func(*api.Flow) *int
	low, high int
}

func bounds() []bound {
	return []bound{
		{"Src", func(f *api.Flow) *int { return &f.Key.Src }, 0, 1<<32 - 1},
		{"From", func(f *api.Flow) *int { return &f.Key.From }, 0, 65535},
		{"Dst", func(f *api.Flow) *int { return &f.Key.Dst }, 0, 1<<32 - 1},
		{"To", func(f *api.Flow) *int { return &f.Key.To }, 0, 65535},
		{"Until", func(f *api.Flow) *int { return &f.Until }, 0, 2_000_000},
		{"Stamp", func(f *api.Flow) *int { return &f.Stamp }, 1, 1_000_000},
		{"Number", func(f *api.Flow) *int { return &f.Number }, -1, 200},
		{"High of 0", func(f *api.Flow) *int { return &f.High[0] }, 0, 1<<32 - 1},
		{"High of 1", func(f *api.Flow) *int { return &f.High[1] }, 0, 1<<32 - 1},
		{"Win of 0", func(f *api.Flow) *int { return &f.Win[0] }, 0, 65535},
		{"Win of 1", func(f *api.Flow) *int { return &f.Win[1] }, 0, 65535},
	}
}

func wantCheck(t *testing.T, what string, f api.Flow, want api.Errno) {
	t.Helper()
	if err := Check(f); plain.Told(err) != want {
		t.Errorf("Check of %s, %v: got %v, want %v", what, f, err, want)
	}
}

// TestCheckBounds: each number at its ends, and beyond them, of a Stream, which has all of them.
func TestCheckBounds(t *testing.T) {
	for _, b := range bounds() {
		for _, n := range []int{b.low, b.low + 1, b.high - 1, b.high} {
			f := sampleFlow(api.Stream)
			*b.of(&f) = n
			wantCheck(t, b.name, f, api.OK)
		}
		for _, n := range outside(b.low, b.high) {
			for _, kind := range kinds() {
				f := sampleFlow(kind)
				*b.of(&f) = n
				wantCheck(t, b.name, f, api.ErrRange)
				f.Done[0] = true // of what is no Stream ErrShape, were it not for the number
				wantCheck(t, b.name, f, api.ErrRange)
			}
		}
	}
}

// TestCheckKinds: what is none of the three.
func TestCheckKinds(t *testing.T) {
	for _, kind := range append(outside(1, 3), 4, 15, -3, 1<<32+1) {
		for _, like := range kinds() {
			f := sampleFlow(like)
			f.Key.Kind = kind
			wantCheck(t, "no kind", f, api.ErrRange)
		}
	}
}

// TestCheckStates: which states a kind has.
func TestCheckStates(t *testing.T) {
	for _, kind := range kinds() {
		for _, state := range append(outside(-1, 6), -1, 0, 1, 2, 3, 4, 5, 6, 1<<32+1) {
			want := api.ErrRange
			if state == api.Asked || state == api.Both || kind == api.Stream && (state == api.Half || state == api.Ended) {
				want = api.OK
			}
			f := sampleFlow(kind)
			f.State = state
			wantCheck(t, "a state", f, want)
		}
	}
}

// TestCheckShape: what only a Stream has, each alone, and the ports of an Echo.
func TestCheckShape(t *testing.T) {
	spoils := []func(*api.Flow){
		func(f *api.Flow) { f.High[0] = 1 },
		func(f *api.Flow) { f.High[1] = api.MaxAddr },
		func(f *api.Flow) { f.Win[0] = api.MaxPort },
		func(f *api.Flow) { f.Win[1] = 1 },
		func(f *api.Flow) { f.Done[0] = true },
		func(f *api.Flow) { f.Done[1] = true },
	}
	for _, spoil := range spoils {
		for _, kind := range kinds() {
			f := sampleFlow(kind)
			spoil(&f)
			want := api.ErrShape
			if kind == api.Stream {
				want = api.OK
			}
			wantCheck(t, "what a Stream has", f, want)
			f.Number = 201
			wantCheck(t, "what a Stream has, and a wrong number", f, api.ErrRange)
		}
	}
	for _, kind := range kinds() {
		f := sampleFlow(kind)
		f.Key.From, f.Key.To = 8, 9
		want := api.OK
		if kind == api.Echo {
			want = api.ErrShape
		}
		wantCheck(t, "two ports", f, want)
		f.Key.From, f.Key.To = 9, 9
		wantCheck(t, "one port", f, api.OK)
	}
}

// TestCheckStream: of a Stream each state goes with each Done, for Check holds nothing of that.
func TestCheckStream(t *testing.T) {
	for state := api.Asked; state <= api.Ended; state++ {
		for done := range 4 {
			f := sampleFlow(api.Stream)
			f.State, f.Done = state, [2]bool{done&1 != 0, done&2 != 0}
			wantCheck(t, "a Stream", f, api.OK)
		}
	}
}
