package audit

import (
	"math/rand"
	"slices"
	"testing"

	"portcullis/api"
	"portcullis/plain"
)

// A slow audit, as the chapter's words have it: each thing is looked for anew in all events ahead.

// wasMaster tells whether a node is Master behind some events: the last one by which it rose or fell is one by which it rose.
func wasMaster(ahead []api.Event, node int) bool {
	for _, e := range slices.Backward(ahead) {
		if e.Node == node && (e.What == 3 || e.What == 4) {
			return e.What == 3
		}
	}
	return false
}

func slowWrong(ahead []api.Event, e api.Event) api.Errno {
	if e.Time < 0 || e.Time > 1_000_000 || e.Node != 0 && e.Node != 1 || e.What < 1 || e.What > 4 {
		return api.ErrRange
	}
	for _, a := range ahead {
		if e.Time < a.Time {
			return api.ErrState
		}
	}
	is, other := wasMaster(ahead, e.Node), wasMaster(ahead, 1-e.Node)
	k := e.Key
	keyed := k.Kind != 0 || k.Src != 0 || k.From != 0 || k.Dst != 0 || k.To != 0
	switch {
	case (e.What == 3 || e.What == 4) && keyed, e.What == 3 && is, e.What == 4 && !is, e.What == 1 && !is:
		return api.ErrShape
	case e.What == 3 && other:
		return api.ErrClash
	}
	return api.OK
}

func slowCheck(l []api.Event) (int, api.Errno) {
	if len(l) > 1000 {
		return 0, api.ErrFull
	}
	for i, e := range l {
		if err := slowWrong(l[:i], e); err != api.OK {
			return i, err
		}
	}
	return 0, api.OK
}

func slowSums(l []api.Event) (sums [3]int, err api.Errno) {
	if _, err := slowCheck(l); err != api.OK {
		return sums, err
	}
	for _, e := range l {
		for i, what := range []int{1, 2, 3} {
			if e.What == what {
				sums[i]++
			}
		}
	}
	return sums, api.OK
}

func slowMasters(l []api.Event, end int) (out [][3]int, err api.Errno) {
	if _, err := slowCheck(l); err != api.OK {
		return nil, err
	}
	last := 0
	for _, e := range l {
		last = e.Time
	}
	if end < last || end > 1_000_000 {
		return nil, api.ErrRange
	}
	for i, e := range l {
		if e.What != 3 {
			continue
		}
		until := end
		for _, f := range slices.Backward(l[i:]) {
			if f.What == 4 && f.Node == e.Node {
				until = f.Time
			}
		}
		out = append(out, [3]int{e.Time, until, e.Node})
	}
	return out, api.OK
}

// slowGaps goes through the time one by one: a run of times without a Master ends where one is, be it for no time.
func slowGaps(l []api.Event, end int) (longest, total int, err api.Errno) {
	masters, err := slowMasters(l, end)
	if err != api.OK {
		return 0, 0, err
	}
	run := 0
	for now := range end {
		led := false
		for _, m := range masters {
			if m[0] == now {
				run = 0
			}
			led = led || m[0] <= now && now < m[1]
		}
		if led {
			continue
		}
		run, total = run+1, total+1
		longest = max(longest, run)
	}
	return longest, total, api.OK
}

// holdModel holds what a log and an end are answered against the slow audit, and tells what is wrong with the log.
func holdModel(t *testing.T, l []api.Event, end int) api.Errno {
	t.Helper()
	at, err := Check(l)
	number, ill := slowCheck(l)
	if at != number || plain.Told(err) != ill {
		t.Fatalf("Check(%v): got %d, %v, want %d, %v", l, at, err, number, ill)
	}
	a, b, c, err := Sums(l)
	if want, ill := slowSums(l); [3]int{a, b, c} != want || plain.Told(err) != ill {
		t.Fatalf("Sums(%v): got %d, %d, %d, %v, want %v, %v", l, a, b, c, err, want, ill)
	}
	m, err := Masters(l, end)
	if want, ill := slowMasters(l, end); !slices.Equal(m, want) || plain.Told(err) != ill {
		t.Fatalf("Masters(%v, %d): got %v, %v, want %v, %v", l, end, m, err, want, ill)
	}
	longest, total, err := Gaps(l, end)
	if x, y, ill := slowGaps(l, end); longest != x || total != y || plain.Told(err) != ill {
		t.Fatalf("Gaps(%v, %d): got %d, %d, %v, want %d, %d, %v", l, end, longest, total, err, x, y, ill)
	}
	return ill
}

// TestAllShort: all logs of at most four events at the times 0 and 1, among them wrong ones.
func TestAllShort(t *testing.T) {
	kinds := []api.Event{{Time: 0, What: 5}, {Time: 1, Node: 2, What: 2}, {Time: 1, What: 3, Key: someKey}}
	for time := range 2 {
		for node := range 2 {
			for what := 1; what <= 4; what++ {
				kinds = append(kinds, api.Event{Time: time, Node: node, What: what})
			}
		}
	}
	seen := map[api.Errno]int{}
	var grow func(l []api.Event)
	grow = func(l []api.Event) {
		for end := range 4 {
			seen[holdModel(t, l, end-1)]++
		}
		if len(l) == 4 {
			return
		}
		for _, e := range kinds {
			grow(append(l, e))
		}
	}
	grow(make([]api.Event, 0, 4))
	for _, err := range []api.Errno{api.OK, api.ErrRange, api.ErrState, api.ErrShape, api.ErrClash} {
		if seen[err] == 0 {
			t.Errorf("no log was answered %v", err)
		}
	}
}

// someEvent is one that goes on right behind a log.
func someEvent(r *rand.Rand, l []api.Event) api.Event {
	now := 0
	if len(l) > 0 {
		now = l[len(l)-1].Time
	}
	for {
		e := api.Event{Time: now + r.Intn(2)*r.Intn(5), Node: r.Intn(2), What: 1 + r.Intn(4)}
		if e.What < 3 {
			e.Key = api.Key{Kind: r.Intn(4), Src: r.Intn(9) - 1, From: r.Intn(5), Dst: r.Int(), To: r.Intn(3)}
		}
		if slowWrong(l, e) == api.OK {
			return e
		}
	}
}

// spoil changes something of an event.
func spoil(r *rand.Rand, e *api.Event) {
	by := 1 + r.Intn(4)
	switch r.Intn(7) {
	case 0, 1:
		e.Time -= by
	case 2:
		e.Node = 1 - e.Node
	case 3:
		e.What = r.Intn(6)
	case 4:
		e.Key.To += by
	case 5:
		e.Time, e.Node = e.Time+by, e.Node*by
	case 6:
		*e = rose(e.Time, 1-e.Node)
	}
}

// TestSomeLogs: logs that are right, and such of which one event or some were spoilt.
func TestSomeLogs(t *testing.T) {
	seen := map[api.Errno]int{}
	for run := range 4000 {
		r := rand.New(rand.NewSource(int64(run)))
		var l []api.Event
		for range r.Intn(30) {
			l = append(l, someEvent(r, l))
		}
		for range r.Intn(3) {
			if len(l) > 0 {
				spoil(r, &l[r.Intn(len(l))])
			}
		}
		end := r.Intn(8) - 2
		for _, e := range l {
			end = max(end, e.Time+r.Intn(8)-1)
		}
		seen[holdModel(t, l, end)]++
	}
	for _, err := range []api.Errno{api.OK, api.ErrRange, api.ErrState, api.ErrShape, api.ErrClash} {
		if seen[err] < 50 {
			t.Errorf("just %d logs were answered %v", seen[err], err)
		}
	}
}
