package audit

import (
	"math"
	"slices"
	"testing"

	"portcullis/api"
	"portcullis/plain"
)

// someKey is one of a flow.
var someKey = api.Key{Kind: api.Single, Src: 10<<24 | 1, From: 5000, Dst: 192<<24 | 7, To: 53}

// Events, of a node at a time: what passes and is blocked has a key, as a node's log says it.

func passed(time, node int) api.Event {
	return api.Event{Time: time, Node: node, What: api.Passed, Key: someKey}
}

func blocked(time, node int) api.Event {
	return api.Event{Time: time, Node: node, What: api.Blocked, Key: someKey}
}

func rose(time, node int) api.Event {
	return api.Event{Time: time, Node: node, What: api.Rose}
}

func fell(time, node int) api.Event {
	return api.Event{Time: time, Node: node, What: api.Fell}
}

// outside are numbers that are not from low to high.
func outside(low, high int) []int {
	return []int{math.MinInt, -1 << 32, low - 2, low - 1, high + 1, high + 2, 1 << 32, math.MaxInt}
}

// someLog is a right one, in which either node is Master, up to the time 30.
func someLog() []api.Event {
	return []api.Event{
		blocked(1, 0), rose(3, 0), passed(3, 0), passed(4, 0), blocked(4, 0), blocked(5, 1), fell(10, 0),
		rose(12, 1), blocked(12, 1), passed(20, 1), fell(20, 1), blocked(21, 1), rose(25, 1), passed(30, 1),
	}
}

// wantRight: nothing is wrong with a log, and no call says so.
func wantRight(t *testing.T, what string, l []api.Event) {
	t.Helper()
	if at, err := Check(l); at != 0 || err != nil {
		t.Errorf("%s: Check: got %d, %v, want 0, nil", what, at, err)
	}
	if _, _, _, err := Sums(l); err != nil {
		t.Errorf("%s: Sums: got %v", what, err)
	}
	if _, err := Masters(l, api.MaxTime); err != nil {
		t.Errorf("%s: Masters: got %v", what, err)
	}
	if _, _, err := Gaps(l, api.MaxTime); err != nil {
		t.Errorf("%s: Gaps: got %v", what, err)
	}
}

// wantWrong: the event of a number is wrong, and so every call says, whatever the end is; but for the number all is 0 or empty.
func wantWrong(t *testing.T, what string, l []api.Event, number int, want api.Errno) {
	t.Helper()
	if at, err := Check(l); at != number || plain.Told(err) != want {
		t.Errorf("%s: Check: got %d, %v, want %d, %v", what, at, err, number, want)
	}
	if a, b, c, err := Sums(l); a != 0 || b != 0 || c != 0 || plain.Told(err) != want {
		t.Errorf("%s: Sums: got %d, %d, %d, %v, want %v", what, a, b, c, err, want)
	}
	for _, end := range []int{api.MaxTime, 0, -1, api.MaxTime + 1, math.MinInt, math.MaxInt} {
		if m, err := Masters(l, end); len(m) != 0 || plain.Told(err) != want {
			t.Errorf("%s: Masters to %d: got %v, %v, want %v", what, end, m, err, want)
		}
		if longest, total, err := Gaps(l, end); longest != 0 || total != 0 || plain.Told(err) != want {
			t.Errorf("%s: Gaps to %d: got %d, %d, %v, want %v", what, end, longest, total, err, want)
		}
	}
}

// wantWrongBehind: an event is wrong behind others that are right.
func wantWrongBehind(t *testing.T, what string, ahead []api.Event, e api.Event, want api.Errno) {
	t.Helper()
	wantRight(t, what, ahead)
	wantWrong(t, what, append(slices.Clone(ahead), e), len(ahead), want)
	// What comes behind it does not matter, be it right or wrong.
	wantWrong(t, what, append(slices.Clone(ahead), e, blocked(api.MaxTime, 0), rose(-1, 5)), len(ahead), want)
}

// A1: Check

// TestCheckRight: logs with which nothing is wrong.
func TestCheckRight(t *testing.T) {
	for what, l := range map[string][]api.Event{
		"nil":                  nil,
		"empty":                {},
		"some":                 someLog(),
		"blocked by either":    {blocked(0, 0), blocked(0, 1), rose(0, 1), blocked(0, 0), blocked(0, 1)},
		"all at once":          {rose(7, 0), passed(7, 0), fell(7, 0), rose(7, 1), passed(7, 1), fell(7, 1), rose(7, 0), fell(7, 0)},
		"up to the last time":  {rose(0, 1), passed(api.MaxTime, 1), fell(api.MaxTime, 1), blocked(api.MaxTime, 0)},
		"one again and again":  {rose(1, 0), fell(2, 0), rose(2, 0), fell(3, 0), rose(5, 0), passed(5, 0)},
		"one behind the other": {rose(1, 0), fell(2, 0), rose(2, 1), passed(2, 1), fell(3, 1), rose(3, 0), passed(3, 0)},
	} {
		wantRight(t, what, l)
	}
}

// TestCheckAnyKey: what passes or is blocked has any key, also none, and one whose numbers are none of a packet.
func TestCheckAnyKey(t *testing.T) {
	for _, n := range []int{math.MinInt, -1, 0, 1, api.MaxPort + 1, api.MaxAddr + 1, math.MaxInt} {
		for _, k := range eachField(n) {
			e, f := blocked(2, 1), passed(3, 0)
			e.Key, f.Key = k, k
			wantRight(t, "any key", []api.Event{rose(1, 0), e, f})
		}
	}
}

// eachField is a key a field, that has a number there alone.
func eachField(n int) []api.Key {
	return []api.Key{{Kind: n}, {Src: n}, {From: n}, {Dst: n}, {To: n}}
}

// TestCheckRange: a time is from 0 to MaxTime, a node 0 or 1, and what is done one of four.
func TestCheckRange(t *testing.T) {
	for what, ahead := range map[string][]api.Event{
		"first":  nil,
		"behind": {blocked(0, 1)},
		"led":    {rose(0, 0), passed(0, 0)},
		"late":   {blocked(api.MaxTime, 0)},
	} {
		for _, time := range outside(0, api.MaxTime) {
			wantWrongBehind(t, what+": time", ahead, blocked(time, 0), api.ErrRange)
			wantWrongBehind(t, what+": time", ahead, rose(time, 1), api.ErrRange)
		}
		for _, node := range outside(0, 1) {
			wantWrongBehind(t, what+": node", ahead, blocked(api.MaxTime, node), api.ErrRange)
			wantWrongBehind(t, what+": node", ahead, rose(api.MaxTime, node), api.ErrRange)
			wantWrongBehind(t, what+": node", ahead, fell(api.MaxTime, node), api.ErrRange)
			wantWrongBehind(t, what+": node", ahead, passed(api.MaxTime, node), api.ErrRange)
		}
		for _, done := range outside(api.Passed, api.Fell) {
			wantWrongBehind(t, what+": done", ahead, api.Event{Time: api.MaxTime, What: done}, api.ErrRange)
			wantWrongBehind(t, what+": done", ahead, api.Event{Time: api.MaxTime, What: done, Key: someKey}, api.ErrRange)
		}
	}
}

// TestCheckState: times do not go back, whatever the events are, and whoever's.
func TestCheckState(t *testing.T) {
	for _, ahead := range [][]api.Event{
		{rose(10, 0)},
		{rose(3, 0), blocked(10, 1)},
		{rose(3, 0), passed(10, 0)},
		{rose(3, 1), fell(10, 1), rose(10, 0)},
	} {
		for _, time := range []int{0, 1, 3, 8, 9} {
			for _, e := range []api.Event{passed(time, 0), fell(time, 0), blocked(time, 0), blocked(time, 1)} {
				wantWrongBehind(t, "back", ahead, e, api.ErrState)
			}
		}
		for _, time := range []int{10, 11, api.MaxTime} {
			for _, e := range []api.Event{passed(time, 0), fell(time, 0), blocked(time, 0), blocked(time, 1)} {
				wantRight(t, "on", append(slices.Clone(ahead), e))
			}
		}
	}
	wantWrong(t, "back from the last", []api.Event{rose(0, 0), passed(api.MaxTime, 0), passed(api.MaxTime-1, 0)}, 2, api.ErrState)
	wantWrong(t, "less than just ahead", []api.Event{rose(0, 0), passed(5, 0), passed(9, 0), passed(7, 0)}, 3, api.ErrState)
}

// TestCheckKey: who rises and falls does so without a key.
func TestCheckKey(t *testing.T) {
	for _, n := range []int{math.MinInt, -1, 1, 2, api.MaxPort, 1 << 32, math.MaxInt} {
		for _, k := range eachField(n) {
			up, down := rose(4, 1), fell(6, 1)
			up.Key, down.Key = k, k
			wantWrongBehind(t, "rose", nil, up, api.ErrShape)
			wantWrongBehind(t, "rose", []api.Event{rose(1, 0), fell(2, 0)}, up, api.ErrShape)
			wantWrongBehind(t, "fell", []api.Event{rose(4, 1)}, down, api.ErrShape)
		}
	}
}

// TestCheckMaster: who rises is not Master, who falls and who lets pass is; neither is at first.
func TestCheckMaster(t *testing.T) {
	for i := range 2 {
		none := map[string][]api.Event{
			"at first":         nil,
			"fallen":           {rose(1, i), passed(1, i), fell(2, i)},
			"fallen again":     {rose(1, i), fell(1, i), rose(2, i), fell(2, i)},
			"the other fallen": {rose(1, 1-i), fell(2, 1-i)},
			"blocked":          {blocked(2, i)},
		}
		for what, ahead := range none {
			wantWrongBehind(t, what, ahead, fell(3, i), api.ErrShape)
			wantWrongBehind(t, what, ahead, passed(3, i), api.ErrShape)
			wantRight(t, what, append(slices.Clone(ahead), rose(3, i), passed(3, i), fell(3, i)))
		}
		other := map[string][]api.Event{
			"the other is":        {rose(1, 1-i)},
			"the other has taken": {rose(1, i), fell(2, i), rose(2, 1-i)},
		}
		for what, ahead := range other {
			wantWrongBehind(t, what, ahead, fell(3, i), api.ErrShape)
			wantWrongBehind(t, what, ahead, passed(3, i), api.ErrShape)
			wantRight(t, what, append(slices.Clone(ahead), passed(3, 1-i), fell(3, 1-i)))
		}
		is := map[string][]api.Event{
			"risen":       {rose(1, i)},
			"risen again": {rose(1, i), fell(1, i), rose(1, i)},
			"has taken":   {rose(1, 1-i), fell(2, 1-i), rose(2, i), blocked(2, 1-i)},
		}
		for what, ahead := range is {
			wantWrongBehind(t, what, ahead, rose(3, i), api.ErrShape)
			wantRight(t, what, append(slices.Clone(ahead), passed(3, i), fell(3, i)))
		}
	}
}

// TestCheckClash: nobody rises while the other one is Master.
func TestCheckClash(t *testing.T) {
	for i := range 2 {
		for what, ahead := range map[string][]api.Event{
			"risen":       {rose(3, 1-i)},
			"went on":     {rose(1, 1-i), passed(2, 1-i), blocked(3, i)},
			"risen again": {rose(1, 1-i), fell(2, 1-i), rose(2, 1-i)},
			"has taken":   {rose(1, i), fell(2, i), rose(3, 1-i)},
		} {
			wantWrongBehind(t, what, ahead, rose(3, i), api.ErrClash)
			wantWrongBehind(t, what, ahead, rose(4, i), api.ErrClash)
			wantRight(t, what, append(slices.Clone(ahead), fell(3, 1-i), rose(3, i), passed(3, i)))
		}
	}
}

// TestCheckFull: a log has at most 1000 events; ahead of all that is wrong with them.
func TestCheckFull(t *testing.T) {
	l := []api.Event{rose(0, 0)}
	for len(l) < 1000 {
		l = append(l, passed(len(l), 0))
	}
	wantRight(t, "1000", l)
	if at, _ := Check(append(l[:999:999], passed(0, 0))); at != 999 {
		t.Errorf("the last one of 1000: got %d, want 999", at)
	}
	for _, more := range []int{1, 2, 1000} {
		long := slices.Clone(l)
		for range more {
			long = append(long, passed(api.MaxTime, 0))
		}
		wantWrong(t, "more", long, 0, api.ErrFull)
		long[500].Time = -1
		wantWrong(t, "more, one wrong", long, 0, api.ErrFull)
		long[0].What = 0
		wantWrong(t, "more, the first wrong", long, 0, api.ErrFull)
	}
	wantWrong(t, "more, all empty", make([]api.Event, 1001), 0, api.ErrFull)
	wantWrong(t, "as many, all empty", make([]api.Event, 1000), 0, api.ErrRange)
}

// TestCheckOrder: of what is wrong with one event what is named first is told.
func TestCheckOrder(t *testing.T) {
	ahead := []api.Event{rose(10, 0)}
	with := func(e api.Event) api.Event {
		e.Key = someKey
		return e
	}
	for what, c := range map[string]struct {
		e    api.Event
		want api.Errno
	}{
		"time none, and back":      {passed(-1, 0), api.ErrRange},
		"node none, and back":      {passed(9, 2), api.ErrRange},
		"done none, and back":      {api.Event{Time: 9, What: 5}, api.ErrRange},
		"node none, and key":       {with(rose(10, 2)), api.ErrRange},
		"time none, and clash":     {rose(api.MaxTime+1, 1), api.ErrRange},
		"back, and key":            {with(rose(9, 1)), api.ErrState},
		"back, and risen twice":    {rose(9, 0), api.ErrState},
		"back, and fell not":       {fell(9, 1), api.ErrState},
		"back, and passed not":     {passed(9, 1), api.ErrState},
		"back, and clash":          {rose(9, 1), api.ErrState},
		"key, and clash":           {with(rose(10, 1)), api.ErrShape},
		"key, and risen twice":     {with(rose(10, 0)), api.ErrShape},
		"key, and fell not":        {with(fell(10, 1)), api.ErrShape},
		"all but that it is there": {api.Event{Time: -5, Node: -5, What: -5, Key: someKey}, api.ErrRange},
	} {
		wantWrongBehind(t, what, ahead, c.e, c.want)
	}
}

// TestCheckFirst: the first event that is wrong is told, whatever is wrong with those behind it.
func TestCheckFirst(t *testing.T) {
	wrong := []struct {
		e    api.Event
		want api.Errno
	}{
		{blocked(-1, 0), api.ErrRange},
		{blocked(4, 0), api.ErrState},
		{fell(5, 0), api.ErrShape},
		{rose(5, 0), api.ErrClash},
	}
	for _, a := range wrong {
		for _, b := range wrong {
			wantWrong(t, "two", []api.Event{blocked(2, 0), rose(5, 1), a.e, passed(6, 1), b.e}, 2, a.want)
		}
	}
}

// A1: Sums

// TestSums: how many passed, were blocked, and rose; who fell counts nowhere.
func TestSums(t *testing.T) {
	for what, c := range map[string]struct {
		l    []api.Event
		want [3]int
	}{
		"none":       {nil, [3]int{}},
		"empty":      {[]api.Event{}, [3]int{}},
		"some":       {someLog(), [3]int{4, 5, 3}},
		"blocked":    {[]api.Event{blocked(1, 0), blocked(1, 1), blocked(2, 0)}, [3]int{0, 3, 0}},
		"rose":       {[]api.Event{rose(1, 1)}, [3]int{0, 0, 1}},
		"fell":       {[]api.Event{rose(1, 1), fell(1, 1), rose(2, 0), fell(2, 0), rose(2, 0), fell(2, 0)}, [3]int{0, 0, 3}},
		"passed":     {[]api.Event{rose(1, 1), passed(1, 1), passed(1, 1)}, [3]int{2, 0, 1}},
		"both nodes": {[]api.Event{rose(1, 1), passed(1, 1), fell(1, 1), rose(1, 0), passed(1, 0), blocked(1, 1)}, [3]int{2, 1, 2}},
	} {
		a, b, r, err := Sums(c.l)
		if got := [3]int{a, b, r}; got != c.want || err != nil {
			t.Errorf("%s: got %v, %v, want %v", what, got, err, c.want)
		}
	}
}

// TestSumsMany: so many as there may be.
func TestSumsMany(t *testing.T) {
	l := []api.Event{rose(0, 0)}
	for len(l) < 999 {
		l = append(l, passed(len(l), 0))
	}
	l = append(l, blocked(999, 1))
	if a, b, r, err := Sums(l); a != 998 || b != 1 || r != 1 || err != nil {
		t.Errorf("got %d, %d, %d, %v, want 998, 1, 1", a, b, r, err)
	}
}
