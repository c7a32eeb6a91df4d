package audit

import (
	"math"
	"slices"
	"testing"

	"portcullis/api"
	"portcullis/plain"
)

func wantMasters(t *testing.T, what string, l []api.Event, end int, want [][3]int) {
	t.Helper()
	if got, err := Masters(l, end); !slices.Equal(got, want) || err != nil {
		t.Errorf("%s: Masters to %d: got %v, %v, want %v", what, end, got, err, want)
	}
}

func wantGaps(t *testing.T, what string, l []api.Event, end, longest, total int) {
	t.Helper()
	if a, b, err := Gaps(l, end); a != longest || b != total || err != nil {
		t.Errorf("%s: Gaps to %d: got %d, %d, %v, want %d, %d", what, end, a, b, err, longest, total)
	}
}

// timed is a log up to an end: who was Master in it, and for how long nobody was.
type timed struct {
	what           string
	l              []api.Event
	end            int
	masters        [][3]int
	longest, total int
}

func timedLogs() []timed {
	return []timed{
		{"none", nil, 60, nil, 60, 60},
		{"none, of no time", nil, 0, nil, 0, 0},
		{"none, for ever", nil, api.MaxTime, nil, api.MaxTime, api.MaxTime},
		{"blocked alone", []api.Event{blocked(5, 0), blocked(7, 1)}, 60, nil, 60, 60},
		{"some", someLog(), 30, [][3]int{{3, 10, 0}, {12, 20, 1}, {25, 30, 1}}, 5, 10},
		{"some, later", someLog(), 31, [][3]int{{3, 10, 0}, {12, 20, 1}, {25, 31, 1}}, 5, 10},
		{"still, node 0", []api.Event{rose(2, 0)}, 60, [][3]int{{2, 60, 0}}, 2, 2},
		{"still, node 1", []api.Event{rose(2, 1), passed(5, 1)}, 60, [][3]int{{2, 60, 1}}, 2, 2},
		{"all the time", []api.Event{rose(0, 1)}, 60, [][3]int{{0, 60, 1}}, 0, 0},
		{"for ever", []api.Event{rose(0, 1)}, api.MaxTime, [][3]int{{0, api.MaxTime, 1}}, 0, 0},
		{"fallen", []api.Event{rose(2, 0), fell(9, 0)}, 60, [][3]int{{2, 9, 0}}, 51, 53},
		{"fallen at the end", []api.Event{rose(2, 0), fell(60, 0)}, 60, [][3]int{{2, 60, 0}}, 2, 2},
		{"risen at the end", []api.Event{rose(60, 1)}, 60, [][3]int{{60, 60, 1}}, 60, 60},
		{"risen at the last time", []api.Event{rose(api.MaxTime, 1)}, api.MaxTime, [][3]int{{api.MaxTime, api.MaxTime, 1}}, api.MaxTime, api.MaxTime},
		{"risen and fallen at the end", []api.Event{rose(60, 1), fell(60, 1)}, 60, [][3]int{{60, 60, 1}}, 60, 60},
		{"at once", []api.Event{rose(0, 1), fell(0, 1)}, 0, [][3]int{{0, 0, 1}}, 0, 0},
		{"for no time", []api.Event{rose(20, 1), fell(20, 1)}, 60, [][3]int{{20, 20, 1}}, 40, 60},
		{"for no time, late", []api.Event{rose(50, 1), fell(50, 1)}, 60, [][3]int{{50, 50, 1}}, 50, 60},
		{"for no time, thrice", []api.Event{rose(9, 1), fell(9, 1), rose(9, 0), fell(9, 0), rose(9, 1), fell(9, 1)}, 10, [][3]int{{9, 9, 1}, {9, 9, 0}, {9, 9, 1}}, 9, 10},
		{"again at once", []api.Event{rose(1, 0), fell(4, 0), rose(4, 0), fell(6, 0)}, 6, [][3]int{{1, 4, 0}, {4, 6, 0}}, 1, 1},
		{"taken at once", []api.Event{rose(1, 0), fell(4, 0), rose(4, 1), fell(6, 1)}, 9, [][3]int{{1, 4, 0}, {4, 6, 1}}, 3, 4},
		{"longest first", []api.Event{rose(9, 0), fell(10, 0), rose(12, 1), fell(13, 1)}, 16, [][3]int{{9, 10, 0}, {12, 13, 1}}, 9, 14},
		{"longest between", []api.Event{rose(2, 0), fell(3, 0), rose(12, 1), fell(13, 1)}, 16, [][3]int{{2, 3, 0}, {12, 13, 1}}, 9, 14},
		{"longest last", []api.Event{rose(2, 0), fell(3, 0), rose(6, 1), fell(7, 1)}, 16, [][3]int{{2, 3, 0}, {6, 7, 1}}, 9, 14},
		{"others between", []api.Event{rose(2, 0), blocked(3, 1), passed(5, 0), fell(7, 0), blocked(8, 0), rose(9, 0)}, 12, [][3]int{{2, 7, 0}, {9, 12, 0}}, 2, 4},
	}
}

// A1: Masters

// TestMasters: from when to when who was, in order, also for no time; who still is, is till the end.
func TestMasters(t *testing.T) {
	for _, c := range timedLogs() {
		wantMasters(t, c.what, c.l, c.end, c.masters)
	}
}

// TestMastersEnd: the end is from the last time, whatever was then, or 0, to MaxTime.
func TestMastersEnd(t *testing.T) {
	for what, c := range map[string]struct {
		l    []api.Event
		last int
	}{
		"none":        {nil, 0},
		"blocked":     {[]api.Event{rose(2, 0), fell(3, 0), blocked(8, 1)}, 8},
		"passed":      {[]api.Event{rose(2, 0), passed(8, 0)}, 8},
		"rose":        {[]api.Event{rose(8, 0)}, 8},
		"fell":        {[]api.Event{rose(2, 0), fell(8, 0)}, 8},
		"early":       {[]api.Event{rose(0, 0)}, 0},
		"late":        {[]api.Event{rose(0, 0), passed(api.MaxTime, 0)}, api.MaxTime},
		"nearly late": {[]api.Event{rose(0, 0), passed(api.MaxTime-1, 0)}, api.MaxTime - 1},
	} {
		for _, end := range append(outside(c.last, api.MaxTime), c.last-3, -1) {
			if m, err := Masters(c.l, end); len(m) != 0 || plain.Told(err) != api.ErrRange {
				t.Errorf("%s: Masters to %d: got %v, %v, want ErrRange", what, end, m, err)
			}
			if a, b, err := Gaps(c.l, end); a != 0 || b != 0 || plain.Told(err) != api.ErrRange {
				t.Errorf("%s: Gaps to %d: got %d, %d, %v, want ErrRange", what, end, a, b, err)
			}
		}
		for _, end := range []int{c.last, (c.last + api.MaxTime) / 2, api.MaxTime} {
			if _, err := Masters(c.l, end); err != nil {
				t.Errorf("%s: Masters to %d: got %v", what, end, err)
			}
			if _, _, err := Gaps(c.l, end); err != nil {
				t.Errorf("%s: Gaps to %d: got %v", what, end, err)
			}
		}
	}
}

// TestMastersMany: so many as there may be.
func TestMastersMany(t *testing.T) {
	var l []api.Event
	var want [][3]int
	for i := range 500 {
		l = append(l, rose(10*i+3, i%2), fell(10*i+7, i%2))
		want = append(want, [3]int{10*i + 3, 10*i + 7, i % 2})
	}
	wantMasters(t, "many", l, 5000, want)
	wantGaps(t, "many", l, 5000, 6, 3000)
}

// A1: Gaps

// TestGaps: the longest time at which nobody was, and all together; one for no time parts what is ahead of it from what is behind it.
func TestGaps(t *testing.T) {
	for _, c := range timedLogs() {
		wantGaps(t, c.what, c.l, c.end, c.longest, c.total)
	}
}

// TestGapsLast: a gap at the end is as long as the end says.
func TestGapsLast(t *testing.T) {
	l := []api.Event{rose(5, 0), fell(7, 0)}
	for _, c := range [][3]int{{7, 5, 5}, {8, 5, 6}, {12, 5, 10}, {13, 6, 11}, {api.MaxTime, api.MaxTime - 7, api.MaxTime - 2}} {
		wantGaps(t, "last", l, c[0], c[1], c[2])
	}
	for _, end := range []int{7, 8, api.MaxTime} {
		wantGaps(t, "no last", l[:1], end, 5, 5)
	}
}

// P1, P2 of the document

// TestKeeps: a list that is handed in is neither written nor kept, nor is what lies behind its length read.
func TestKeeps(t *testing.T) {
	l := append(someLog(), rose(-1, -1), rose(-2, -2))
	before := slices.Clone(l)
	short := l[:len(l)-2]
	first, err := Masters(short, 40)
	if err != nil {
		t.Fatal(err)
	}
	wantRight(t, "a part", short)
	if !slices.Equal(l, before) {
		t.Errorf("written: got %v, want %v", l, before)
	}
	want := slices.Clone(first)
	again, _ := Masters(short, 40)
	for i := range again {
		again[i] = [3]int{math.MaxInt, math.MaxInt, math.MaxInt}
	}
	clear(l)
	if !slices.Equal(first, want) {
		t.Errorf("shared: got %v, want %v", first, want)
	}
	wantMasters(t, "later", before[:len(before)-2], 40, want)
}
