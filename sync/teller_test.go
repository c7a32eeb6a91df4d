package sync

import (
	"slices"
	"testing"

	"portcullis/api"
	"portcullis/plain"
)

func teller(t *testing.T, again int) *Teller {
	t.Helper()
	l, err := NewTeller(again)
	if err != nil || l == nil {
		t.Fatalf("NewTeller(%d): got %v, %v, want one", again, l, err)
	}
	return l
}

// telling is a teller of again 5 to which so many notes were Told at a time.
func telling(t *testing.T, many, now int) *Teller {
	t.Helper()
	l := teller(t, 5)
	for i := range many {
		wantTell(t, l, numbered(0), now, i+1)
	}
	return l
}

// numbered are Puts of one flow, with these numbers.
func numbered(seq int) api.Note {
	n := notePut()
	n.Seq = seq
	return n
}

func from(first, last int) (l []api.Note) {
	for seq := first; seq <= last; seq++ {
		l = append(l, numbered(seq))
	}
	return l
}

func wantTell(t *testing.T, l *Teller, n api.Note, now, want int) {
	t.Helper()
	left := l.Left()
	if got, err := l.Tell(n, now); got != want || err != nil {
		t.Errorf("Tell at %d: got %d, %v, want %d", now, got, err, want)
	}
	wantLeft(t, "told", l, left+1)
}

func wantTellRefused(t *testing.T, what string, l *Teller, n api.Note, now int, want api.Errno) {
	t.Helper()
	left := l.Left()
	if got, err := l.Tell(n, now); got != 0 || plain.Told(err) != want {
		t.Errorf("%s: Tell at %d: got %d, %v, want %v", what, now, got, err, want)
	}
	wantLeft(t, what, l, left)
}

func wantDue(t *testing.T, what string, l *Teller, now int, want ...api.Note) {
	t.Helper()
	left := l.Left()
	if got, err := l.Due(now); !slices.Equal(got, want) || err != nil {
		t.Errorf("%s: Due(%d): got %v, %v, want %v", what, now, got, err, want)
	}
	wantLeft(t, what, l, left)
}

func wantDueRefused(t *testing.T, what string, l *Teller, now int, want api.Errno) {
	t.Helper()
	left := l.Left()
	if got, err := l.Due(now); len(got) != 0 || plain.Told(err) != want {
		t.Errorf("%s: Due(%d): got %v, %v, want %v", what, now, got, err, want)
	}
	wantLeft(t, what, l, left)
}

func wantHeard(t *testing.T, l *Teller, seq, left int) {
	t.Helper()
	if err := l.Heard(seq); err != nil {
		t.Errorf("Heard(%d): got %v", seq, err)
	}
	wantLeft(t, "heard", l, left)
}

func wantHeardRefused(t *testing.T, what string, l *Teller, seq int) {
	t.Helper()
	left := l.Left()
	if err := l.Heard(seq); plain.Told(err) != api.ErrRange {
		t.Errorf("%s: Heard(%d): got %v, want ErrRange", what, seq, err)
	}
	wantLeft(t, what, l, left)
}

func wantLeft(t *testing.T, what string, l *Teller, want int) {
	t.Helper()
	if got := l.Left(); got != want {
		t.Errorf("%s: Left: got %d, want %d", what, got, want)
	}
}

// N2: New

// TestNewTeller: again is from 1 to MaxTime; nothing is left, nothing due.
func TestNewTeller(t *testing.T) {
	for _, again := range []int{1, 2, api.MaxTime - 1, api.MaxTime} {
		l := teller(t, again)
		wantLeft(t, "new", l, 0)
		wantDue(t, "new", l, 0)
		wantHeard(t, l, 0, 0)
		wantHeardRefused(t, "new", l, 1)
	}
	for _, again := range outside(1, api.MaxTime) {
		if l, err := NewTeller(again); l != nil || plain.Told(err) != api.ErrRange {
			t.Errorf("NewTeller(%d): got %v, %v, want ErrRange", again, l, err)
		}
	}
}

// N2: Tell

// TestTell: from 1 on, whatever the Seq was; each What.
func TestTell(t *testing.T) {
	l := teller(t, 5)
	var want []api.Note
	for i, n := range notes() {
		for _, n.Seq = range []int{0, n.Seq, -1, api.MaxTime + 1, 3} {
			wantTell(t, l, n, 7, len(want)+1)
			then := n
			then.Seq = len(want) + 1
			want = append(want, then)
		}
		if len(want) != 5*i+5 {
			t.Fatalf("%d were told", len(want))
		}
		if len(want)+5 > api.MaxList {
			break
		}
	}
	wantDue(t, "all sorts", l, 7, want...)
}

// TestTellTime: now is from 0 to MaxTime, and not less than in a call ahead that had no error; ahead of all other errors.
func TestTellTime(t *testing.T) {
	wrong := numbered(0)
	wrong.What = 9
	shape := noteGone()
	shape.Flow.Stamp = 1
	full := telling(t, api.MaxList, 70)
	for _, n := range []api.Note{numbered(0), wrong, shape} {
		for _, now := range outside(0, api.MaxTime) {
			wantTellRefused(t, "no time", teller(t, 5), n, now, api.ErrRange)
			wantTellRefused(t, "no time", full, n, now, api.ErrRange)
		}
		for _, now := range []int{0, 1, 69} {
			wantTellRefused(t, "back", full, n, now, api.ErrState)
		}
	}
	for _, now := range []int{0, 1, api.MaxTime - 1, api.MaxTime} {
		l := telling(t, 1, now)
		wantTell(t, l, numbered(0), now, 2)
		wantDue(t, "at that time", l, now, from(1, 2)...)
	}
}

// TestTimeGoesOn: both calls with a now move the time.
func TestTimeGoesOn(t *testing.T) {
	for _, move := range []func(l *Teller){
		func(l *Teller) { wantTell(t, l, numbered(0), 70, 1) },
		func(l *Teller) { wantDue(t, "none", l, 70) },
	} {
		l := teller(t, 5)
		move(l)
		wantTellRefused(t, "back", l, numbered(0), 69, api.ErrState)
		wantDueRefused(t, "back", l, 69, api.ErrState)
		wantDueRefused(t, "back", l, 0, api.ErrState)
		wantTellRefused(t, "no time", l, numbered(0), -1, api.ErrRange)
		wantDueRefused(t, "no time", l, -1, api.ErrRange)
		wantDueRefused(t, "no time", l, api.MaxTime+1, api.ErrRange)
		if _, err := l.Due(70); err != nil {
			t.Errorf("at the same time: got %v", err)
		}
	}
	for _, now := range outside(0, api.MaxTime) {
		wantDueRefused(t, "no time", telling(t, 1, 0), now, api.ErrRange)
	}
}

// TestTimeOfErrors: a call with an error moves no time, gives no number, tells nothing.
func TestTimeOfErrors(t *testing.T) {
	wrong, shape := numbered(0), noteGone()
	wrong.Flow.Stamp = 0
	shape.Flow.Stamp = 1
	for _, refuse := range []func(l *Teller){
		func(l *Teller) { wantTellRefused(t, "range", l, wrong, 60, api.ErrRange) },
		func(l *Teller) { wantTellRefused(t, "shape", l, shape, 60, api.ErrShape) },
		func(l *Teller) { wantTellRefused(t, "no time", l, numbered(0), api.MaxTime+1, api.ErrRange) },
		func(l *Teller) { wantDueRefused(t, "no time", l, api.MaxTime+1, api.ErrRange) },
		func(l *Teller) { wantTellRefused(t, "back", l, numbered(0), 39, api.ErrState) },
		func(l *Teller) { wantDueRefused(t, "back", l, 39, api.ErrState) },
		func(l *Teller) { wantHeardRefused(t, "beyond", l, 3) },
	} {
		l := telling(t, 2, 40)
		refuse(l)
		wantDue(t, "behind an error", l, 41, from(1, 2)...)
		wantDueRefused(t, "back", l, 40, api.ErrState)
		wantTell(t, l, numbered(0), 41, 3)
	}
	l := telling(t, api.MaxList, 40)
	wantTellRefused(t, "full", l, numbered(0), 60, api.ErrFull)
	wantDue(t, "behind full", l, 41, from(1, api.MaxList)...)
	wantHeard(t, l, 1, api.MaxList-1)
	wantTell(t, l, numbered(0), 41, api.MaxList+1)
}

// TestTellEncode: Encode's errors, ahead of ErrFull.
func TestTellEncode(t *testing.T) {
	wrong, shape := noteOfKind(api.Single), noteOfKind(api.Single)
	wrong.Flow.Key.Kind = 4
	shape.Flow.High[0] = 1
	for _, l := range []*Teller{teller(t, 5), telling(t, 3, 0), telling(t, api.MaxList, 0)} {
		for _, what := range outside(1, 5) {
			wantTellRefused(t, "What", l, api.Note{What: what}, 0, api.ErrRange)
		}
		wantTellRefused(t, "range", l, wrong, 0, api.ErrRange)
		wantTellRefused(t, "shape", l, shape, 0, api.ErrShape)
		wantTellRefused(t, "shape", l, api.Note{What: api.Got, Flow: api.Flow{Number: 1}}, 0, api.ErrShape)
	}
}

// TestTellFull: MaxList are left, and not one more; what was heard of makes room.
func TestTellFull(t *testing.T) {
	l := telling(t, api.MaxList, 0)
	wantTellRefused(t, "full", l, numbered(0), 0, api.ErrFull)
	// That they were told is not enough.
	wantDue(t, "full", l, 0, from(1, api.MaxList)...)
	wantTellRefused(t, "full", l, numbered(0), 0, api.ErrFull)
	wantHeard(t, l, 0, api.MaxList)
	wantTellRefused(t, "full", l, numbered(0), 0, api.ErrFull)
	wantHeard(t, l, 2, api.MaxList-2)
	wantTell(t, l, numbered(0), 0, api.MaxList+1)
	wantTell(t, l, numbered(0), 0, api.MaxList+2)
	wantTellRefused(t, "full again", l, numbered(0), 0, api.ErrFull)
	wantDue(t, "the last ones", l, 0, from(api.MaxList+1, api.MaxList+2)...)
}

// TestTellLast: numbers go up to MaxTime; the next one is none that a note may have.
func TestTellLast(t *testing.T) {
	l := teller(t, 5)
	n := api.Note{What: api.Want}
	for seq := 1; seq <= api.MaxTime; seq++ {
		if got, err := l.Tell(n, 0); got != seq || err != nil {
			t.Fatalf("Tell: got %d, %v, want %d", got, err, seq)
		}
		if err := l.Heard(seq - 1); err != nil || l.Left() != 1 {
			t.Fatalf("Heard(%d): got %v, %d left", seq-1, err, l.Left())
		}
	}
	wantTellRefused(t, "beyond", l, n, 0, api.ErrRange)
	n.Flow.Number = 1
	wantTellRefused(t, "beyond, and shape", l, n, 0, api.ErrRange)
	wantDue(t, "the last one", l, 0, api.Note{What: api.Want, Seq: api.MaxTime})
	wantHeardRefused(t, "beyond", l, api.MaxTime+1)
	wantHeard(t, l, api.MaxTime, 0)
	wantTellRefused(t, "beyond", l, api.Note{What: api.Want}, 0, api.ErrRange)
}

// N2: Due

// TestDue: what was not told yet at once, and what was told as long ago as again, or longer.
func TestDue(t *testing.T) {
	l := telling(t, 2, 10)
	wantDue(t, "not told yet", l, 10, from(1, 2)...)
	wantDue(t, "just told", l, 10)
	wantDue(t, "4 ago", l, 14)
	wantDue(t, "5 ago", l, 15, from(1, 2)...)
	wantDue(t, "told again", l, 15)
	wantDue(t, "4 ago", l, 19)
	wantDue(t, "long ago", l, 99, from(1, 2)...)
	wantDue(t, "4 ago", l, 103)
	wantDue(t, "5 ago", l, 104, from(1, 2)...)
}

// TestDueLater: from when it was told, not from when it was handed in.
func TestDueLater(t *testing.T) {
	l := telling(t, 1, 10)
	wantDue(t, "long behind Tell", l, 50, from(1, 1)...)
	wantDue(t, "4 ago", l, 54)
	wantDue(t, "5 ago", l, 55, from(1, 1)...)
}

// TestDueEach: each goes by when it was told itself; in order of their numbers.
func TestDueEach(t *testing.T) {
	l := telling(t, 1, 10)
	wantDue(t, "the first", l, 10, from(1, 1)...)
	wantTell(t, l, numbered(0), 12, 2)
	wantDue(t, "the second", l, 12, from(2, 2)...)
	wantTell(t, l, numbered(0), 15, 3)
	wantDue(t, "the first again, the third", l, 15, numbered(1), numbered(3))
	wantDue(t, "none", l, 16)
	wantDue(t, "the second again", l, 17, from(2, 2)...)
	wantDue(t, "those of 15", l, 20, numbered(1), numbered(3))
	wantTell(t, l, numbered(0), 30, 4)
	wantDue(t, "all", l, 30, from(1, 4)...)
}

// TestDueAgain: each again that may be.
func TestDueAgain(t *testing.T) {
	for _, again := range []int{1, 2, 3, 1000, api.MaxTime - 1, api.MaxTime} {
		l := teller(t, again)
		wantTell(t, l, numbered(0), 0, 1)
		wantDue(t, "first", l, 0, numbered(1))
		wantDue(t, "too early", l, again-1)
		wantDue(t, "again", l, again, numbered(1))
		wantDue(t, "just told", l, again)
	}
	// Told when no time is left to tell it again.
	l := teller(t, api.MaxTime)
	wantTell(t, l, numbered(0), 1, 1)
	wantDue(t, "first", l, 1, numbered(1))
	wantDue(t, "too early", l, api.MaxTime)
}

// TestDueMany: as many as are left, in order.
func TestDueMany(t *testing.T) {
	l := telling(t, api.MaxList, 0)
	wantHeard(t, l, 150, 50)
	for i := range 150 {
		wantTell(t, l, numbered(0), 0, 201+i)
	}
	wantDue(t, "all", l, 0, from(151, 350)...)
	wantDue(t, "all again", l, 5, from(151, 350)...)
}

// TestDueFresh: what is answered is the caller's.
func TestDueFresh(t *testing.T) {
	l := telling(t, 3, 0)
	a, _ := l.Due(0)
	a = a[:cap(a)]
	for i := range a {
		a[i] = api.Note{What: 77}
	}
	b, _ := l.Due(5)
	if !slices.Equal(b, from(1, 3)) || a[0].What != 77 {
		t.Errorf("written into: got %v", b)
	}
	b[0].What = 78
	wantDue(t, "written into", l, 10, from(1, 3)...)
}

// N2: Heard

// TestHeard: all up to the number are, told or not; one that was heard of ahead changes nothing.
func TestHeard(t *testing.T) {
	l := telling(t, 6, 0)
	wantHeard(t, l, 0, 6)
	wantHeard(t, l, 2, 4) // none of them was told yet
	wantDue(t, "those that are left", l, 0, from(3, 6)...)
	wantHeard(t, l, 1, 4)
	wantHeard(t, l, 2, 4)
	wantHeard(t, l, 3, 3)
	wantHeard(t, l, 0, 3)
	wantDue(t, "just told", l, 4)
	wantDue(t, "those that are left", l, 5, from(4, 6)...)
	wantHeard(t, l, 6, 0)
	wantDue(t, "none left", l, 50)
	wantHeard(t, l, 6, 0)
	wantTell(t, l, numbered(0), 50, 7)
	wantDue(t, "the next one", l, 50, numbered(7))
}

// TestHeardRange: from 0 to the last number, not to what is left.
func TestHeardRange(t *testing.T) {
	for many := range 4 {
		for heard := range many + 1 {
			l := telling(t, many, 0)
			wantHeard(t, l, heard, many-heard)
			for _, seq := range outside(0, many) {
				wantHeardRefused(t, "none", l, seq)
			}
			wantDue(t, "refused", l, 0, from(heard+1, many)...)
			wantHeard(t, l, 0, many-heard)
			wantHeard(t, l, many, 0)
		}
	}
}

// TestTellersApart: what is done with one is nothing to another one.
func TestTellersApart(t *testing.T) {
	a, b := telling(t, 2, 50), teller(t, 3)
	wantTell(t, b, numbered(0), 0, 1)
	wantHeard(t, a, 2, 0)
	wantDue(t, "the other one", b, 0, numbered(1))
	wantHeardRefused(t, "the other one", b, 2)
}
