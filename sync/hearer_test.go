package sync

import (
	"slices"
	"testing"

	"portcullis/api"
	"portcullis/plain"
)

// wantHear wants just these notes to come out, and Seq to be that of the last that did.
func wantHear(t *testing.T, what string, h *Hearer, n api.Note, want ...api.Note) {
	t.Helper()
	seq := h.Seq()
	if len(want) > 0 {
		seq = want[len(want)-1].Seq
	}
	if got, err := h.Hear(n); !slices.Equal(got, want) || err != nil {
		t.Errorf("%s: Hear of %d: got %v, %v, want %v", what, n.Seq, got, err, want)
	}
	if h.Seq() != seq {
		t.Errorf("%s: Seq: got %d, want %d", what, h.Seq(), seq)
	}
}

func wantHearRefused(t *testing.T, what string, h *Hearer, n api.Note, want api.Errno) {
	t.Helper()
	seq := h.Seq()
	if got, err := h.Hear(n); len(got) != 0 || plain.Told(err) != want {
		t.Errorf("%s: Hear of %d: got %v, %v, want %v", what, n.Seq, got, err, want)
	}
	if h.Seq() != seq {
		t.Errorf("%s: Seq: got %d, want %d", what, h.Seq(), seq)
	}
}

// heard is a hearer out of which so many came.
func heard(t *testing.T, many int) *Hearer {
	t.Helper()
	h := NewHearer()
	for _, n := range from(1, many) {
		wantHear(t, "in order", h, n, n)
	}
	return h
}

// other is a right note, unlike numbered.
func other(seq int) api.Note {
	return api.Note{What: api.Want, Seq: seq}
}

// N3: Hear

// TestHearInOrder: each comes out at once.
func TestHearInOrder(t *testing.T) {
	h := NewHearer()
	if h == nil || h.Seq() != 0 {
		t.Fatalf("a new one: got %v", h)
	}
	for i, n := range notes() {
		n.Seq = i + 1
		wantHear(t, "in order", h, n, n)
	}
	heard(t, 3*api.MaxList)
}

// TestHearWaits: what is not the next one waits, and comes out behind it, up to the next gap.
func TestHearWaits(t *testing.T) {
	h := NewHearer()
	wantHear(t, "waits", h, numbered(3))
	wantHear(t, "waits", h, numbered(2))
	wantHear(t, "waits", h, numbered(6))
	wantHear(t, "waits", h, numbered(5))
	wantHear(t, "up to the gap", h, numbered(1), from(1, 3)...)
	wantHear(t, "waits", h, numbered(8))
	wantHear(t, "up to the next gap", h, numbered(4), from(4, 6)...)
	wantHear(t, "up to the last", h, numbered(7), from(7, 8)...)
	wantHear(t, "the next one", h, numbered(9), numbered(9))
}

// TestHearOrders: in whatever order few come, and come again, each comes out once, and in order.
func TestHearOrders(t *testing.T) {
	var orders func(left, order []int)
	orders = func(left, order []int) {
		if len(left) == 0 {
			wantOrder(t, order)
		}
		for i, seq := range left {
			orders(slices.Delete(slices.Clone(left), i, i+1), append(slices.Clone(order), seq))
		}
	}
	orders([]int{1, 2, 3, 4, 5}, nil)
}

func wantOrder(t *testing.T, order []int) {
	t.Helper()
	h := NewHearer()
	var out []api.Note
	for i, seq := range order {
		// All that came ahead come again.
		for _, again := range append(slices.Clone(order[:i]), seq, seq) {
			got, err := h.Hear(numbered(again))
			if err != nil {
				t.Errorf("%v: Hear of %d: got %v", order, again, err)
			}
			out = append(out, got...)
		}
	}
	if !slices.Equal(out, from(1, len(order))) || h.Seq() != len(order) {
		t.Errorf("%v: got %v, Seq %d", order, out, h.Seq())
	}
}

// TestHearTwice: a second one of the same Seq changes nothing, whether the first one waits or came out, and whatever it says.
func TestHearTwice(t *testing.T) {
	h := heard(t, 2)
	for _, seq := range []int{1, 2} {
		wantHear(t, "came out", h, numbered(seq))
		wantHear(t, "came out", h, other(seq))
	}
	wantHear(t, "waits", h, numbered(4))
	wantHear(t, "waits", h, numbered(4))
	wantHear(t, "waits", h, other(4))
	wantHear(t, "the next one", h, other(3), other(3), numbered(4))
	for seq := 1; seq <= 4; seq++ {
		wantHear(t, "came out", h, numbered(seq))
		wantHear(t, "came out", h, other(seq))
	}
	wantHear(t, "the next one", h, numbered(5), numbered(5))
}

// TestHearEncode: Encode's errors, ahead of the Seq's own, and of ErrFull.
func TestHearEncode(t *testing.T) {
	for _, h := range []*Hearer{NewHearer(), heard(t, 3)} {
		for _, seq := range []int{0, 1, 4, 5, 400, api.MaxTime} {
			wrong, shape := numbered(seq), noteGone()
			wrong.Flow.Key.Kind = 0
			shape.Seq, shape.Flow.Stamp = seq, 1
			wantHearRefused(t, "range", h, wrong, api.ErrRange)
			wantHearRefused(t, "shape", h, shape, api.ErrShape)
			wantHearRefused(t, "shape", h, api.Note{What: api.Got, Seq: seq, Flow: noteGone().Flow}, api.ErrShape)
			for _, what := range outside(1, 5) {
				wantHearRefused(t, "What", h, api.Note{What: what, Seq: seq}, api.ErrRange)
			}
		}
		for _, seq := range outside(0, api.MaxTime) {
			wantHearRefused(t, "Seq", h, numbered(seq), api.ErrRange)
			wantHearRefused(t, "Seq", h, other(seq), api.ErrRange)
		}
		next := numbered(h.Seq() + 1)
		wantHear(t, "behind errors", h, next, next)
	}
}

// TestHearZero: no note has the Seq 0.
func TestHearZero(t *testing.T) {
	for _, h := range []*Hearer{NewHearer(), heard(t, 3)} {
		for _, n := range notes() {
			n.Seq = 0
			wantHearRefused(t, "Seq 0", h, n, api.ErrRange)
		}
	}
}

// TestHearFull: up to MaxList ahead of Seq, and not one more; what is refused does not wait.
func TestHearFull(t *testing.T) {
	for _, many := range []int{0, 1, 7, 250} {
		h := heard(t, many)
		for _, seq := range []int{many + api.MaxList + 1, many + api.MaxList + 2, api.MaxTime} {
			wantHearRefused(t, "too far", h, other(seq), api.ErrFull)
		}
		wantHear(t, "as far as may be", h, numbered(many+api.MaxList))
		wantHearRefused(t, "too far still", h, other(many+api.MaxList+1), api.ErrFull)
		wantHear(t, "the next one", h, numbered(many+1), numbered(many+1))
		// It is near enough now.
		wantHear(t, "no more too far", h, numbered(many+api.MaxList+1))
		wantHearRefused(t, "too far", h, other(many+api.MaxList+2), api.ErrFull)
		for seq := many + 2; seq < many+api.MaxList-1; seq++ {
			wantHear(t, "in order", h, numbered(seq), numbered(seq))
		}
		last := many + api.MaxList - 1
		wantHear(t, "the last gap", h, numbered(last), from(last, last+2)...)
	}
}

// TestHearAll: as many as may wait all come out at once.
func TestHearAll(t *testing.T) {
	h := heard(t, 5)
	for seq := 5 + api.MaxList; seq > 6; seq-- {
		wantHear(t, "backwards", h, numbered(seq))
	}
	wantHear(t, "all", h, numbered(6), from(6, 5+api.MaxList)...)
}

// TestHearLast: up to MaxTime, behind which there is none.
func TestHearLast(t *testing.T) {
	h := NewHearer()
	for seq := 1; seq < api.MaxTime; seq++ {
		if got, err := h.Hear(other(seq)); len(got) != 1 || got[0] != other(seq) || err != nil {
			t.Fatalf("Hear of %d: got %v, %v", seq, got, err)
		}
	}
	wantHear(t, "the last one", h, other(api.MaxTime), other(api.MaxTime))
	wantHear(t, "again", h, other(api.MaxTime))
	wantHearRefused(t, "beyond", h, other(api.MaxTime+1), api.ErrRange)
}

// TestHearForgets: what came out is not kept, nor what comes again.
func TestHearForgets(t *testing.T) {
	h := heard(t, 300)
	for seq := 1; seq <= 300; seq++ {
		wantHear(t, "again", h, numbered(seq))
	}
	wantHear(t, "waits", h, numbered(302))
	if len(h.waits) != 1 {
		t.Errorf("%d wait, want 1", len(h.waits))
	}
}

// TestHearFresh: what is answered is the caller's.
func TestHearFresh(t *testing.T) {
	h := NewHearer()
	wantHear(t, "waits", h, numbered(2))
	wantHear(t, "waits", h, numbered(4))
	a, _ := h.Hear(numbered(1))
	a = a[:cap(a)]
	for i := range a {
		a[i] = api.Note{What: 77, Seq: 3}
	}
	b, _ := h.Hear(numbered(3))
	if !slices.Equal(b, from(3, 4)) || a[0].What != 77 {
		t.Errorf("written into: got %v", b)
	}
}

// TestHearersApart: what is done with one is nothing to another one.
func TestHearersApart(t *testing.T) {
	a, b := NewHearer(), NewHearer()
	wantHear(t, "waits", a, numbered(2))
	wantHear(t, "the other one", b, numbered(1), numbered(1))
	wantHear(t, "the one", a, numbered(1), from(1, 2)...)
	wantHear(t, "the other one", b, numbered(2), numbered(2))
}
