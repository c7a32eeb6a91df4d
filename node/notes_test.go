package node

import (
	"bytes"
	"math/rand"
	"slices"
	"testing"

	"portcullis/api"
	"portcullis/plain"
	"portcullis/seg"
)

// flowOf is a flow that changed so often, up to a time.
func flowOf(kind, port, until, stamp int) api.Flow {
	f := api.Flow{Key: keyOf(kind, port), State: api.Both, Until: until, Stamp: stamp, Number: 4}
	if kind == api.Stream {
		f.High, f.Win, f.Done = [2]int{1004, 7001}, [2]int{500, 600}, [2]bool{true, false}
		f.State = api.Half
	}
	return f
}

// with is a Standby that was told of flows at the time 0; it has heard as many notes.
func with(t *testing.T, flows ...api.Flow) *Node {
	t.Helper()
	n := standby(t, keepAll)
	for i, f := range flows {
		wantNote(t, "with", n, 0, api.OK, put(i+1, f))
	}
	wantFlows(t, "with", n, 0, flows...)
	return n
}

// F3

// TestNotes: what is due, in order, and Got behind it, each time.
func TestNotes(t *testing.T) {
	n := master(t, keepAll)
	wantNotes(t, "nothing yet", n, 0, 0)
	wantNotes(t, "nothing yet", n, 0, 0)
	var told []api.Note
	for i, kind := range kinds() {
		k := keyOf(kind, 5)
		wantPassed(t, "begins", n, firstBytes(t, k), api.In, i)
		told = append(told, put(i+1, begun(t, k, 0, i)))
	}
	wantNotes(t, "three", n, 3, 0, told...)
	wantNotes(t, "three, told", n, 4, 0)
	k := keyOf(api.Stream, 5)
	wantPassed(t, "goes on", n, answerBytes(t, k), api.In, 5)
	fourth := put(4, answered(t, told[0].Flow, 5))
	wantNotes(t, "a fourth one", n, 5, 0, fourth)
	wantNotes(t, "three again", n, 8, 0, told...)
	wantNotes(t, "the fourth one again", n, 10, 0, fourth)
}

// TestNotesGot: it says what was the last that came in order.
func TestNotesGot(t *testing.T) {
	n := standby(t, keepAll)
	f := func(port int) api.Flow { return flowOf(api.Single, port, 900, 1) }
	wantNote(t, "the first", n, 0, api.OK, put(1, f(1)))
	wantNotes(t, "the first", n, 0, 1)
	wantNote(t, "the third", n, 0, api.OK, put(3, f(3)))
	wantNotes(t, "the third waits", n, 0, 1)
	wantNote(t, "the second", n, 0, api.OK, put(2, f(2)))
	wantNotes(t, "all three", n, 0, 3)
	wantNote(t, "the second again", n, 0, api.OK, put(2, f(2)))
	wantNotes(t, "the second again", n, 0, 3)
}

func TestNotePut(t *testing.T) {
	for _, kind := range kinds() {
		f := flowOf(kind, 5, 50, 3)
		n := with(t, f)
		same, older, newer := flowOf(kind, 5, 60, 3), flowOf(kind, 5, 60, 2), flowOf(kind, 5, 60, 4)
		wantNote(t, "as old", n, 1, api.OK, put(2, same))
		wantNote(t, "older", n, 1, api.OK, put(3, older))
		wantFlows(t, "as old, older", n, 1, f)
		wantNote(t, "newer", n, 1, api.OK, put(4, newer))
		wantFlows(t, "newer", n, 1, newer)
		other := flowOf(kind, 6, 1, 1)
		wantNote(t, "over", n, 1, api.OK, put(5, other))
		wantFlows(t, "over", n, 1, newer)
		wantNotes(t, "what was adopted is not told", n, 1, 5)
		wantFlows(t, "it is over, too", n, 60)
	}
}

// TestNotePutFull: what there is no room for is left out; the notes behind it count.
func TestNotePutFull(t *testing.T) {
	var flows []api.Flow
	for port := range api.MaxFlows {
		flows = append(flows, flowOf(api.Single, port, 100, 1))
	}
	n := with(t, flows...)
	another := flowOf(api.Single, 99, 100, 1)
	wantNote(t, "one too many", n, 0, api.OK, put(31, another))
	wantFlows(t, "one too many", n, 0, flows...)
	wantNotes(t, "one too many", n, 0, 31)
	wantNote(t, "room again", n, 0, api.OK, gone(32, flows[0].Key), put(33, another))
	wantFlows(t, "room again", n, 0, append(slices.Clone(flows[1:]), another)...)
}

func TestNoteGone(t *testing.T) {
	a, b := flowOf(api.Stream, 5, 50, 1), flowOf(api.Stream, 6, 50, 1)
	n := with(t, a, b)
	wantNote(t, "of none", n, 1, api.OK, gone(3, keyOf(api.Stream, 7)))
	wantFlows(t, "of none", n, 1, a, b)
	wantNote(t, "of one", n, 1, api.OK, gone(4, a.Key))
	wantFlows(t, "of one", n, 1, b)
	wantNote(t, "turned", n, 1, api.OK, gone(5, seg.Turn(b.Key)))
	wantFlows(t, "turned", n, 1)
	wantNotes(t, "what is dropped is not told", n, 1, 5)
}

// TestNoteOrder: notes count in the order of their numbers, each once, however they come.
func TestNoteOrder(t *testing.T) {
	f := flowOf(api.Single, 5, 50, 1)
	l := []api.Note{put(1, f), gone(2, f.Key), put(3, f)}
	for _, order := range [][]int{{0, 1, 2}, {0, 2, 1}, {1, 0, 2}, {1, 2, 0}, {2, 0, 1}, {2, 1, 0}} {
		together, apart := standby(t, ""), standby(t, "")
		var all []api.Note
		for _, i := range order {
			all = append(all, l[i])
			wantNote(t, "one by one", apart, 0, api.OK, l[i])
		}
		wantNote(t, "at once", together, 0, api.OK, all...)
		for _, n := range []*Node{together, apart} {
			wantFlows(t, "in any order", n, 0, f)
			wantNote(t, "again", n, 0, api.OK, gone(2, f.Key))
			wantFlows(t, "again", n, 0, f)
			wantNotes(t, "again", n, 0, 3)
		}
	}
}

// TestNoteRefused: what the hearer refuses changes nothing, and those behind it count.
func TestNoteRefused(t *testing.T) {
	a, b := flowOf(api.Single, 5, 50, 1), flowOf(api.Single, 6, 50, 1)
	n := with(t, a)
	wantNote(t, "number 0", n, 0, api.OK, put(0, b), gone(0, a.Key), api.Note{What: api.All})
	wantFlows(t, "number 0", n, 0, a)
	wantNote(t, "too far ahead", n, 0, api.OK, gone(1+api.MaxList+1, a.Key), put(2, b))
	wantFlows(t, "those behind count", n, 0, a, b)
	wantNotes(t, "those behind count", n, 0, 2)
	var rest []api.Note
	for seq := 3; seq <= 1+api.MaxList; seq++ {
		rest = append(rest, put(seq, b))
	}
	wantNote(t, "all up to there", n, 0, api.OK, rest...)
	wantFlows(t, "it was not kept", n, 0, a, b)
	wantNotes(t, "it was not kept", n, 0, 1+api.MaxList)
}

func TestNoteGot(t *testing.T) {
	n := master(t, keepAll)
	var told []api.Note
	for i := range 3 {
		k := keyOf(api.Single, i)
		wantPassed(t, "begins", n, firstBytes(t, k), api.In, 0)
		told = append(told, put(i+1, begun(t, k, 0, 0)))
	}
	got := func(seq int) api.Note { return api.Note{What: api.Got, Seq: seq} }
	wantNote(t, "none", n, 0, api.OK, got(0))
	wantNotes(t, "none", n, 0, 0, told...)
	wantNote(t, "more than were told", n, 5, api.OK, got(4), got(api.MaxTime))
	wantNotes(t, "more than were told", n, 5, 0, told...)
	wantNote(t, "two", n, 6, api.OK, got(2))
	wantNotes(t, "two", n, 10, 0, told[2])
	wantNote(t, "one, late", n, 11, api.OK, got(1))
	wantNotes(t, "one, late", n, 15, 0, told[2])
	wantNote(t, "all", n, 15, api.OK, got(3), got(2))
	wantNotes(t, "all", n, 29, 0)
}

// TestNoteWant: all flows are told, and All; a Standby tells them, too.
func TestNoteWant(t *testing.T) {
	a, b := flowOf(api.Stream, 5, 50, 3), flowOf(api.Single, 6, 50, 1)
	all := func(seq int) api.Note { return api.Note{What: api.All, Seq: seq} }
	want := func(seq int) api.Note { return api.Note{What: api.Want, Seq: seq} }

	n := with(t, a, b)
	wantNote(t, "without a number", n, 1, api.OK, want(0))
	wantNotes(t, "without a number", n, 1, 2, put(1, a), put(2, b), all(3))
	wantFlows(t, "flows stay", n, 1, a, b)

	n = with(t, a, b)
	wantNote(t, "the next one", n, 1, api.OK, want(3))
	wantNotes(t, "the next one", n, 1, 3, put(1, a), put(2, b), all(3))
	wantNote(t, "the same once more", n, 2, api.OK, want(3))
	wantNotes(t, "the same once more", n, 2, 3)
	wantNote(t, "one that waits", n, 2, api.OK, want(5))
	wantNotes(t, "one that waits", n, 2, 3)
	wantNote(t, "the one ahead of it", n, 2, api.OK, gone(4, a.Key))
	wantNotes(t, "the one ahead of it", n, 2, 5, put(4, b), all(5))

	n = standby(t, "")
	wantNote(t, "of none", n, 0, api.OK, want(1))
	wantNotes(t, "of none", n, 0, 1, all(1))
}

// TestNoteAll: it changes nothing, but that it was heard, and so those behind it need not wait.
func TestNoteAll(t *testing.T) {
	a, b := flowOf(api.Stream, 5, 50, 3), flowOf(api.Single, 6, 50, 1)
	n := with(t, a)
	wantNote(t, "one behind it", n, 0, api.OK, put(3, b))
	wantFlows(t, "one behind it", n, 0, a)
	wantNote(t, "All", n, 0, api.OK, api.Note{What: api.All, Seq: 2})
	wantFlows(t, "All", n, 0, a, b)
	wantNotes(t, "All", n, 0, 3)
	wantEvents(t, "All", n)
}

// TestNoteErrors: those ahead of what is none count, those behind do not.
func TestNoteErrors(t *testing.T) {
	a, b := flowOf(api.Stream, 5, 50, 3), flowOf(api.Single, 6, 50, 1)
	first, second := noteBytes(t, put(1, a)), noteBytes(t, put(2, b))
	wrong := map[string][]byte{
		"What 0":          {0},
		"What below 0":    {1, 2},
		"What 6":          {12, 2},
		"a number":        {2, 128, 0},
		"a needless byte": {6, 129, 0},
		"no flow":         {2, 2, 0, 0, 0, 0, 0, 0, 0, 0, 0, 0, 0, 0, 0, 0},
		"a great number":  {6, 255, 255, 255, 255, 127},
	}
	for what, wrong := range wrong {
		n := standby(t, keepAll)
		wantNoteBytes(t, what, n, 0, api.ErrSyntax, wrong)
		wantFlows(t, what, n, 0)
		wantNotes(t, what, n, 0, 0)
		wantNoteBytes(t, what+", between others", n, 0, api.ErrSyntax, slices.Concat(first, wrong, second))
		wantFlows(t, what+", between others", n, 0, a)
		wantNotes(t, what+", between others", n, 0, 1)
	}
	for short := 1; short < len(second); short++ {
		n := standby(t, keepAll)
		wantNoteBytes(t, "cut off", n, 0, api.ErrSyntax, slices.Concat(first, second[:short]))
		wantFlows(t, "cut off", n, 0, a)
		wantNotes(t, "cut off", n, 0, 1)
	}
	n := standby(t, keepAll)
	wantNoteBytes(t, "none", n, 0, api.OK, nil)
	wantNoteBytes(t, "none", n, 0, api.OK, []byte{})
	wantNoteBytes(t, "two", n, 0, api.OK, slices.Concat(first, second))
	wantFlows(t, "two", n, 0, a, b)
}

// TestGoneByTime: a Master tells of flows that are over, first of all, by any call with a now, also by one that has an error then.
func TestGoneByTime(t *testing.T) {
	calls := timed(t)
	delete(calls, "Reset") // behind it what was told ahead is told no more
	b := firstBytes(t, keyOf(api.Single, 5))
	calls["Packet, way"] = func(n *Node, now int) (bool, error) { _, err := n.Packet(b, api.Any, now); return true, err }
	calls["Packet, bytes"] = func(n *Node, now int) (bool, error) { _, err := n.Packet(b[1:], api.In, now); return true, err }
	calls["Note, bytes"] = func(n *Node, now int) (bool, error) { return true, n.Note([]byte{0}, now) }
	a, c, d := flowOf(api.Stream, 5, 40, 1), flowOf(api.Echo, 4, 39, 1), flowOf(api.Single, 7, 40, 1)
	stays := flowOf(api.Stream, 9, 900, 1)
	for one, call := range calls {
		for _, isMaster := range []bool{true, false} {
			n := with(t, a, stays, d, c)
			wantLoad(t, n, blockAll)
			if isMaster {
				grant(t, n, far, 0)
			}
			wantNotes(t, "nothing is over", n, 38, 4)
			call(n, 40)
			var told []api.Note
			if isMaster {
				told = []api.Note{gone(1, a.Key), gone(2, d.Key), gone(3, c.Key)}
			}
			wantNotes(t, one, n, 45, 4, told...) // 5 behind it, as Notes tells them at once
			wantFlows(t, one, n, 45, stays)
		}
	}
}

// TestGoneByRole: whether they are told hangs on the role at that time, not on that at which they came.
func TestGoneByRole(t *testing.T) {
	f := flowOf(api.Single, 5, 40, 1)
	n := with(t, f)
	grant(t, n, 40, 0)
	wantFlows(t, "still Master", n, 39, f)
	wantNotes(t, "not Master any more", n, 40, 1)

	n = with(t, f)
	grant(t, n, 41, 39)
	wantNotes(t, "Master by now", n, 40, 1, gone(1, f.Key))
}

// TestGoneAheadOfPacket: a flow that is over is told as Gone ahead of the one that begins by the same key.
func TestGoneAheadOfPacket(t *testing.T) {
	n := master(t, keepAll)
	k := keyOf(api.Single, 5)
	wantPassed(t, "begins", n, firstBytes(t, k), api.In, 0)
	wantPassed(t, "begins again", n, firstBytes(t, k), api.In, 30)
	wantNotes(t, "begins again", n, 30, 0, put(1, begun(t, k, 0, 0)), gone(2, k), put(3, begun(t, k, 0, 30)))
}

// TestGoneAheadOfNote: a flow that is over is told as Gone, also if a newer one of it comes just then.
func TestGoneAheadOfNote(t *testing.T) {
	f, newer := flowOf(api.Single, 5, 40, 1), flowOf(api.Single, 5, 70, 2)
	n := with(t, f)
	grant(t, n, far, 0)
	wantNote(t, "a newer one", n, 40, api.OK, put(2, newer))
	wantFlows(t, "a newer one", n, 40, newer)
	wantNotes(t, "a newer one", n, 40, 2, gone(1, f.Key))
}

// TestTellerFull: what the teller has no room for is not told, and passes all the same.
func TestTellerFull(t *testing.T) {
	n := master(t, keepAll)
	k := keyOf(api.Single, 5)
	for range api.MaxList + 10 {
		wantPassed(t, "again and again", n, firstBytes(t, k), api.In, 0)
	}
	b, err := n.Notes(0)
	if l := notesOf(b); err != nil || len(l) != api.MaxList+1 || l[api.MaxList-1].Seq != api.MaxList {
		t.Errorf("Notes: got %d, %v, want %d and Got", len(l), err, api.MaxList)
	}
	if got, err := n.Flows(0); err != nil || len(got) != 1 || got[0].Stamp != api.MaxList+10 {
		t.Errorf("Flows: got %v, %v", got, err)
	}
	wantNote(t, "room for two", n, 1, api.OK, api.Note{What: api.Got, Seq: 2}, api.Note{What: api.Want})
	f := begun(t, k, 0, 0)
	f.Stamp = api.MaxList + 10
	wantNotes(t, "room for two", n, 1, 0, put(201, f), api.Note{What: api.All, Seq: 202})
	wantNote(t, "room for one", n, 1, api.OK, api.Note{What: api.Got, Seq: 3}, api.Note{What: api.Want})
	wantNotes(t, "room for one", n, 1, 0, put(203, f))
	wantFlows(t, "no room for Gone", n, 30)
	wantNote(t, "all were heard of", n, 30, api.OK, api.Note{What: api.Got, Seq: 203})
	wantNotes(t, "it is not told later", n, 40, 0)
}

func TestReset(t *testing.T) {
	a, b := flowOf(api.Stream, 5, 50, 3), flowOf(api.Single, 6, 50, 1)
	for _, isMaster := range []bool{true, false} {
		n := with(t, a, b)
		wantNote(t, "one that waits", n, 0, api.OK, gone(4, a.Key))
		if isMaster {
			grant(t, n, far, 0)
		}
		wantNote(t, "Want", n, 0, api.OK, api.Note{What: api.Want})
		wantReset(t, "all flows are told, anew", n, 1)
		wantFlows(t, "flows stay", n, 1, a, b)
		wantNotes(t, "all flows are told, anew", n, 1, 0, put(1, a), put(2, b))
		wantNote(t, "heard anew", n, 2, api.OK, gone(1, b.Key))
		wantNotes(t, "heard anew", n, 2, 1)
		wantNote(t, "none waits", n, 2, api.OK, put(2, b), put(3, b))
		wantNotes(t, "none waits", n, 2, 3)
		wantFlows(t, "none waits", n, 2, a, b)
		wantNote(t, "of those ahead", n, 3, api.OK, api.Note{What: api.Got, Seq: 3})
		wantNotes(t, "of those ahead", n, 6, 3, put(1, a), put(2, b))
		wantReset(t, "what is over is not told", n, 50)
		wantNotes(t, "what is over is not told", n, 50, 0)
	}
}

// TestResetKeeps: rules, pieces, the role and events stay.
func TestResetKeeps(t *testing.T) {
	n := master(t, "block kind echo from any to any\n")
	k, echo := keyOf(api.Single, 5), keyOf(api.Echo, 5)
	whole, pieces := cutUp(t, k, 7)
	last := len(pieces) - 1
	for _, p := range pieces[:last] {
		wantOut(t, "a piece", n, bytesOf(t, p), api.In, 1, nil)
	}
	wantReset(t, "among pieces", n, 2)
	wantOut(t, "the last one", n, bytesOf(t, pieces[last]), api.In, 3, stepped(t, bytesOf(t, whole)))
	wantBlocked(t, "by rules", n, firstBytes(t, echo), api.In, 3, echo)
	wantEvents(t, "all", n, rose(1), passed(3, k), api.Event{Time: 3, Node: id, What: api.Blocked, Key: echo})
}

// TestFlows: all, by First of their keys.
func TestFlows(t *testing.T) {
	n := master(t, keepAll)
	back := seg.Turn(keyOf(api.Single, 5))
	keys := []api.Key{keyOf(api.Echo, 5), back, keyOf(api.Single, 6), keyOf(api.Stream, 7)}
	var flows []api.Flow
	for _, k := range keys {
		wantPassed(t, "begins", n, firstBytes(t, k), api.In, 0)
		flows = append(flows, begun(t, k, 0, 0))
	}
	wantFlows(t, "all", n, 9, flows[3], flows[1], flows[2], flows[0])
	wantFlows(t, "the echo is over", n, 10, flows[3], flows[1], flows[2])
	wantFlows(t, "all are over", n, 30)
}

// TestRoseAndFell: by any call with a now, ahead of what it does.
func TestRoseAndFell(t *testing.T) {
	k := keyOf(api.Single, 5)
	for one, call := range timed(t) {
		for which := range 2 {
			n, err := New(which, prio, nil)
			if err != nil {
				t.Fatal(err)
			}
			at := func(e api.Event) api.Event {
				e.Node = which
				return e
			}
			step := func(now int, more ...api.Event) {
				t.Helper()
				want := n.Events()
				for _, e := range more {
					if e.What != api.Passed || one == "Packet" {
						want = append(want, at(e))
					}
				}
				if _, err := call(n, now); err != nil {
					t.Errorf("%s at %d: got %v", one, now, err)
				}
				wantEvents(t, one, n, want...)
			}
			step(0)
			grant(t, n, 10, 1)
			wantEvents(t, "till a call with a now", n)
			step(2, rose(2), passed(2, k))
			step(9, passed(9, k))
			step(10, fell(10))
			step(11)
			grant(t, n, 20, 12)
			step(12, rose(12), passed(12, k))
			grant(t, n, 0, 12)
			grant(t, n, 30, 12)
			step(13, passed(13, k)) // it was no other one at a call with a now
			grant(t, n, 0, 14)
			step(14, fell(14))
		}
	}
}

// TestEventsOfOthers: calls without a now find no role.
func TestEventsOfOthers(t *testing.T) {
	n := master(t, passAll)
	wantLoad(t, n, blockAll)
	n.Vote()
	wantEvents(t, "no call with a now", n)
}

// TestMemory: what comes out is the caller's, and what was handed in is not kept, nor changed.
func TestMemory(t *testing.T) {
	n := master(t, keepAll)
	k := keyOf(api.Single, 5)
	wantPassed(t, "begins", n, firstBytes(t, k), api.In, 0)
	f := begun(t, k, 0, 0)
	events := n.Events()
	events[0], events[1] = api.Event{}, api.Event{}
	_ = append(n.Events(), api.Event{Time: 9})
	wantEvents(t, "spoilt", n, rose(0), passed(0, k))
	flows, err := n.Flows(0)
	if err != nil {
		t.Fatal(err)
	}
	flows[0] = api.Flow{}
	wantFlows(t, "spoilt", n, 0, f)
	b, err := n.Notes(0)
	if err != nil {
		t.Fatal(err)
	}
	clear(b)
	wantNotes(t, "spoilt", n, 5, 0, put(1, f))

	waits := flowOf(api.Stream, 6, 50, 1)
	b = noteBytes(t, put(2, waits))
	was := slices.Clone(b)
	wantNoteBytes(t, "waits", n, 5, api.OK, b)
	if !bytes.Equal(b, was) {
		t.Errorf("the bytes have become %v", b)
	}
	clear(b)
	wantNote(t, "the first", n, 5, api.OK, api.Note{What: api.All, Seq: 1})
	wantFlows(t, "spoilt", n, 5, waits, f)
}

// TestAnyNotes: none panics, and each answers ErrSyntax or nothing.
func TestAnyNotes(t *testing.T) {
	r := rand.New(rand.NewSource(161))
	n := master(t, keepAll)
	errs := 0
	for now := range 20000 {
		var b []byte
		for range r.Intn(4) {
			f := flowOf(kinds()[r.Intn(3)], r.Intn(40), now+r.Intn(50), 1+r.Intn(5))
			b = append(b, noteBytes(t, []api.Note{
				put(now/4+r.Intn(4), f), gone(now/4+r.Intn(4), f.Key),
				{What: api.Got, Seq: r.Intn(now + 1)}, {What: api.Want, Seq: r.Intn(now + 1)},
			}[r.Intn(4)])...)
		}
		for range r.Intn(2) * min(len(b), 1) {
			b[r.Intn(len(b))] = byte(r.Intn(256))
		}
		err := n.Note(b, now)
		if err != nil {
			errs++
		}
		if got := plain.Told(err); got != api.OK && got != api.ErrSyntax {
			t.Fatalf("Note(%v): got %v", b, err)
		}
		if out, err := n.Notes(now); err != nil || len(out) == 0 {
			t.Fatalf("Notes: got %v, %v", out, err)
		}
	}
	if errs < 1000 {
		t.Errorf("just %d were wrong", errs)
	}
}
