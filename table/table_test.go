package table

import (
	"bytes"
	"math"
	"slices"
	"testing"

	"portcullis/api"
	"portcullis/plain"
	"portcullis/seg"
	"portcullis/track"
)

const (
	here  = 10<<24 | 1
	there = 192<<24 | 168<<16 | 7
)

func kinds() []int {
	return []int{api.Stream, api.Single, api.Echo}
}

// keyOf is an ordinary key of a kind, another one for each port.
func keyOf(kind, port int) api.Key {
	if kind == api.Echo {
		return api.Key{Kind: kind, Src: here, From: port, Dst: there, To: port}
	}
	return api.Key{Kind: kind, Src: here, From: port, Dst: there, To: 80}
}

// firstOf is what a key's Src may say first.
func firstOf(k api.Key) api.Segment {
	switch k.Kind {
	case api.Stream:
		return api.Segment{From: k.From, To: k.To, Seq: 1000, Win: 500, Flags: api.Syn, Body: []byte{1, 2, 3}}
	case api.Single:
		return api.Segment{From: k.From, To: k.To, Body: []byte{1, 2, 3}}
	}
	return api.Segment{To: k.To, Seq: 9, Body: []byte{1, 2, 3}}
}

// answerOf is what a key's Dst may say behind that.
func answerOf(k api.Key) api.Segment {
	switch k.Kind {
	case api.Stream:
		return api.Segment{From: k.To, To: k.From, Seq: 7000, Ack: 1004, Win: 600, Flags: api.Syn | api.Ack}
	case api.Single:
		return api.Segment{From: k.To, To: k.From, Body: []byte{4}}
	}
	return api.Segment{From: 1, To: k.To, Seq: 9, Body: []byte{4}}
}

// flowOf is an ordinary flow of a key.
func flowOf(k api.Key, until, stamp int) api.Flow {
	f := api.Flow{Key: k, State: api.Both, Until: until, Stamp: stamp, Number: 4}
	if k.Kind == api.Stream {
		f.High, f.Win, f.Done = [2]int{1004, 7001}, [2]int{500, 600}, [2]bool{true, false}
		f.State = api.Half
	}
	return f
}

func made(t *testing.T, most int) *Table {
	t.Helper()
	l, err := New(most)
	if err != nil || l == nil {
		t.Fatalf("New(%d): got %v, %v, want one", most, l, err)
	}
	wantAll(t, "a new one", l)
	return l
}

// with is a table that has adopted flows at the time 0.
func with(t *testing.T, most int, flows ...api.Flow) *Table {
	t.Helper()
	l := made(t, most)
	for _, f := range flows {
		wantAdopt(t, "with", l, f, 0, true)
	}
	return l
}

// wantAll wants just these flows, in this order, by all that tells of them.
func wantAll(t *testing.T, what string, l *Table, want ...api.Flow) {
	t.Helper()
	if got := l.All(); !slices.Equal(got, want) {
		t.Errorf("%s: All: got %v, want %v", what, got, want)
	}
	if l.Len() != len(want) {
		t.Errorf("%s: Len: got %d, want %d", what, l.Len(), len(want))
	}
	for _, f := range want {
		for _, k := range []api.Key{f.Key, seg.Turn(f.Key)} {
			if got, err := l.Get(k); got != f || err != nil {
				t.Errorf("%s: Get(%v): got %v, %v, want %v", what, k, got, err, f)
			}
		}
	}
}

func wantNone(t *testing.T, what string, l *Table, k api.Key) {
	t.Helper()
	for _, k := range []api.Key{k, seg.Turn(k)} {
		if got, err := l.Get(k); got != (api.Flow{}) || plain.Told(err) != api.ErrNone {
			t.Errorf("%s: Get(%v): got %v, %v, want ErrNone", what, k, got, err)
		}
	}
}

func wantTick(t *testing.T, what string, l *Table, now int, want ...api.Key) {
	t.Helper()
	got, err := l.Tick(now)
	if !slices.Equal(got, want) || err != nil {
		t.Errorf("%s: Tick(%d): got %v, %v, want %v", what, now, got, err, want)
	}
}

// wantBegin wants the flow that chapter 11 tells.
func wantBegin(t *testing.T, what string, l *Table, k api.Key, now int) api.Flow {
	t.Helper()
	want, err := track.Begin(k, firstOf(k), 3, now)
	if err != nil {
		t.Fatalf("%s: track's Begin: %v", what, err)
	}
	got, err := l.Begin(k, firstOf(k), 3, now)
	if got != want || err != nil {
		t.Errorf("%s: Begin at %d: got %v, %v, want %v", what, now, got, err, want)
	}
	return want
}

// wantOffer wants the flow that chapter 11 tells of the side.
func wantOffer(t *testing.T, what string, l *Table, k api.Key, s api.Segment, now int, f api.Flow, side int) api.Flow {
	t.Helper()
	want, err := track.Step(f, s, side, now)
	if err != nil {
		t.Fatalf("%s: track's Step: %v", what, err)
	}
	got, err := l.Offer(k, s, now)
	if got != want || err != nil {
		t.Errorf("%s: Offer at %d: got %v, %v, want %v", what, now, got, err, want)
	}
	return want
}

func wantAdopt(t *testing.T, what string, l *Table, f api.Flow, now int, want bool) {
	t.Helper()
	got, err := l.Adopt(f, now)
	if got != want || err != nil {
		t.Errorf("%s: Adopt of %v at %d: got %v, %v, want %v", what, f, now, got, err, want)
	}
}

func wantBeginRefused(t *testing.T, what string, l *Table, k api.Key, s api.Segment, rule, now int, want api.Errno) {
	t.Helper()
	ahead := l.All()
	got, err := l.Begin(k, s, rule, now)
	if got != (api.Flow{}) || plain.Told(err) != want {
		t.Errorf("%s: Begin at %d: got %v, %v, want %v", what, now, got, err, want)
	}
	wantAll(t, what+": Begin refused", l, ahead...)
}

func wantOfferRefused(t *testing.T, what string, l *Table, k api.Key, s api.Segment, now int, want api.Errno) {
	t.Helper()
	ahead := l.All()
	got, err := l.Offer(k, s, now)
	if got != (api.Flow{}) || plain.Told(err) != want {
		t.Errorf("%s: Offer at %d: got %v, %v, want %v", what, now, got, err, want)
	}
	wantAll(t, what+": Offer refused", l, ahead...)
}

func wantAdoptRefused(t *testing.T, what string, l *Table, f api.Flow, now int, want api.Errno) {
	t.Helper()
	ahead := l.All()
	got, err := l.Adopt(f, now)
	if got || plain.Told(err) != want {
		t.Errorf("%s: Adopt at %d: got %v, %v, want %v", what, now, got, err, want)
	}
	wantAll(t, what+": Adopt refused", l, ahead...)
}

func wantTickRefused(t *testing.T, what string, l *Table, now int, want api.Errno) {
	t.Helper()
	ahead := l.All()
	got, err := l.Tick(now)
	if len(got) != 0 || plain.Told(err) != want {
		t.Errorf("%s: Tick(%d): got %v, %v, want %v", what, now, got, err, want)
	}
	wantAll(t, what+": Tick refused", l, ahead...)
}

// outside are numbers that are not from low to high.
func outside(low, high int) []int {
	return []int{low - 1, high + 1, math.MinInt, math.MaxInt, low - 1<<32, high + 1<<32}
}

// L1: how many

// TestNew: from 1 to 30 flows.
func TestNew(t *testing.T) {
	for most := 1; most <= 30; most++ {
		made(t, most)
	}
	for _, most := range outside(1, 30) {
		if l, err := New(most); l != nil || plain.Told(err) != api.ErrRange {
			t.Errorf("New(%d): got %v, %v, want ErrRange", most, l, err)
		}
	}
}

// TestFull: as many as max are kept, begun or adopted, and not one more.
func TestFull(t *testing.T) {
	for most := 1; most <= 30; most++ {
		l := made(t, most)
		var want []api.Flow
		for i := range most {
			k := keyOf(api.Single, i)
			if i%2 == 0 {
				want = append(want, wantBegin(t, "to the full", l, k, 0))
				continue
			}
			f := flowOf(k, 50, 1)
			wantAdopt(t, "to the full", l, f, 0, true)
			want = append(want, f)
		}
		other := keyOf(api.Single, most)
		wantBeginRefused(t, "full", l, other, firstOf(other), 3, 0, api.ErrFull)
		wantAdoptRefused(t, "full", l, flowOf(other, 50, 1), 0, api.ErrFull)
		wantAll(t, "full", l, want...)
		// One place is left again.
		if !l.Drop(want[0].Key) {
			t.Errorf("Drop of %v: got false", want[0].Key)
		}
		want = append(want[1:], wantBegin(t, "no more full", l, other, 0))
		wantAll(t, "full again", l, want...)
	}
}

// TestFullOfGone: what is gone by now takes no place.
func TestFullOfGone(t *testing.T) {
	k, other := keyOf(api.Single, 5), keyOf(api.Single, 6)
	l := with(t, 1, flowOf(k, 20, 1))
	wantBeginRefused(t, "ahead of Until", l, other, firstOf(other), 3, 19, api.ErrFull)
	wantAdoptRefused(t, "ahead of Until", l, flowOf(other, 90, 1), 19, api.ErrFull)
	wantAll(t, "at Until", l, flowOf(k, 20, 1))
	f := wantBegin(t, "at Until", l, other, 20)
	wantAll(t, "at Until", l, f)

	l = with(t, 1, flowOf(k, 20, 1))
	wantAdopt(t, "at Until", l, flowOf(other, 90, 1), 20, true)
	wantAll(t, "at Until", l, flowOf(other, 90, 1))
}

// TestOnePlaceBothWays: a flow and one of the turned key have one place.
func TestOnePlaceBothWays(t *testing.T) {
	for _, kind := range kinds() {
		for _, k := range []api.Key{keyOf(kind, 5), seg.Turn(keyOf(kind, 5))} {
			l := made(t, 30)
			f := wantBegin(t, "one way", l, k, 0)
			wantBeginRefused(t, "again", l, k, firstOf(k), 3, 0, api.ErrClash)
			turned := seg.Turn(k)
			wantBeginRefused(t, "turned", l, turned, firstOf(turned), 3, 0, api.ErrClash)
			wantAll(t, "one place", l, f)
			wantAdopt(t, "turned", l, flowOf(turned, 40, 2), 0, true)
			wantAll(t, "turned", l, flowOf(turned, 40, 2))
		}
	}
}

// L1: time

// TestTimeRange: each call with a now, ahead of all that is wrong besides.
func TestTimeRange(t *testing.T) {
	k := keyOf(api.Stream, 5)
	for _, now := range outside(0, api.MaxTime) {
		l := with(t, 1, flowOf(k, 50, 4))
		wantTime(t, l, now, api.ErrRange)
	}
	for _, now := range []int{0, 1, api.MaxTime - 1, api.MaxTime} {
		wantTick(t, "in range", made(t, 1), now)
		wantBegin(t, "in range", made(t, 1), k, now)
		wantAdopt(t, "in range", made(t, 1), flowOf(k, 2*api.MaxTime, 4), now, true)
		l := with(t, 1, flowOf(keyOf(api.Single, 5), 2*api.MaxTime, 4))
		wantOffer(t, "in range", l, keyOf(api.Single, 5), firstOf(keyOf(api.Single, 5)), now, l.All()[0], 0)
	}
}

// wantTime wants an error of the time by each call, whatever else it is given: what would be right, and what is wrong in other ways.
func wantTime(t *testing.T, l *Table, now int, want api.Errno) {
	t.Helper()
	wantTickRefused(t, "time", l, now, want)
	for _, k := range []api.Key{keyOf(api.Stream, 5), keyOf(api.Stream, 6), keyOf(9, 6)} {
		for _, s := range []api.Segment{firstOf(k), {From: -1}} {
			wantBeginRefused(t, "time", l, k, s, 3, now, want)
			wantBeginRefused(t, "time", l, k, s, -2, now, want)
			wantOfferRefused(t, "time", l, k, s, now, want)
		}
		wantAdoptRefused(t, "time", l, flowOf(k, 90, 9), now, want)
		wantAdoptRefused(t, "time", l, flowOf(k, 90, 0), now, want)
		wantAdoptRefused(t, "time", l, flowOf(k, 0, 1), now, want)
	}
}

// TestTimeGoesOn: each call without an error moves the time: less is refused, the same is not.
func TestTimeGoesOn(t *testing.T) {
	k, other := keyOf(api.Single, 5), keyOf(api.Single, 6)
	for i, move := range []func(l *Table, now int){
		func(l *Table, now int) { wantTick(t, "move", l, now) },
		func(l *Table, now int) { wantBegin(t, "move", l, other, now) },
		func(l *Table, now int) { wantOffer(t, "move", l, k, firstOf(k), now, l.All()[0], 0) },
		func(l *Table, now int) { wantAdopt(t, "move", l, flowOf(other, 999, 1), now, true) },
		func(l *Table, now int) { wantAdopt(t, "move, not adopted", l, flowOf(other, now, 1), now, false) },
		func(l *Table, now int) { wantAdopt(t, "move, not adopted", l, flowOf(k, 999, 3), now, false) },
	} {
		l := with(t, 2, flowOf(k, 900, 3))
		move(l, 70)
		wantTime(t, l, 69, api.ErrState)
		wantTime(t, l, 0, api.ErrState)
		wantTime(t, l, -1, api.ErrRange)
		wantTime(t, l, api.MaxTime+1, api.ErrRange)
		if keys, err := l.Tick(70); len(keys) != 0 || err != nil {
			t.Errorf("call %d: the same time: got %v, %v", i, keys, err)
		}
		wantTick(t, "later", l, 71)
		wantTickRefused(t, "back", l, 70, api.ErrState)
	}
}

// TestTimeOfErrors: a call with an error moves no time, and nothing is gone by it.
func TestTimeOfErrors(t *testing.T) {
	k, old, other := keyOf(api.Single, 5), keyOf(api.Single, 6), keyOf(api.Single, 7)
	kept, gone := flowOf(k, 900, 3), flowOf(old, 50, 3)
	for _, refuse := range []func(l *Table){
		func(l *Table) { wantTickRefused(t, "ErrRange", l, api.MaxTime+1, api.ErrRange) },
		func(l *Table) { wantBeginRefused(t, "rule", l, other, firstOf(other), 201, 60, api.ErrRange) },
		func(l *Table) { wantBeginRefused(t, "shape", l, other, firstOf(k), 3, 60, api.ErrShape) },
		func(l *Table) { wantBeginRefused(t, "clash", l, k, firstOf(k), 3, 60, api.ErrClash) },
		func(l *Table) { wantOfferRefused(t, "none", l, other, firstOf(other), 60, api.ErrNone) },
		func(l *Table) { wantOfferRefused(t, "gone", l, old, firstOf(old), 60, api.ErrNone) },
		func(l *Table) { wantOfferRefused(t, "shape", l, k, firstOf(old), 60, api.ErrShape) },
		func(l *Table) { wantAdoptRefused(t, "range", l, flowOf(other, 90, 0), 60, api.ErrRange) },
		func(l *Table) { wantAdoptRefused(t, "kind", l, flowOf(keyOf(4, 7), 90, 1), 60, api.ErrRange) },
	} {
		l := with(t, 2, kept, gone)
		refuse(l)
		wantAll(t, "behind an error", l, kept, gone)
		wantTick(t, "behind an error", l, 40)
		wantTickRefused(t, "then", l, 39, api.ErrState)
		wantTick(t, "at last", l, 60, old)
	}
	// What is full at a time stays as it was, too.
	l := with(t, 2, kept, flowOf(other, 900, 3))
	wantTick(t, "full", l, 10)
	fourth := keyOf(api.Single, 8)
	wantBeginRefused(t, "full", l, fourth, firstOf(fourth), 3, 60, api.ErrFull)
	wantAdoptRefused(t, "full", l, flowOf(fourth, 900, 1), 60, api.ErrFull)
	wantTick(t, "full", l, 10)
	wantTickRefused(t, "full", l, 9, api.ErrState)
}

// TestGone: at Until and behind it, not ahead of it, by any call with a now; told by Tick alone, and once.
func TestGone(t *testing.T) {
	k, stays, other := keyOf(api.Stream, 5), keyOf(api.Single, 6), keyOf(api.Single, 7)
	f, kept := flowOf(k, 50, 3), flowOf(stays, 900, 3)

	l := with(t, 3, f, kept)
	wantTick(t, "ahead of Until", l, 49)
	wantAll(t, "ahead of Until", l, f, kept)
	wantTick(t, "at Until", l, 50, k)
	wantAll(t, "at Until", l, kept)
	wantNone(t, "at Until", l, k)
	wantTick(t, "at Until again", l, 50)

	l = with(t, 3, f, kept)
	wantTick(t, "long behind Until", l, 800, k)
	wantAll(t, "long behind Until", l, kept)

	for _, call := range []func(l *Table, now int){
		func(l *Table, now int) { wantBegin(t, "going", l, other, now) },
		func(l *Table, now int) { wantOffer(t, "going", l, stays, firstOf(stays), now, kept, 0) },
		func(l *Table, now int) { wantAdopt(t, "going", l, flowOf(other, 900, 1), now, true) },
		func(l *Table, now int) { wantAdopt(t, "going", l, flowOf(stays, 999, 3), now, false) },
	} {
		l := with(t, 3, f, kept)
		call(l, 49)
		if got, err := l.Get(k); got != f || err != nil {
			t.Errorf("ahead of Until: got %v, %v, want %v", got, err, f)
		}
		l = with(t, 3, f, kept)
		call(l, 50)
		wantNone(t, "gone", l, k)
		wantTick(t, "gone", l, 50)
	}
}

// TestGoneByCalls: to the call that has the time, what is gone by then is not there.
func TestGoneByCalls(t *testing.T) {
	for _, kind := range kinds() {
		k := keyOf(kind, 5)
		f := flowOf(k, 50, 9)
		wantOfferRefused(t, "gone", with(t, 1, f), k, firstOf(k), 50, api.ErrNone)
		wantOfferRefused(t, "gone", with(t, 1, f), seg.Turn(k), answerOf(k), 50, api.ErrNone)
		wantBeginRefused(t, "not gone", with(t, 1, f), k, firstOf(k), 3, 49, api.ErrClash)

		l := with(t, 1, f)
		then := wantBegin(t, "begun anew", l, k, 50)
		wantAll(t, "begun anew", l, then)

		l = with(t, 1, f)
		wantAdopt(t, "a later one", l, flowOf(k, 99, 9), 49, false)
		wantAdopt(t, "behind one that is gone", l, flowOf(k, 99, 1), 50, true)
		wantAll(t, "behind one that is gone", l, flowOf(k, 99, 1))
	}
}

// TestDropNeedsNoTime: Drop, Get, All and Len tell of the last now.
func TestDropNeedsNoTime(t *testing.T) {
	k := keyOf(api.Single, 5)
	l := with(t, 2, flowOf(k, 50, 1))
	wantTick(t, "ahead", l, 49)
	if !l.Drop(k) || l.Drop(k) || l.Len() != 0 {
		t.Errorf("Drop: not once; %d are left", l.Len())
	}
	wantTick(t, "dropped", l, 50)

	l = with(t, 2, flowOf(k, 50, 1))
	wantTick(t, "gone", l, 50, k)
	if l.Drop(k) {
		t.Error("Drop of what is gone: got true")
	}
}

// steps are keys in their order, each less than the next by one part alone, the parts behind it being greater.
func steps() []api.Key {
	return []api.Key{
		{Kind: 1, Src: 9, From: 9, Dst: 19, To: 9},
		{Kind: 2, Src: 1, From: 9, Dst: 19, To: 9},
		{Kind: 2, Src: 2, From: 1, Dst: 19, To: 9},
		{Kind: 2, Src: 2, From: 2, Dst: 11, To: 9},
		{Kind: 2, Src: 2, From: 2, Dst: 12, To: 1},
		{Kind: 2, Src: 2, From: 2, Dst: 12, To: 2},
		{Kind: 2, Src: 2, From: 2, Dst: 12, To: 10},
		{Kind: 3, Src: 0, From: 0, Dst: 0, To: 0},
	}
}

// TestOrder: Tick tells by Key, as it began; All by First of it.
func TestOrder(t *testing.T) {
	keys := steps()
	var flows []api.Flow
	for _, k := range keys {
		flows = append(flows, flowOf(k, 50, 1))
	}
	mixed := slices.Clone(flows)
	for i := range mixed {
		mixed = append(mixed[1:], mixed[0])
		if i%2 == 0 {
			mixed[1], mixed[4] = mixed[4], mixed[1]
		}
		l := with(t, 30, mixed...)
		wantAll(t, "in order", l, flows...)
		wantTick(t, "in order", l, 50, keys...)
	}
}

// TestOrderTurned: a flow that began at the greater end stands by its Key in Tick, and by First of it in All.
func TestOrderTurned(t *testing.T) {
	low := api.Key{Kind: api.Single, Src: 1, From: 5, Dst: 9, To: 5}
	turned := api.Key{Kind: api.Single, Src: 8, From: 5, Dst: 0, To: 5}
	high := api.Key{Kind: api.Single, Src: 3, From: 5, Dst: 9, To: 5}
	l := with(t, 30, flowOf(high, 50, 1), flowOf(turned, 50, 1), flowOf(low, 50, 1))
	wantAll(t, "by First", l, flowOf(turned, 50, 1), flowOf(low, 50, 1), flowOf(high, 50, 1))
	wantTick(t, "by Key", l, 50, low, high, turned)
}

// L2: Begin

// TestBegin: chapter 11's flow is kept.
func TestBegin(t *testing.T) {
	for _, kind := range kinds() {
		l := made(t, 2)
		k := keyOf(kind, 5)
		f := wantBegin(t, "Begin", l, k, 7)
		wantAll(t, "Begin", l, f)
		wantTick(t, "Begin", l, f.Until-1)
		wantTick(t, "Begin", l, f.Until, k)
	}
}

// TestBeginRefused: chapter 11's errors, then ErrClash, then ErrFull.
func TestBeginRefused(t *testing.T) {
	k, other := keyOf(api.Stream, 5), keyOf(api.Stream, 6)
	ack := firstOf(k)
	ack.Flags |= api.Ack
	long := firstOf(k)
	long.Body = make([]byte, api.MaxBody)
	for _, c := range []struct {
		what string
		k    api.Key
		s    api.Segment
		rule int
		want api.Errno
	}{
		{"rule", k, firstOf(k), -2, api.ErrRange},
		{"kind", keyOf(4, 5), firstOf(k), 3, api.ErrRange},
		{"address", api.Key{Kind: api.Stream, Src: -1, From: 5, Dst: there, To: 80}, firstOf(k), 3, api.ErrRange},
		{"long", k, long, 3, api.ErrFull},
		{"ports", other, firstOf(k), 3, api.ErrShape},
		{"flags", k, ack, 3, api.ErrState},
		{"there", k, firstOf(k), 3, api.ErrClash},
		{"full", other, firstOf(other), 3, api.ErrFull},
	} {
		l := with(t, 1, flowOf(k, 50, 1))
		wantBeginRefused(t, c.what, l, c.k, c.s, c.rule, 0, c.want)
	}
}

// L2: Offer

// TestOffer: of side 0 by its Key, of side 1 by the turned one, however the Key lies to its First.
func TestOffer(t *testing.T) {
	for _, kind := range kinds() {
		for _, k := range []api.Key{keyOf(kind, 5), seg.Turn(keyOf(kind, 5))} {
			l := made(t, 2)
			f := wantBegin(t, "Offer", l, k, 7)
			other := wantBegin(t, "another one", l, keyOf(kind, 6), 7)
			f = wantOffer(t, "side 0", l, k, firstOf(k), 8, f, 0)
			f = wantOffer(t, "side 1", l, seg.Turn(k), answerOf(k), 9, f, 1)
			if got, err := l.Get(k); got != f || f.State != api.Both || f.Stamp != 3 || err != nil {
				t.Errorf("Get: got %v, %v, want %v", got, err, f)
			}
			if got, err := l.Get(other.Key); got != other || err != nil {
				t.Errorf("Get of another one: got %v, %v, want %v", got, err, other)
			}
		}
	}
}

// TestOfferWrongSide: what the one side may say the other one may not.
func TestOfferWrongSide(t *testing.T) {
	for _, kind := range kinds() {
		k := keyOf(kind, 5)
		l := made(t, 1)
		wantBegin(t, "Offer", l, k, 7)
		wantOfferRefused(t, "side 1's by the Key", l, k, answerOf(k), 8, api.ErrShape)
		wantOfferRefused(t, "side 0's by the turned Key", l, seg.Turn(k), firstOf(k), 8, api.ErrShape)
	}
}

// TestOfferToItself: from an address to itself an Echo is of side 1 if it answers; others, whose Key is its own turn, are of side 0.
func TestOfferToItself(t *testing.T) {
	k := api.Key{Kind: api.Echo, Src: here, From: 5, Dst: here, To: 5}
	l := made(t, 1)
	f := wantBegin(t, "Echo", l, k, 7)
	f = wantOffer(t, "Echo", l, k, firstOf(k), 8, f, 0)
	f = wantOffer(t, "Echo that answers", l, k, answerOf(k), 9, f, 1)
	f = wantOffer(t, "Echo, again", l, k, firstOf(k), 10, f, 0)
	if f.State != api.Both || f.Stamp != 4 {
		t.Errorf("Echo: got %v", f)
	}
	for _, from := range []int{-1, 2} {
		wantOfferRefused(t, "Echo", l, k, api.Segment{From: from, To: 5}, 11, api.ErrRange)
	}

	for _, port := range []int{1, 5} {
		k = api.Key{Kind: api.Single, Src: here, From: port, Dst: here, To: port}
		l = made(t, 1)
		f = wantBegin(t, "Single", l, k, 7)
		f = wantOffer(t, "Single", l, k, answerOf(k), 8, f, 0)
		if f.State != api.Asked {
			t.Errorf("Single: got %v", f)
		}
	}

	k = api.Key{Kind: api.Stream, Src: here, From: 1, Dst: here, To: 1}
	l = made(t, 1)
	wantBegin(t, "Stream", l, k, 7)
	wantOfferRefused(t, "Stream", l, k, answerOf(k), 8, api.ErrState)

	// With two ports there are two sides, at one address too.
	k = api.Key{Kind: api.Single, Src: here, From: 1, Dst: here, To: 2}
	l = made(t, 1)
	f = wantBegin(t, "Single, two ports", l, k, 7)
	f = wantOffer(t, "Single, two ports", l, k, firstOf(k), 8, f, 0)
	f = wantOffer(t, "Single, two ports", l, seg.Turn(k), answerOf(k), 9, f, 1)
	if f.State != api.Both {
		t.Errorf("Single, two ports: got %v", f)
	}
}

// TestOfferNotToItself: elsewhere an Echo's side is its Key's, whether it answers or not; and a Single from port 1 does not answer.
func TestOfferNotToItself(t *testing.T) {
	k := keyOf(api.Echo, 5)
	l := with(t, 1, flowOf(k, 50, 1))
	wantOfferRefused(t, "answers by its Key", l, k, answerOf(k), 8, api.ErrShape)
	wantOfferRefused(t, "asks by the turned Key", l, seg.Turn(k), firstOf(k), 8, api.ErrShape)

	k = keyOf(api.Single, 1)
	l = made(t, 1)
	f := wantBegin(t, "port 1", l, k, 7)
	wantOffer(t, "port 1", l, k, firstOf(k), 8, f, 0)
}

// TestOfferNone: of another key, or of one that none can have, whatever is said.
func TestOfferNone(t *testing.T) {
	k := keyOf(api.Single, 5)
	l := with(t, 2, flowOf(k, 50, 1), flowOf(keyOf(api.Echo, 5), 50, 1))
	for _, part := range []func(k *api.Key) *int{
		func(k *api.Key) *int { return &k.Kind },
		func(k *api.Key) *int { return &k.Src },
		func(k *api.Key) *int { return &k.From },
		func(k *api.Key) *int { return &k.Dst },
		func(k *api.Key) *int { return &k.To },
	} {
		for _, n := range []int{math.MinInt, -1, 0, 3, 4, 6, 1 << 32, math.MaxInt} {
			other := k
			*part(&other) = n
			wantNone(t, "another one", l, other)
			if l.Drop(other) || l.Drop(seg.Turn(other)) {
				t.Errorf("Drop(%v): got true", other)
			}
			for _, s := range []api.Segment{firstOf(k), answerOf(k), {From: -1}} {
				wantOfferRefused(t, "another one", l, other, s, 3, api.ErrNone)
				wantOfferRefused(t, "another one", l, seg.Turn(other), s, 3, api.ErrNone)
			}
		}
	}
	halves := api.Key{Kind: api.Single, Src: here, From: 80, Dst: there, To: 5}
	wantOfferRefused(t, "ports alone turned", l, halves, firstOf(k), 3, api.ErrNone)
	wantNone(t, "ports alone turned", l, halves)
}

// TestOfferRefused: chapter 11's errors of what is said; the flow stays.
func TestOfferRefused(t *testing.T) {
	k := keyOf(api.Stream, 5)
	l := made(t, 1)
	f := wantBegin(t, "Offer", l, k, 7)
	early := answerOf(k)
	early.Ack++
	wide := firstOf(k)
	wide.Win = api.MaxPort + 1
	wantOfferRefused(t, "not accepted", l, seg.Turn(k), early, 8, api.ErrState)
	wantOfferRefused(t, "range", l, k, wide, 8, api.ErrRange)
	wantOfferRefused(t, "ports", l, k, firstOf(keyOf(api.Stream, 6)), 8, api.ErrShape)
	wantAll(t, "refused", l, f)

	worn := flowOf(keyOf(api.Single, 5), 50, api.MaxTime)
	l = with(t, 1, worn)
	wantOfferRefused(t, "the last Stamp", l, worn.Key, firstOf(worn.Key), 8, api.ErrState)
}

// L2: Adopt

// TestAdopt: a new one, a later one in its place, in a full table too; not an earlier one, or one of the same Stamp.
func TestAdopt(t *testing.T) {
	for _, kind := range kinds() {
		k := keyOf(kind, 5)
		l := made(t, 1)
		wantAdopt(t, "new", l, flowOf(k, 50, 5), 7, true)
		wantAll(t, "new", l, flowOf(k, 50, 5))
		for _, stamp := range []int{1, 4, 5} {
			wantAdopt(t, "not later", l, flowOf(k, 90, stamp), 7, false)
			wantAdopt(t, "not later, turned", l, flowOf(seg.Turn(k), 90, stamp), 7, false)
			wantAll(t, "not later", l, flowOf(k, 50, 5))
		}
		wantAdopt(t, "later", l, flowOf(k, 40, 6), 7, true)
		wantAll(t, "later", l, flowOf(k, 40, 6))
		wantAdopt(t, "later, turned", l, flowOf(seg.Turn(k), 60, api.MaxTime), 7, true)
		wantAll(t, "later, turned", l, flowOf(seg.Turn(k), 60, api.MaxTime))
	}
}

// TestAdoptOver: one whose Until is now or earlier changes nothing, in a full table too.
func TestAdoptOver(t *testing.T) {
	k, other := keyOf(api.Single, 5), keyOf(api.Single, 6)
	for _, most := range []int{1, 2} {
		l := with(t, most, flowOf(k, 50, 5))
		for _, until := range []int{0, 6, 7} {
			wantAdopt(t, "over", l, flowOf(k, until, 9), 7, false)
			wantAdopt(t, "over", l, flowOf(other, until, 9), 7, false)
			wantAll(t, "over", l, flowOf(k, 50, 5))
		}
		wantAdopt(t, "not over", l, flowOf(k, 8, 9), 7, true)
		wantAll(t, "not over", l, flowOf(k, 8, 9))
	}
}

// TestAdoptRefused: chapter 11's Check is told first, ErrFull last.
func TestAdoptRefused(t *testing.T) {
	k, other := keyOf(api.Single, 5), keyOf(api.Single, 6)
	shape := flowOf(other, 0, 1)
	shape.High[0] = 1
	for _, c := range []struct {
		what string
		f    api.Flow
		want api.Errno
	}{
		{"kind", flowOf(keyOf(0, 6), 50, 1), api.ErrRange},
		{"Stamp 0", flowOf(k, 50, 0), api.ErrRange},
		{"Stamp too great", flowOf(k, 50, api.MaxTime+1), api.ErrRange},
		{"Until below 0", flowOf(k, -1, 1), api.ErrRange},
		{"Until too great", flowOf(k, 2*api.MaxTime+1, 1), api.ErrRange},
		{"shape", shape, api.ErrShape},
		{"full", flowOf(other, 50, 1), api.ErrFull},
		{"full, by another Stamp", flowOf(other, 50, 99), api.ErrFull},
	} {
		wantAdoptRefused(t, c.what, with(t, 1, flowOf(k, 50, 5)), c.f, 7, c.want)
	}
}

// L2: Drop, Get, All, Len

// TestDrop: either way, just that one, and once.
func TestDrop(t *testing.T) {
	for _, kind := range kinds() {
		for _, k := range []api.Key{keyOf(kind, 5), seg.Turn(keyOf(kind, 5))} {
			for _, by := range []api.Key{k, seg.Turn(k)} {
				other := flowOf(keyOf(kind, 6), 50, 1)
				l := with(t, 2, flowOf(k, 50, 1), other)
				if !l.Drop(by) {
					t.Errorf("Drop(%v): got false", by)
				}
				wantAll(t, "dropped", l, other)
				wantNone(t, "dropped", l, k)
				if l.Drop(by) || l.Drop(seg.Turn(by)) {
					t.Errorf("Drop(%v) again: got true", by)
				}
				wantAll(t, "dropped", l, other)
				wantOfferRefused(t, "dropped", l, k, firstOf(k), 1, api.ErrNone)
				wantAdopt(t, "dropped", l, flowOf(k, 60, 1), 1, true)
			}
		}
	}
}

// TestEmpty: nothing is there at first.
func TestEmpty(t *testing.T) {
	l := made(t, 1)
	for _, k := range []api.Key{{}, keyOf(api.Single, 5), {Kind: math.MinInt, Src: math.MaxInt}} {
		wantNone(t, "empty", l, k)
		wantOfferRefused(t, "empty", l, k, api.Segment{}, 0, api.ErrNone)
		if l.Drop(k) {
			t.Errorf("Drop(%v): got true", k)
		}
	}
	wantTick(t, "empty", l, api.MaxTime)
}

// P2

// TestFresh: what comes out is the caller's, and what is handed in stays as it was and is not kept.
func TestFresh(t *testing.T) {
	k := keyOf(api.Stream, 5)
	l := made(t, 3)
	s := firstOf(k)
	room := append(slices.Clone(s.Body), 9, 9)
	s.Body = room[:3]
	f, err := l.Begin(k, s, 3, 0)
	if err != nil || !bytes.Equal(room, []byte{1, 2, 3, 9, 9}) {
		t.Errorf("Begin: %v, %v", err, room)
	}
	if f, err = l.Offer(k, s, 0); err != nil || !bytes.Equal(room, []byte{1, 2, 3, 9, 9}) {
		t.Errorf("Offer: %v, %v", err, room)
	}
	clear(room)
	wantAll(t, "Body changed", l, f)

	l.All()[0] = api.Flow{}
	wantAll(t, "All written into", l, f)
	one, two := l.All(), l.All()
	one[0].Stamp = 77
	if two[0] != f {
		t.Error("two lists share memory")
	}
}

// TestApart: two tables know nothing of each other.
func TestApart(t *testing.T) {
	k := keyOf(api.Single, 5)
	l, m := made(t, 1), made(t, 1)
	f := wantBegin(t, "one", l, k, 70)
	wantAll(t, "the other one", m)
	g := wantBegin(t, "the other one", m, k, 7)
	wantAll(t, "one", l, f)
	wantAll(t, "the other one", m, g)
}
