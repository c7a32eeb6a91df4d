package node

import (
	"bytes"
	"slices"
	"testing"

	"portcullis/api"
	"portcullis/frag"
	"portcullis/plain"
	"portcullis/rule"
	"portcullis/seg"
	"portcullis/sync"
	"portcullis/track"
	"portcullis/wire"
)

const (
	here  = 10<<24 | 1
	there = 192<<24 | 168<<16 | 7
	id    = 1
	prio  = 50
	far   = 2 * api.MaxTime // a lease that is never over
)

// Rules, as text.
const (
	keepAll  = "pass from any to any keep\n"
	passAll  = "pass from any to any\n"
	blockAll = "block from any to any\n"
)

// rulesOf reads rules.
func rulesOf(t *testing.T, text string) []api.Rule {
	t.Helper()
	l, line, err := rule.Parse(text)
	if err != nil {
		t.Fatalf("rules %q: line %d: %v", text, line, err)
	}
	return l
}

// standby is a node that never was Master.
func standby(t *testing.T, rules string) *Node {
	t.Helper()
	n, err := New(id, prio, rulesOf(t, rules))
	if err != nil || n == nil {
		t.Fatalf("New: got %v, %v, want one", n, err)
	}
	return n
}

// master is a node that is Master from the time 0 on, till for ever.
func master(t *testing.T, rules string) *Node {
	t.Helper()
	n := standby(t, rules)
	grant(t, n, far, 0)
	return n
}

func grant(t *testing.T, n *Node, until, now int) {
	t.Helper()
	if err := n.Vote().Grant(until, now); err != nil {
		t.Fatalf("Grant(%d, %d): %v", until, now, err)
	}
}

// keyOf is an ordinary key of a kind, another one for each port.
func keyOf(kind, port int) api.Key {
	if kind == api.Echo {
		return api.Key{Kind: kind, Src: here, From: port, Dst: there, To: port}
	}
	return api.Key{Kind: kind, Src: here, From: port, Dst: there, To: 80}
}

// firstOf is what a key's Src may say first.
func firstOf(k api.Key) api.Segment {
	switch k.Kind {
	case api.Stream:
		return api.Segment{From: k.From, To: k.To, Seq: 1000, Win: 500, Flags: api.Syn, Body: []byte{1, 2, 3}}
	case api.Single:
		return api.Segment{From: k.From, To: k.To, Body: []byte{1, 2, 3}}
	}
	return api.Segment{To: k.To, Seq: 9, Body: []byte{1, 2, 3}}
}

// answerOf is what a key's Dst may say behind that.
func answerOf(k api.Key) api.Segment {
	switch k.Kind {
	case api.Stream:
		return api.Segment{From: k.To, To: k.From, Seq: 7000, Ack: 1004, Win: 600, Flags: api.Syn | api.Ack}
	case api.Single:
		return api.Segment{From: k.To, To: k.From, Body: []byte{4}}
	}
	return api.Segment{From: 1, To: k.To, Seq: 9, Body: []byte{4}}
}

// packetOf is a packet that carries a segment from k's Src to its Dst.
func packetOf(t *testing.T, k api.Key, s api.Segment) api.Packet {
	t.Helper()
	body, err := seg.Encode(k.Kind, s, k.Src, k.Dst)
	if err != nil {
		t.Fatalf("segment %v of %v: %v", s, k, err)
	}
	return api.Packet{Kind: k.Kind, Ttl: 9, Id: 77, Src: k.Src, Dst: k.Dst, Body: body}
}

func bytesOf(t *testing.T, p api.Packet) []byte {
	t.Helper()
	b, err := wire.Encode(p)
	if err != nil {
		t.Fatalf("packet %v: %v", p, err)
	}
	return b
}

// firstBytes are those of a packet that may begin a flow of k.
func firstBytes(t *testing.T, k api.Key) []byte {
	t.Helper()
	return bytesOf(t, packetOf(t, k, firstOf(k)))
}

// answerBytes are those of a packet that answers it.
func answerBytes(t *testing.T, k api.Key) []byte {
	t.Helper()
	return bytesOf(t, packetOf(t, seg.Turn(k), answerOf(k)))
}

// begun is the flow of a key that began at a time, by a rule.
func begun(t *testing.T, k api.Key, number, now int) api.Flow {
	t.Helper()
	f, err := track.Begin(k, firstOf(k), number, now)
	if err != nil {
		t.Fatalf("flow of %v: %v", k, err)
	}
	return f
}

// answered is a flow behind the answer to what it began with.
func answered(t *testing.T, f api.Flow, now int) api.Flow {
	t.Helper()
	f, err := track.Step(f, answerOf(f.Key), 1, now)
	if err != nil {
		t.Fatalf("answer to %v: %v", f, err)
	}
	return f
}

// stepped is what goes out of bytes that come: the same packet, with a Ttl of one less.
func stepped(t *testing.T, b []byte) []byte {
	t.Helper()
	p, _, err := wire.Read(b)
	if err != nil {
		t.Fatalf("bytes %v: %v", b, err)
	}
	p.Ttl--
	return bytesOf(t, p)
}

// wantOut wants these bytes to go out; nil: nothing, and no error.
func wantOut(t *testing.T, what string, n *Node, b []byte, way, now int, want []byte) {
	t.Helper()
	got, err := n.Packet(b, way, now)
	if err != nil || !bytes.Equal(got, want) {
		t.Errorf("%s: Packet at %d: got %v, %v, want %v", what, now, got, err, want)
	}
}

// wantPassed wants a packet to go out, with a Ttl of one less.
func wantPassed(t *testing.T, what string, n *Node, b []byte, way, now int) {
	t.Helper()
	wantOut(t, what, n, b, way, now, stepped(t, b))
}

func wantRefused(t *testing.T, what string, n *Node, b []byte, way, now int, want api.Errno) {
	t.Helper()
	got, err := n.Packet(b, way, now)
	if plain.Told(err) != want || len(got) > 0 {
		t.Errorf("%s: Packet at %d: got %v, %v, want %v", what, now, got, err, want)
	}
}

// wantBlocked wants a packet of a key to be refused, and that to be logged.
func wantBlocked(t *testing.T, what string, n *Node, b []byte, way, now int, k api.Key) {
	t.Helper()
	blocked := func() (l []api.Event) {
		for _, e := range n.Events() {
			if e.What == api.Blocked {
				l = append(l, e)
			}
		}
		return l
	}
	want := append(blocked(), api.Event{Time: now, Node: id, What: api.Blocked, Key: k})
	wantRefused(t, what, n, b, way, now, api.ErrState)
	if got := blocked(); !slices.Equal(got, want) {
		t.Errorf("%s: blocked: got %v, want %v", what, got, want)
	}
}

func wantFlows(t *testing.T, what string, n *Node, now int, want ...api.Flow) {
	t.Helper()
	got, err := n.Flows(now)
	if err != nil || !slices.Equal(got, want) {
		t.Errorf("%s: Flows(%d): got %v, %v, want %v", what, now, got, err, want)
	}
}

func wantEvents(t *testing.T, what string, n *Node, want ...api.Event) {
	t.Helper()
	if got := n.Events(); !slices.Equal(got, want) {
		t.Errorf("%s: Events: got %v, want %v", what, got, want)
	}
}

// wantNotes wants these notes, and behind them Got of a number.
func wantNotes(t *testing.T, what string, n *Node, now, got int, want ...api.Note) {
	t.Helper()
	b, err := n.Notes(now)
	all := noteBytes(t, append(slices.Clone(want), api.Note{What: api.Got, Seq: got})...)
	if err != nil || !bytes.Equal(b, all) {
		t.Errorf("%s: Notes(%d): got %v, %v, want %v, Got %d", what, now, notesOf(b), err, want, got)
	}
}

func wantNote(t *testing.T, what string, n *Node, now int, want api.Errno, l ...api.Note) {
	t.Helper()
	wantNoteBytes(t, what, n, now, want, noteBytes(t, l...))
}

func wantNoteBytes(t *testing.T, what string, n *Node, now int, want api.Errno, b []byte) {
	t.Helper()
	if err := n.Note(b, now); plain.Told(err) != want {
		t.Errorf("%s: Note(%v, %d): got %v, want %v", what, b, now, err, want)
	}
}

func wantReset(t *testing.T, what string, n *Node, now int) {
	t.Helper()
	if err := n.Reset(now); err != nil {
		t.Errorf("%s: Reset(%d): got %v", what, now, err)
	}
}

func wantLoad(t *testing.T, n *Node, rules string) {
	t.Helper()
	if err := n.Load(rulesOf(t, rules)); err != nil {
		t.Errorf("Load(%q): got %v", rules, err)
	}
}

// noteBytes are notes one behind the other.
func noteBytes(t *testing.T, l ...api.Note) []byte {
	t.Helper()
	var all []byte
	for _, note := range l {
		b, err := sync.Encode(note)
		if err != nil {
			t.Fatalf("note %v: %v", note, err)
		}
		all = append(all, b...)
	}
	return all
}

// notesOf reads notes, as far as they can be.
func notesOf(b []byte) (l []api.Note) {
	for len(b) > 0 {
		note, used, err := sync.Read(b)
		if err != nil {
			return l
		}
		l, b = append(l, note), b[used:]
	}
	return l
}

func put(seq int, f api.Flow) api.Note {
	return api.Note{What: api.Put, Seq: seq, Flow: f}
}

func gone(seq int, k api.Key) api.Note {
	return api.Note{What: api.Gone, Seq: seq, Flow: api.Flow{Key: k}}
}

func rose(now int) api.Event {
	return api.Event{Time: now, Node: id, What: api.Rose}
}

func fell(now int) api.Event {
	return api.Event{Time: now, Node: id, What: api.Fell}
}

func passed(now int, k api.Key) api.Event {
	return api.Event{Time: now, Node: id, What: api.Passed, Key: k}
}

// F1

func TestNew(t *testing.T) {
	for _, which := range []int{0, 1} {
		for _, prio := range []int{0, 1, 100, 255} {
			n, err := New(which, prio, nil)
			if err != nil || n == nil {
				t.Fatalf("New(%d, %d): got %v, %v", which, prio, n, err)
			}
			if got := n.Vote().Prio(); got != prio {
				t.Errorf("New(%d, %d): got a priority of %d", which, prio, got)
			}
			wantFlows(t, "a new one", n, 0)
			wantNotes(t, "a new one", n, 0, 0)
			wantEvents(t, "a new one", n)
		}
	}
}

func TestNewErrors(t *testing.T) {
	wrong := []struct {
		rules []api.Rule
		want  api.Errno
	}{
		{make([]api.Rule, api.MaxRules+1), api.ErrFull},
		{[]api.Rule{{}, {Keep: true}}, api.ErrShape},
		{[]api.Rule{{Way: 3}}, api.ErrRange},
		{[]api.Rule{{Src: api.Prefix{Addr: 1, Len: 31}}}, api.ErrShape},
	}
	for _, w := range wrong {
		for _, who := range [][2]int{{0, 0}, {1, 255}, {2, 0}, {0, 256}} { // what is wrong with the rules is told first
			if n, err := New(who[0], who[1], w.rules); n != nil || plain.Told(err) != w.want {
				t.Errorf("New(%v, %v): got %v, %v, want %v", who, w.rules, n, err, w.want)
			}
		}
	}
	for _, who := range [][2]int{{-1, 50}, {2, 50}, {0, -1}, {0, 256}, {1, -1}, {1, 256}, {-1, -1}, {1 << 62, -1 << 63}} {
		if n, err := New(who[0], who[1], nil); n != nil || plain.Told(err) != api.ErrRange {
			t.Errorf("New(%v): got %v, %v, want ErrRange", who, n, err)
		}
	}
}

// TestVote: the voter is the node's own, of its number, and without drift.
func TestVote(t *testing.T) {
	for which, want := range []bool{true, false} { // of like priorities node 0 wants
		n, err := New(which, prio, nil)
		if err != nil {
			t.Fatal(err)
		}
		if n.Vote() != n.Vote() {
			t.Error("Vote is another one each time")
		}
		if err := n.Vote().Hear(prio, 0); err != nil {
			t.Fatal(err)
		}
		if got, err := n.Vote().Wants(0); got != want || err != nil {
			t.Errorf("node %d wants: got %v, %v, want %v", which, got, err, want)
		}
	}
	n := standby(t, passAll)
	grant(t, n, 10, 0)
	b := firstBytes(t, keyOf(api.Single, 5))
	wantPassed(t, "up to its lease's end", n, b, api.In, 9)
	wantOut(t, "at its lease's end", n, b, api.In, 10, nil)
}

func TestTableOfMaxFlows(t *testing.T) {
	n := master(t, keepAll)
	var flows []api.Flow
	for port := range api.MaxFlows {
		k := keyOf(api.Single, port)
		wantPassed(t, "room is left", n, firstBytes(t, k), api.In, 0)
		flows = append(flows, begun(t, k, 0, 0))
	}
	k := keyOf(api.Single, api.MaxFlows)
	wantBlocked(t, "no room is left", n, firstBytes(t, k), api.In, 0, k)
	wantFlows(t, "no room is left", n, 0, flows...)
	wantPassed(t, "of one that is there", n, firstBytes(t, flows[0].Key), api.In, 0)
	wantPassed(t, "all are over", n, firstBytes(t, k), api.In, 30)
	wantFlows(t, "all are over", n, 30, begun(t, k, 0, 30))
}

func TestPoolOf60(t *testing.T) {
	k := keyOf(api.Single, 5)
	whole := packetOf(t, k, api.Segment{From: 5, To: 80, Body: make([]byte, 20)})
	pieces, err := frag.Split(whole, 16)
	if err != nil || len(pieces) != 2 {
		t.Fatalf("Split: got %v, %v", pieces, err)
	}
	out := stepped(t, bytesOf(t, whole))
	for _, at := range []struct {
		second int
		want   []byte
	}{{0, out}, {59, out}, {60, nil}, {61, nil}, {1000, nil}} {
		n := master(t, passAll)
		wantOut(t, "the first piece", n, bytesOf(t, pieces[0]), api.In, 3, nil)
		wantOut(t, "the second piece", n, bytesOf(t, pieces[1]), api.In, 3+at.second, at.want)
	}
}

func TestTellerAgain5(t *testing.T) {
	n := master(t, keepAll)
	k := keyOf(api.Single, 5)
	wantPassed(t, "begins", n, firstBytes(t, k), api.In, 0)
	told := put(1, begun(t, k, 0, 0))
	wantNotes(t, "not told yet", n, 1, 0, told)
	wantNotes(t, "told just now", n, 1, 0)
	wantNotes(t, "told 4 ago", n, 5, 0)
	wantNotes(t, "told 5 ago", n, 6, 0, told)
	wantNotes(t, "told again 4 ago", n, 10, 0)
	wantNotes(t, "told again 7 ago", n, 13, 0, told)
}

func TestLoad(t *testing.T) {
	n := master(t, keepAll)
	k, other := keyOf(api.Single, 5), keyOf(api.Single, 6)
	wantPassed(t, "kept", n, firstBytes(t, k), api.In, 0)
	f := begun(t, k, 0, 0)

	wantLoad(t, n, blockAll)
	wantFlows(t, "flows stay", n, 0, f)
	wantPassed(t, "its flow goes on", n, answerBytes(t, k), api.In, 1)
	wantBlocked(t, "another one", n, firstBytes(t, other), api.In, 1, other)

	wantLoad(t, n, "")
	wantPassed(t, "without rules", n, firstBytes(t, other), api.In, 1)
	wantFlows(t, "without rules none is kept", n, 1, answered(t, f, 1))
}

func TestLoadErrors(t *testing.T) {
	n := master(t, blockAll)
	wrong := []struct {
		rules []api.Rule
		want  api.Errno
	}{
		{make([]api.Rule, api.MaxRules+1), api.ErrFull},
		{[]api.Rule{{Pass: true}, {Keep: true}}, api.ErrShape},
		{[]api.Rule{{Pass: true, Kind: 4}}, api.ErrRange},
	}
	for _, w := range wrong {
		if err := n.Load(w.rules); plain.Told(err) != w.want {
			t.Errorf("Load(%v): got %v, want %v", w.rules, err, w.want)
		}
	}
	k := keyOf(api.Single, 5)
	wantBlocked(t, "by the rules that were there", n, firstBytes(t, k), api.In, 0, k)
}

// TestRulesAreNotKept: what becomes of the list that was handed in, is nothing to the node; nor is it changed.
func TestRulesAreNotKept(t *testing.T) {
	text := "block kind single from any to any port 80-90\n"
	k := keyOf(api.Single, 5)
	spoil := func(l []api.Rule) {
		l[0].To[0] = [2]int{1, 2}
		l[0] = api.Rule{Pass: true}
	}
	rules := rulesOf(t, text)
	n, err := New(id, prio, rules)
	if err != nil {
		t.Fatal(err)
	}
	grant(t, n, far, 0)
	spoil(rules)
	wantBlocked(t, "behind New", n, firstBytes(t, k), api.In, 0, k)

	rules = rulesOf(t, text)
	if err := n.Load(rules); err != nil {
		t.Fatal(err)
	}
	wantBlocked(t, "behind Load", n, firstBytes(t, k), api.In, 0, k)
	if got, err := rule.Print(rules); got != text || err != nil {
		t.Errorf("the rules have become %q, %v", got, err)
	}
	spoil(rules)
	wantBlocked(t, "spoilt behind Load", n, firstBytes(t, k), api.In, 0, k)
}

// timed are all calls with a now: what each answers, and whether that is empty.
func timed(t *testing.T) map[string]func(n *Node, now int) (empty bool, err error) {
	b := firstBytes(t, keyOf(api.Single, 5))
	note := noteBytes(t, api.Note{What: api.Got})
	return map[string]func(n *Node, now int) (bool, error){
		"Packet": func(n *Node, now int) (bool, error) {
			out, err := n.Packet(b, api.In, now)
			return len(out) == 0, err
		},
		"Note": func(n *Node, now int) (bool, error) {
			return true, n.Note(note, now)
		},
		"Notes": func(n *Node, now int) (bool, error) {
			out, err := n.Notes(now)
			return len(out) == 0, err
		},
		"Reset": func(n *Node, now int) (bool, error) {
			return true, n.Reset(now)
		},
		"Flows": func(n *Node, now int) (bool, error) {
			out, err := n.Flows(now)
			return len(out) == 0, err
		},
	}
}

func TestTimes(t *testing.T) {
	for one, call := range timed(t) {
		for _, now := range []int{-1, api.MaxTime + 1, -1 << 63, 1<<63 - 1} {
			n := master(t, keepAll)
			if empty, err := call(n, now); !empty || plain.Told(err) != api.ErrRange {
				t.Errorf("%s at %d: got %v, want ErrRange", one, now, err)
			}
			wantEvents(t, one, n)
			wantFlows(t, one, n, 0)
		}
		for _, now := range []int{0, 1, api.MaxTime} {
			if _, err := call(master(t, keepAll), now); err != nil {
				t.Errorf("%s at %d: got %v", one, now, err)
			}
		}
	}
}

// TestOneTime: each call goes behind each other one.
func TestOneTime(t *testing.T) {
	for one, ahead := range timed(t) {
		for other, behind := range timed(t) {
			n := master(t, keepAll)
			if _, err := ahead(n, 100); err != nil {
				t.Errorf("%s at 100: got %v", one, err)
			}
			for _, now := range []int{0, 99} {
				if empty, err := behind(n, now); !empty || plain.Told(err) != api.ErrState {
					t.Errorf("%s at 100, %s at %d: got %v, want ErrState", one, other, now, err)
				}
			}
			for _, now := range []int{100, 100, 101} {
				if _, err := behind(n, now); err != nil {
					t.Errorf("%s at 100, %s at %d: got %v", one, other, now, err)
				}
			}
		}
	}
}

// TestWrongTimeChangesNothing: neither flows, nor notes, nor events, nor the time.
func TestWrongTimeChangesNothing(t *testing.T) {
	for one, call := range timed(t) {
		n := standby(t, keepAll)
		grant(t, n, 20, 0)
		k := keyOf(api.Stream, 5)
		wantPassed(t, one, n, firstBytes(t, k), api.In, 10)
		f := begun(t, k, 0, 10)
		for _, now := range []int{-1, 9, api.MaxTime + 1, 0} {
			if _, err := call(n, now); err == nil {
				t.Errorf("%s at %d: got no error", one, now)
			}
		}
		wantFlows(t, one, n, 10, f)
		wantNotes(t, one, n, 10, 0, put(1, f))
		wantEvents(t, one, n, rose(10), passed(10, k))
	}
}

// TestTimeOfTheVoter: it is one time for all, so the voter's, too.
func TestTimeOfTheVoter(t *testing.T) {
	for one, call := range timed(t) {
		n := standby(t, keepAll)
		grant(t, n, 60, 50)
		for _, now := range []int{0, 49} {
			if empty, err := call(n, now); !empty || plain.Told(err) != api.ErrState {
				t.Errorf("%s at %d: got %v, want ErrState", one, now, err)
			}
		}
		wantEvents(t, one, n)
		if _, err := call(n, 55); err != nil {
			t.Errorf("%s at 55: got %v", one, err)
		}
		if err := n.Vote().Grant(70, 54); plain.Told(err) != api.ErrState {
			t.Errorf("Grant at 54, behind %s at 55: got %v, want ErrState", one, err)
		}
		grant(t, n, 70, 55)
	}
}

// TestTimeGoesOnWithErrors: a call whose time is right counts, whatever else is wrong with it: what it found first of all stands in the log.
func TestTimeGoesOnWithErrors(t *testing.T) {
	k := keyOf(api.Single, 5)
	b := firstBytes(t, k)
	calls := map[string]func(n *Node, now int) error{
		"way":   func(n *Node, now int) error { _, err := n.Packet(b, api.Any, now); return err },
		"bytes": func(n *Node, now int) error { _, err := n.Packet(b[:9], api.In, now); return err },
		"rules": func(n *Node, now int) error { _, err := n.Packet(b, api.In, now); return err },
		"note":  func(n *Node, now int) error { return n.Note([]byte{0}, now) },
	}
	for one, call := range calls {
		n := standby(t, blockAll)
		grant(t, n, 60, 0)
		if err := call(n, 50); err == nil {
			t.Errorf("%s: got no error", one)
		}
		if got := n.Events(); len(got) == 0 || got[0] != rose(50) {
			t.Errorf("%s: got %v, want %v first", one, got, rose(50))
		}
		if _, err := n.Flows(49); plain.Told(err) != api.ErrState {
			t.Errorf("%s at 50, Flows(49): got %v, want ErrState", one, err)
		}
		wantFlows(t, one, n, 50)
	}
}
