package node

import (
	"bytes"
	"math/rand"
	"slices"
	"strconv"
	"testing"

	"portcullis/api"
	"portcullis/frag"
	"portcullis/plain"
	"portcullis/seg"
	"portcullis/sum"
	"portcullis/track"
	"portcullis/wire"
)

func kinds() []int {
	return []int{api.Stream, api.Single, api.Echo}
}

// resum sets the sum of a packet's head right again.
func resum(b []byte) []byte {
	b[8], b[9] = 0, 0
	s := sum.Sum(b[:18])
	b[8], b[9] = byte(s>>8), byte(s)
	return b
}

// withTtl is a packet's bytes with another Ttl.
func withTtl(b []byte, ttl byte) []byte {
	b = slices.Clone(b)
	b[1] = ttl
	return resum(b)
}

// F2

func TestWay(t *testing.T) {
	b := firstBytes(t, keyOf(api.Single, 5))
	for _, way := range []int{-1, api.Any, 3, -1 << 63, 1<<63 - 1} {
		n := master(t, keepAll)
		wantRefused(t, "a way that is none", n, b, way, 0, api.ErrRange)
		wantRefused(t, "behind an error of the time", n, b, way, -1, api.ErrRange)
		wantFlows(t, "a way that is none", n, 5)
		wantRefused(t, "behind an error of the time", n, b, way, 4, api.ErrState)
		wantRefused(t, "ahead of what is wrong with the bytes", n, b[:3], way, 5, api.ErrRange)
		wantRefused(t, "ahead of what is wrong with the bytes", n, withTtl(b, 0), way, 5, api.ErrRange)
		wantFlows(t, "a way that is none", n, 5)
		wantEvents(t, "a way that is none", n, rose(0))

		wantRefused(t, "of a Standby", standby(t, keepAll), b, way, 0, api.ErrRange)
	}
	for _, way := range []int{api.In, api.Out} {
		wantPassed(t, "a way", master(t, keepAll), b, way, 0)
	}
}

// TestStepErrors: what is wrong with the bytes is told by a Standby, too, and is no event.
func TestStepErrors(t *testing.T) {
	b := firstBytes(t, keyOf(api.Single, 5))
	alter := func(at int, to byte) []byte {
		b := slices.Clone(b)
		b[at] = to
		return b
	}
	long := func(n int) []byte {
		b := slices.Clone(b)
		b[2], b[3] = byte(n>>8), byte(n)
		return resum(b)
	}
	wrong := []struct {
		b    []byte
		want api.Errno
	}{
		{nil, api.ErrShort},
		{b[:17], api.ErrShort},
		{b[:len(b)-1], api.ErrShort},
		{alter(0, 79), api.ErrSyntax},
		{alter(0, 96), api.ErrSyntax},
		{alter(9, b[9]+1), api.ErrSum},
		{long(17), api.ErrShape},
		{long(18 + api.MaxBody + 1), api.ErrFull},
		{append(slices.Clone(b), 0), api.ErrShape},
		{append(slices.Clone(b), b...), api.ErrShape},
		{withTtl(b, 0), api.ErrState},
	}
	for i, w := range wrong {
		what := "bytes " + strconv.Itoa(i)
		n := master(t, keepAll)
		wantRefused(t, what, n, w.b, api.In, 0, w.want)
		wantEvents(t, what, n, rose(0))
		wantFlows(t, what, n, 0)

		n = standby(t, keepAll)
		wantRefused(t, what, n, w.b, api.In, 0, w.want)
		wantEvents(t, what, n)
	}
}

func TestTtl(t *testing.T) {
	b := firstBytes(t, keyOf(api.Single, 5))
	for _, ttl := range []byte{1, 2, 128, 255} {
		wantOut(t, "a Ttl of one less", master(t, ""), withTtl(b, ttl), api.In, 0, withTtl(b, ttl-1))
	}
}

// cutUp is a packet of a key, and its pieces.
func cutUp(t *testing.T, k api.Key, number int) (whole api.Packet, pieces []api.Packet) {
	t.Helper()
	s := firstOf(k)
	s.Body = bytes.Repeat([]byte{1, 2, 3, 4, 5}, 10)
	whole = packetOf(t, k, s)
	whole.Id = number
	pieces, err := frag.Split(whole, 16)
	if err != nil || len(pieces) < 4 {
		t.Fatalf("Split: got %v, %v", pieces, err)
	}
	return whole, pieces
}

// TestPieces: nothing goes out till all are there; then the whole, with the least of their Ttls.
func TestPieces(t *testing.T) {
	for _, kind := range kinds() {
		k := keyOf(kind, 5)
		whole, pieces := cutUp(t, k, 7)
		for turn := range pieces {
			n := master(t, "pass from any to any keep\n")
			for i, p := range pieces {
				p.Ttl = 20 + i
				pieces[i] = p
			}
			order := append(slices.Clone(pieces[turn:]), pieces[:turn]...)
			last := len(order) - 1
			for i, p := range order[:last] {
				wantOut(t, "a piece", n, bytesOf(t, p), api.In, i, nil)
				wantFlows(t, "a piece", n, i)
			}
			whole.Ttl = 19
			wantOut(t, "the last piece", n, bytesOf(t, order[last]), api.In, last, bytesOf(t, whole))
			wantEvents(t, "the last piece", n, rose(0), passed(last, k))
			if got, err := n.Flows(last); len(got) != 1 || got[0].Key != k || err != nil {
				t.Errorf("flows of pieces: got %v, %v", got, err)
			}
		}
	}
}

func TestPieceErrors(t *testing.T) {
	n := master(t, passAll)
	_, pieces := cutUp(t, keyOf(api.Single, 5), 7)
	wantOut(t, "a piece", n, bytesOf(t, pieces[0]), api.In, 0, nil)
	wantRefused(t, "the same piece", n, bytesOf(t, pieces[0]), api.In, 1, api.ErrShape)
	wantRefused(t, "of what is bad", n, bytesOf(t, pieces[1]), api.In, 2, api.ErrState)
	for number := range api.MaxPools - 1 {
		_, others := cutUp(t, keyOf(api.Single, 5), 100+number)
		wantOut(t, "others", n, bytesOf(t, others[0]), api.In, 3, nil)
	}
	whole, others := cutUp(t, keyOf(api.Single, 5), 200)
	wantRefused(t, "one too many", n, bytesOf(t, others[0]), api.In, 4, api.ErrFull)
	wantEvents(t, "pieces that are wrong", n, rose(0))
	wantPassed(t, "no piece", n, bytesOf(t, whole), api.In, 5)
	wantRefused(t, "still one too many", n, bytesOf(t, others[0]), api.In, 59, api.ErrFull)
	wantOut(t, "the bad one is forgotten", n, bytesOf(t, others[0]), api.In, 60, nil)
}

// TestPieceErrorsOfStandby: they are told as a Master tells them.
func TestPieceErrorsOfStandby(t *testing.T) {
	n := standby(t, passAll)
	_, pieces := cutUp(t, keyOf(api.Single, 5), 7)
	wantOut(t, "a piece", n, bytesOf(t, pieces[0]), api.In, 0, nil)
	wantRefused(t, "the same piece", n, bytesOf(t, pieces[0]), api.In, 1, api.ErrShape)
	wantRefused(t, "of what is bad", n, bytesOf(t, pieces[1]), api.In, 2, api.ErrState)
}

// TestStandby: nothing goes out, nothing is kept, told or logged, and there is no error, also where a Master would have one.
func TestStandby(t *testing.T) {
	n := standby(t, keepAll+"block kind single from any to any port 80\n")
	stream := keyOf(api.Stream, 5)
	wantOut(t, "what would pass", n, firstBytes(t, stream), api.In, 0, nil)
	wantOut(t, "what would be blocked", n, firstBytes(t, keyOf(api.Single, 5)), api.In, 0, nil)
	wantOut(t, "a kind that is none", n, bytesOf(t, api.Packet{Kind: 9, Ttl: 9}), api.In, 0, nil)
	wantOut(t, "a body that is none", n, bytesOf(t, api.Packet{Kind: api.Stream, Ttl: 9}), api.In, 0, nil)
	f := begun(t, stream, 0, 0)
	wantNote(t, "a flow", n, 0, api.OK, put(1, f))
	wantOut(t, "of a flow", n, answerBytes(t, stream), api.In, 1, nil)
	wantFlows(t, "all of it", n, 1, f)
	wantNotes(t, "all of it", n, 1, 1)
	wantEvents(t, "all of it", n)
}

// TestStandbyKeepsPieces: one that becomes Master goes on with those that came ahead; and what was whole ahead is gone.
func TestStandbyKeepsPieces(t *testing.T) {
	n := standby(t, passAll)
	whole, pieces := cutUp(t, keyOf(api.Single, 5), 7)
	last := len(pieces) - 1
	for round := range 2 {
		now := 10 * round
		for _, p := range pieces[:last] {
			wantOut(t, "pieces of a Standby", n, bytesOf(t, p), api.In, now, nil)
		}
		if round == 1 {
			grant(t, n, 100, now)
			wantOut(t, "the last one, of a Master", n, bytesOf(t, pieces[last]), api.In, now, stepped(t, bytesOf(t, whole)))
			continue
		}
		wantOut(t, "the last one, of a Standby", n, bytesOf(t, pieces[last]), api.In, now, nil)
	}
}

// TestKeyErrors: what carries nothing that has a key is refused, and is no event.
func TestKeyErrors(t *testing.T) {
	body := func(kind int, at int, to byte) []byte {
		p := packetOf(t, keyOf(kind, 5), firstOf(keyOf(kind, 5)))
		p.Body[at] = to
		return p.Body
	}
	wrong := []struct {
		kind int
		body []byte
		want api.Errno
	}{
		{api.Stream, nil, api.ErrShort},
		{api.Stream, make([]byte, 16), api.ErrShort},
		{api.Single, make([]byte, 5), api.ErrShort},
		{api.Echo, make([]byte, 7), api.ErrShort},
		{api.Stream, body(api.Stream, 0, 99), api.ErrSum},
		{api.Single, body(api.Single, 6, 99), api.ErrSum},
		{api.Echo, body(api.Echo, 2, 99), api.ErrSum},
		{api.Echo, segmentBytes(api.Echo, []byte{2, 0, 0, 0, 0, 0}), api.ErrRange},
		{api.Stream, segmentBytes(api.Stream, []byte{0, 1, 0, 1, 0, 0, 0, 0, 0, 0, 0, 0, 16, 0, 0}), api.ErrRange},
		{api.Echo, segmentBytes(api.Echo, []byte{1, 0, 0, 0, 0, 7}), api.ErrShape},
	}
	for kind := range 16 {
		if kind < api.Stream || kind > api.Echo {
			wrong = append(wrong, struct {
				kind int
				body []byte
				want api.Errno
			}{kind, make([]byte, 30), api.ErrRange})
		}
	}
	for _, w := range wrong {
		for _, rules := range []string{"", keepAll, blockAll} {
			n := master(t, rules)
			b := bytesOf(t, api.Packet{Kind: w.kind, Ttl: 9, Src: here, Dst: there, Body: w.body})
			wantRefused(t, "kind "+strconv.Itoa(w.kind), n, b, api.In, 0, w.want)
			wantEvents(t, "a body that is none", n, rose(0))
			wantFlows(t, "a body that is none", n, 0)
			wantNotes(t, "a body that is none", n, 0, 0)
		}
	}
}

// segmentBytes are those of a front, from here to there, with the sum that belongs to it.
func segmentBytes(kind int, front []byte) []byte {
	all := []byte{here >> 24, here >> 16 & 255, here >> 8 & 255, here & 255, there >> 24, there >> 16 & 255, there >> 8 & 255, there & 255, 0, byte(kind)}
	all = append(append(all, front...), 0, 0)
	s := sum.Sum(all)
	return append(slices.Clone(front), byte(s>>8), byte(s))
}

// TestFlowGoesOn: what belongs to a flow passes either way, whatever the rules are, and the flow is told each time.
func TestFlowGoesOn(t *testing.T) {
	for _, kind := range kinds() {
		n := master(t, "block from any to any\npass out from any to any keep\n")
		k := keyOf(kind, 5)
		wantPassed(t, "begins", n, firstBytes(t, k), api.Out, 1)
		first := begun(t, k, 1, 1)
		wantLoad(t, n, blockAll)
		wantPassed(t, "answers", n, answerBytes(t, k), api.In, 3)
		second := answered(t, first, 3)
		wantFlows(t, "answers", n, 3, second)
		wantEvents(t, "answers", n, rose(1), passed(1, k), passed(3, seg.Turn(k)))
		wantNotes(t, "answers", n, 3, 0, put(1, first), put(2, second))
	}
}

// TestFlowRefuses: what a flow does not accept is blocked, also where the rules let all pass.
func TestFlowRefuses(t *testing.T) {
	n := master(t, keepAll)
	k := keyOf(api.Stream, 5)
	wantPassed(t, "begins", n, firstBytes(t, k), api.In, 0)
	f := begun(t, k, 0, 0)
	wantLoad(t, n, passAll)
	strange := answerOf(k)
	strange.Ack++
	wantBlocked(t, "an answer to nothing", n, bytesOf(t, packetOf(t, seg.Turn(k), strange)), api.In, 1, seg.Turn(k))
	wantFlows(t, "an answer to nothing", n, 1, f)
	wantNotes(t, "an answer to nothing", n, 1, 0, put(1, f))
	wantPassed(t, "another key", n, firstBytes(t, keyOf(api.Stream, 6)), api.In, 1)

	echo := keyOf(api.Echo, 5)
	wantLoad(t, n, keepAll)
	wantPassed(t, "asks", n, firstBytes(t, echo), api.In, 2)
	asks := bytesOf(t, packetOf(t, seg.Turn(echo), firstOf(echo)))
	wantBlocked(t, "both ask", n, asks, api.In, 2, seg.Turn(echo))
}

// TestFlowOverTime: once it is over, the rules are asked again.
func TestFlowOverTime(t *testing.T) {
	n := master(t, keepAll)
	k := keyOf(api.Single, 5)
	wantPassed(t, "begins", n, firstBytes(t, k), api.In, 0)
	wantLoad(t, n, blockAll)
	wantPassed(t, "just ahead of its end", n, firstBytes(t, k), api.In, 29)
	wantBlocked(t, "at its end", n, firstBytes(t, k), api.In, 29+30, k)
}

// TestFlowToItself: both sides of an echo from an address to itself have one key.
func TestFlowToItself(t *testing.T) {
	n := master(t, keepAll)
	k := api.Key{Kind: api.Echo, Src: here, From: 5, Dst: here, To: 5}
	wantPassed(t, "asks", n, firstBytes(t, k), api.In, 0)
	wantPassed(t, "answers", n, answerBytes(t, k), api.In, 1)
	wantFlows(t, "answers", n, 1, answered(t, begun(t, k, 0, 0), 1))
}

func TestJudge(t *testing.T) {
	k := keyOf(api.Single, 5)
	b := firstBytes(t, k)
	for _, c := range []struct {
		rules    string
		way      int
		pass     bool
		number   int
		isKept   bool
		describe string
	}{
		{"", api.In, true, 0, false, "no rule"},
		{blockAll, api.In, false, 0, false, "blocked"},
		{passAll, api.In, true, 0, false, "passed"},
		{keepAll, api.In, true, 0, true, "kept"},
		{blockAll + keepAll, api.In, true, 1, true, "the last one counts"},
		{keepAll + blockAll, api.In, false, 0, false, "the last one counts"},
		{"block quick from any to any\n" + keepAll, api.In, false, 0, false, "the quick one counts"},
		{passAll + "pass quick from any to any keep\n" + blockAll, api.In, true, 1, true, "the quick one counts"},
		{"block out from any to any\n", api.In, true, 0, false, "of the other way"},
		{"block out from any to any\n", api.Out, false, 0, false, "of its way"},
		{"block kind stream from any to any\n", api.In, true, 0, false, "of another kind"},
		{"block from 10.0.0.1/32 to any\n", api.In, false, 0, false, "from its source"},
		{"block from any to 10.0.0.1/32\n", api.In, true, 0, false, "to its source"},
		{"block kind single from any port 80 to any\n", api.In, true, 0, false, "from another port"},
		{"block kind single from any port 5 to any port 80\n", api.In, false, 0, false, "by its ports"},
	} {
		n := master(t, c.rules)
		if !c.pass {
			wantBlocked(t, c.describe, n, b, c.way, 4, k)
			wantNotes(t, c.describe, n, 4, 0)
			wantFlows(t, c.describe, n, 4)
			continue
		}
		wantPassed(t, c.describe, n, b, c.way, 4)
		wantEvents(t, c.describe, n, rose(4), passed(4, k))
		if !c.isKept {
			wantNotes(t, c.describe, n, 4, 0)
			wantFlows(t, c.describe, n, 4)
			continue
		}
		f := begun(t, k, c.number, 4)
		wantNotes(t, c.describe, n, 4, 0, put(1, f))
		wantFlows(t, c.describe, n, 4, f)
	}
}

// TestBeginErrors: what is to be kept, and may not begin a flow, is blocked; what is not to be kept passes.
func TestBeginErrors(t *testing.T) {
	stream, echo := keyOf(api.Stream, 5), keyOf(api.Echo, 5)
	for _, c := range []struct {
		k api.Key
		s api.Segment
	}{
		{stream, api.Segment{From: 5, To: 80, Flags: api.Ack}},
		{stream, api.Segment{From: 5, To: 80, Flags: api.Syn | api.Ack}},
		{stream, api.Segment{From: 5, To: 80, Flags: api.Rst}},
		{stream, api.Segment{From: 5, To: 80}},
		{echo, api.Segment{From: 1, To: 5}},
	} {
		if _, err := track.Begin(c.k, c.s, 0, 0); err == nil {
			t.Fatalf("%v begins a flow", c.s)
		}
		b := bytesOf(t, packetOf(t, c.k, c.s))
		n := master(t, keepAll)
		wantBlocked(t, "to be kept", n, b, api.In, 0, c.k)
		wantFlows(t, "to be kept", n, 0)
		wantNotes(t, "to be kept", n, 0, 0)
		wantPassed(t, "not to be kept", master(t, passAll), b, api.In, 0)
	}
}

// TestPacketMemory: the bytes that come stay as they are, are not kept, and are not those that go out.
func TestPacketMemory(t *testing.T) {
	n := master(t, passAll)
	b := firstBytes(t, keyOf(api.Single, 5))
	was := slices.Clone(b)
	out, err := n.Packet(b, api.In, 0)
	if err != nil || !bytes.Equal(b, was) {
		t.Fatalf("Packet: got %v, the bytes are %v", err, b)
	}
	want := slices.Clone(out)
	for i := range b {
		b[i] = 0
	}
	if !bytes.Equal(out, want) {
		t.Errorf("what went out has become %v", out)
	}

	whole, pieces := cutUp(t, keyOf(api.Single, 5), 7)
	for i, p := range pieces {
		b := bytesOf(t, p)
		got, err := n.Packet(b, api.In, 1)
		if err != nil {
			t.Fatal(err)
		}
		for i := range b {
			b[i] = 0
		}
		if i == len(pieces)-1 && !bytes.Equal(got, stepped(t, bytesOf(t, whole))) {
			t.Errorf("pieces that were spoilt: got %v", got)
		}
	}
}

// TestAnyBytes: none panics, and what goes out is a packet, of one that came.
func TestAnyBytes(t *testing.T) {
	r := rand.New(rand.NewSource(16))
	n := master(t, keepAll)
	wentOut := 0
	for now := range 20000 {
		b := firstBytes(t, keyOf(kinds()[r.Intn(3)], r.Intn(50)))
		for range r.Intn(3) {
			b[r.Intn(len(b))] = byte(r.Intn(256))
		}
		if r.Intn(2) == 0 {
			b = resum(b)
		}
		b = b[:len(b)-r.Intn(2)*r.Intn(len(b)+1)]
		out, err := n.Packet(b, r.Intn(4), now)
		if err != nil && (len(out) > 0 || plain.Told(err) < api.ErrRange || plain.Told(err) > api.ErrSum) {
			t.Fatalf("Packet(%v): got %v, %v", b, out, err)
		}
		if len(out) == 0 {
			continue
		}
		wentOut++
		if p, used, err := wire.Read(out); err != nil || used != len(out) || p.More || p.At != 0 {
			t.Fatalf("Packet(%v): got %v, %v", b, out, err)
		}
	}
	if wentOut < 1000 {
		t.Errorf("just %d went out", wentOut)
	}
}
