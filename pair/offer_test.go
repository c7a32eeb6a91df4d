package pair

import (
	"bytes"
	"math"
	"slices"
	"testing"

	"portcullis/api"
	"portcullis/frag"
	"portcullis/plain"
	"portcullis/seg"
)

// P2

// cutUp is a packet of a key, and its pieces.
func cutUp(t *testing.T, k api.Key) (whole api.Packet, pieces []api.Packet) {
	t.Helper()
	s := firstOf(k)
	s.Body = bytes.Repeat([]byte{1, 2, 3, 4, 5}, 10)
	whole = packetOf(t, k, s)
	pieces, err := frag.Split(whole, 16)
	if err != nil || len(pieces) < 4 {
		t.Fatalf("Split: got %v, %v", pieces, err)
	}
	return whole, pieces
}

// TestOffer: what the Master lets out goes out, once.
func TestOffer(t *testing.T) {
	for master := range 2 {
		for _, way := range []int{api.In, api.Out} {
			p := two(t, keepAll)
			b := firstBytes(t, keyOf(api.Stream, 5))
			wantOut(t, "both are Standby", p, b, way)
			beat(t, p, master, false)
			wantPassed(t, "one is Master", p, b, way)
			tick(t, p, lease)
			wantOut(t, "its lease is over", p, answerBytes(t, keyOf(api.Stream, 5)), way)
		}
	}
}

// TestOfferWay: the rules of the way that it comes on count.
func TestOfferWay(t *testing.T) {
	p := led(t, "block out from any to any\n")
	b := firstBytes(t, keyOf(api.Single, 5))
	wantPassed(t, "in", p, b, api.In)
	wantOut(t, "out", p, b, api.Out)
}

func TestOfferWayErrors(t *testing.T) {
	p := led(t, keepAll)
	b := firstBytes(t, keyOf(api.Single, 5))
	_, pieces := cutUp(t, keyOf(api.Single, 6))
	wrong := func(what string) {
		t.Helper()
		for _, way := range []int{api.Any, 3, -1, math.MinInt, math.MaxInt} {
			for _, b := range [][]byte{b, nil, {1, 2, 3}, bytesOf(t, pieces[0])} {
				out, err := p.Offer(b, way)
				if len(out) > 0 || plain.Told(err) != api.ErrRange {
					t.Errorf("%s: Offer on way %d: got %v, %v", what, way, out, err)
				}
			}
		}
	}
	wrong("both are there")
	if l := nodeOf(t, p, 0).Events(); len(l) > 0 {
		t.Errorf("events: got %v", l)
	}
	wantKeys(t, "nothing changed", p, 0)
	for _, piece := range pieces[:len(pieces)-1] {
		wantOut(t, "pieces that did not come twice", p, bytesOf(t, piece), api.In)
	}
	if out, err := p.Offer(bytesOf(t, pieces[len(pieces)-1]), api.In); err != nil || len(out) != 1 {
		t.Errorf("pieces that did not come twice: got %v, %v", out, err)
	}
	crash(t, p, 0)
	wrong("one is Down")
	crash(t, p, 1)
	wrong("both are Down")
}

// TestOfferNodeErrors: what is wrong with bytes is no error, and nothing goes out.
func TestOfferNodeErrors(t *testing.T) {
	k := keyOf(api.Single, 5)
	good := firstBytes(t, k)
	spoilt := slices.Clone(good)
	spoilt[len(spoilt)-1]++
	old := packetOf(t, k, firstOf(k))
	old.Ttl = 0
	for what, b := range map[string][]byte{
		"none":           nil,
		"no packet":      {1, 2, 3},
		"cut off":        good[:len(good)-1],
		"more behind it": append(slices.Clone(good), 0),
		"spoilt":         spoilt,
		"Ttl 0":          bytesOf(t, old),
		"no kind":        bytesOf(t, api.Packet{Kind: 9, Ttl: 9}),
		"blocked":        firstBytes(t, keyOf(api.Echo, 5)),
		"none began it":  bytesOf(t, packetOf(t, keyOf(api.Stream, 5), api.Segment{From: 5, To: 80, Flags: api.Ack})),
	} {
		p := led(t, keepAll+"block kind echo from any to any\n")
		wantOut(t, what, p, b, api.In)
		wantPassed(t, "behind what is wrong", p, good, api.In)
		crash(t, p, 1)
		wantOut(t, what+", the other one is Down", p, b, api.In)
	}
}

// TestOfferBlocked: the Master logs it; the other one does not.
func TestOfferBlocked(t *testing.T) {
	p := led(t, blockAll)
	k := keyOf(api.Single, 5)
	tick(t, p, 3)
	wantOut(t, "blocked", p, firstBytes(t, k), api.In)
	want := []api.Event{{Time: 3, What: api.Rose}, {Time: 3, What: api.Blocked, Key: k}}
	if got := nodeOf(t, p, 0).Events(); !slices.Equal(got, want) {
		t.Errorf("events: got %v, want %v", got, want)
	}
	if got := nodeOf(t, p, 1).Events(); len(got) > 0 {
		t.Errorf("events of the Standby: got %v", got)
	}
}

// TestOfferToBoth: pieces come to a Standby, too, so that it goes on with them.
func TestOfferToBoth(t *testing.T) {
	for master := range 2 {
		p := two(t, passAll)
		beat(t, p, master, true)
		whole, pieces := cutUp(t, keyOf(api.Single, 5))
		last := len(pieces) - 1
		for _, piece := range pieces[:last] {
			wantOut(t, "a piece", p, bytesOf(t, piece), api.In)
		}
		crash(t, p, master)
		tick(t, p, lease)
		beat(t, p, 1-master, true)
		wantOut(t, "the last piece", p, bytesOf(t, pieces[last]), api.In, stepped(t, bytesOf(t, whole)))
	}
}

// TestOfferToDown: one that is Down gets nothing; two that are let nothing out.
func TestOfferToDown(t *testing.T) {
	p := two(t, passAll)
	_, pieces := cutUp(t, keyOf(api.Single, 5))
	crash(t, p, 1)
	for _, piece := range pieces[:2] {
		wantOut(t, "a piece", p, bytesOf(t, piece), api.In)
	}
	boot(t, p, 1)
	crash(t, p, 0)
	beat(t, p, 1, false)
	for _, piece := range pieces[2:] {
		wantOut(t, "two are lacking", p, bytesOf(t, piece), api.In)
	}
	b := firstBytes(t, keyOf(api.Single, 5))
	wantPassed(t, "it is Master", p, b, api.In)
	crash(t, p, 1)
	wantOut(t, "both are Down", p, b, api.In)
	wantOut(t, "both are Down", p, nil, api.Out)
}

// TestOfferOrder: node 0 comes first. That two let something out takes somebody who grants leases that the arbiter did not give.
func TestOfferOrder(t *testing.T) {
	p := two(t, passAll)
	whole, pieces := cutUp(t, keyOf(api.Single, 5))
	for i, ttl := range []int{50, 40} {
		n := nodeOf(t, p, i)
		if err := n.Vote().Grant(100, 0); err != nil {
			t.Fatal(err)
		}
		for _, piece := range pieces[1:] {
			piece.Ttl = ttl
			if _, err := n.Packet(bytesOf(t, piece), api.In, 0); err != nil {
				t.Fatal(err)
			}
		}
	}
	pieces[0].Ttl = 60
	whole.Ttl = 49
	zero := bytesOf(t, whole)
	whole.Ttl = 39
	one := bytesOf(t, whole)
	wantOut(t, "both", p, bytesOf(t, pieces[0]), api.In, zero, one)
}

// TestOfferMemory: what comes is neither changed nor kept; what goes out is no memory of it, nor of each other.
func TestOfferMemory(t *testing.T) {
	p := two(t, passAll)
	for i := range 2 {
		if err := nodeOf(t, p, i).Vote().Grant(100, 0); err != nil {
			t.Fatal(err)
		}
	}
	b := firstBytes(t, keyOf(api.Single, 5))
	was := slices.Clone(b)
	out, err := p.Offer(b, api.In)
	if err != nil || len(out) != 2 || !bytes.Equal(b, was) {
		t.Fatalf("Offer: got %v, %v, the bytes are %v", out, err, b)
	}
	want := stepped(t, was)
	clear(b)
	for i := range out {
		if !bytes.Equal(out[i], want) {
			t.Errorf("number %d has become %v", i, out[i])
		}
		clear(out[i])
	}

	whole, pieces := cutUp(t, keyOf(api.Single, 5))
	for i, piece := range pieces {
		b := bytesOf(t, piece)
		out, err := p.Offer(b, api.In)
		clear(b)
		if err != nil || i < len(pieces)-1 && len(out) > 0 {
			t.Fatalf("a piece: got %v, %v", out, err)
		}
		if i == len(pieces)-1 && (len(out) != 2 || !bytes.Equal(out[1], stepped(t, bytesOf(t, whole)))) {
			t.Errorf("pieces that were spoilt: got %v", out)
		}
	}
}

func TestCrash(t *testing.T) {
	for i := range 2 {
		p := two(t, keepAll)
		beat(t, p, i, false)
		crash(t, p, i)
		if got := p.Role(i); got != api.Down {
			t.Errorf("Role(%d): got %d, want Down", i, got)
		}
		if got := p.Role(1 - i); got != api.Standby {
			t.Errorf("Role(%d): got %d, want Standby", 1-i, got)
		}
		if n, err := p.Node(i); n != nil || plain.Told(err) != api.ErrState {
			t.Errorf("Node(%d): got %v, %v", i, n, err)
		}
		wantErr(t, "Crash again", p.Crash(i), api.ErrState)
		crash(t, p, 1-i)
		wantRoles(t, "both", p, api.Down, api.Down)
		for j := range 2 {
			wantErr(t, "Crash again", p.Crash(j), api.ErrState)
		}
	}
}

// TestNumberErrors: of a node that is none.
func TestNumberErrors(t *testing.T) {
	p := led(t, keepAll)
	wrong := func() {
		t.Helper()
		for _, i := range strangers() {
			wantErr(t, "Crash", p.Crash(i), api.ErrRange)
			wantErr(t, "Boot", p.Boot(i), api.ErrRange)
			if n, err := p.Node(i); n != nil || plain.Told(err) != api.ErrRange {
				t.Errorf("Node(%d): got %v, %v", i, n, err)
			}
			if got := p.Role(i); got != 0 {
				t.Errorf("Role(%d): got %d, want 0", i, got)
			}
		}
	}
	wrong()
	wantRoles(t, "nothing changed", p, api.Master, api.Standby)
	crash(t, p, 0)
	wrong()
	crash(t, p, 1)
	wrong()
	wantRoles(t, "nothing changed", p, api.Down, api.Down)
}

// TestCrashLease: its lease goes on, for it alone: the other one gets none till it is over.
func TestCrashLease(t *testing.T) {
	p := led(t, "")
	crash(t, p, 0)
	boot(t, p, 0)
	wantRoles(t, "booted", p, api.Standby, api.Standby)
	crash(t, p, 1)
	boot(t, p, 1)
	tick(t, p, lease-1)
	beat(t, p, 1, true)
	wantRoles(t, "not over", p, api.Standby, api.Standby)
	beat(t, p, 0, true)
	wantRoles(t, "it has it", p, api.Master, api.Standby)
	crash(t, p, 0)
	tick(t, p, lease-1)
	beat(t, p, 1, true)
	wantRoles(t, "not over", p, api.Down, api.Standby)
	tick(t, p, 1)
	beat(t, p, 1, true)
	wantRoles(t, "over", p, api.Down, api.Master)
}

// TestBootNew: a node that is booted has nothing of what it had, but the rules of the Pair.
func TestBootNew(t *testing.T) {
	for i, prio := range []int{200, 100} {
		p := two(t, keepAll)
		beat(t, p, i, false)
		k := keyOf(api.Stream, 5)
		wantPassed(t, "begins", p, firstBytes(t, k), api.In)
		_, pieces := cutUp(t, keyOf(api.Single, 6))
		wantOut(t, "a piece", p, bytesOf(t, pieces[0]), api.In)
		old := nodeOf(t, p, i)
		if err := old.Load(rulesOf(t, blockAll)); err != nil {
			t.Fatal(err)
		}
		if err := old.Vote().Demote(60); err != nil {
			t.Fatal(err)
		}
		crash(t, p, i)
		boot(t, p, i)
		wantRoles(t, "booted", p, api.Standby, api.Standby)
		n := nodeOf(t, p, i)
		if n == old {
			t.Error("it is the old one")
		}
		if got := n.Vote().Prio(); got != prio {
			t.Errorf("priority: got %d, want %d", got, prio)
		}
		if l := n.Events(); len(l) > 0 {
			t.Errorf("events: got %v", l)
		}
		wantKeys(t, "no flows", p, i)
		wantNotes(t, "nothing to tell", p, i, 0)
		beat(t, p, i, false)
		wantOut(t, "no flow that it would go on with", p, answerBytes(t, k), api.In)
		for _, piece := range pieces[1:] {
			wantOut(t, "one is lacking", p, bytesOf(t, piece), api.In)
		}
		wantPassed(t, "the rules of the Pair", p, firstBytes(t, keyOf(api.Single, 8)), api.In)
		wantKeys(t, "they keep", p, i, keyOf(api.Single, 8))
	}
}

// TestBootErrors: one that is not Down stays as it is, and so does the other one.
func TestBootErrors(t *testing.T) {
	p := led(t, keepAll)
	k := keyOf(api.Stream, 5)
	wantPassed(t, "begins", p, firstBytes(t, k), api.In)
	swap(t, p, 0, false)
	swap(t, p, 1, false)
	for i := range 2 {
		n := nodeOf(t, p, i)
		wantErr(t, "Boot", p.Boot(i), api.ErrState)
		if nodeOf(t, p, i) != n {
			t.Errorf("node %d is another one", i)
		}
	}
	wantRoles(t, "as it was", p, api.Master, api.Standby)
	wantNotes(t, "not Reset", p, 0, 0)
	wantNotes(t, "not Reset", p, 1, 1)
	for i := range 2 {
		wantKeys(t, "as it was", p, i, k)
	}
	crash(t, p, 1)
	wantErr(t, "Boot of the other one", p.Boot(0), api.ErrState)
	wantRoles(t, "as it was", p, api.Master, api.Down)
	wantNotes(t, "not Reset", p, 0, 0)
}

// TestBootReset: the other one tells all anew, and hears the new one from 1 on.
func TestBootReset(t *testing.T) {
	for master := range 2 {
		p := two(t, keepAll)
		beat(t, p, master, false)
		a, b := keyOf(api.Stream, 5), keyOf(api.Stream, 6)
		wantPassed(t, "begins", p, firstBytes(t, a), api.In)
		wantPassed(t, "begins", p, firstBytes(t, b), api.In)
		wantPassed(t, "answers", p, answerBytes(t, b), api.In)
		swap(t, p, master, false)
		swap(t, p, 1-master, false)
		crash(t, p, 1-master)
		tick(t, p, 1)
		wantNotes(t, "nothing to tell", p, master, 0)
		boot(t, p, 1-master)
		flows := flowsOf(t, p, master)
		if got := p.Role(master); got != api.Master || len(flows) != 2 {
			t.Fatalf("the other one has role %d and flows %v", got, flows)
		}
		swap(t, p, master, false)
		if got := flowsOf(t, p, 1-master); !slices.Equal(got, flows) {
			t.Errorf("told anew: got %v, want %v", got, flows)
		}
		wantNotes(t, "from 1 on", p, 1-master, 2)

		// The Master crashes, too: what the new one told is heard from 1 on.
		crash(t, p, master)
		boot(t, p, master)
		swap(t, p, 1-master, false)
		if got := flowsOf(t, p, master); !slices.Equal(got, flows) {
			t.Errorf("told back: got %v, want %v", got, flows)
		}
		wantNotes(t, "from 1 on", p, master, 2)
	}
}

// TestBootAlone: the other one is Down.
func TestBootAlone(t *testing.T) {
	for i := range 2 {
		p := two(t, keepAll)
		crash(t, p, 0)
		crash(t, p, 1)
		boot(t, p, i)
		if p.Role(i) != api.Standby || p.Role(1-i) != api.Down {
			t.Errorf("roles: got %d, %d", p.Role(0), p.Role(1))
		}
		beat(t, p, i, false)
		k := keyOf(api.Single, 5)
		wantPassed(t, "alone", p, firstBytes(t, k), api.In)
		boot(t, p, 1-i)
		swap(t, p, i, false)
		wantKeys(t, "the other one", p, 1-i, k)
	}
}

// TestRoleNow: it is as it is now, and asking logs nothing.
func TestRoleNow(t *testing.T) {
	p := led(t, "")
	tick(t, p, lease-1)
	wantRoles(t, "not over", p, api.Master, api.Standby)
	tick(t, p, 1)
	for range 3 {
		wantRoles(t, "over", p, api.Standby, api.Standby)
	}
	if l := nodeOf(t, p, 0).Events(); len(l) > 0 {
		t.Errorf("events: got %v", l)
	}
}

// TestNode: it is the node itself.
func TestNode(t *testing.T) {
	p := led(t, keepAll)
	for i := range 2 {
		if nodeOf(t, p, i) != nodeOf(t, p, i) {
			t.Errorf("node %d is another one each time", i)
		}
	}
	if err := nodeOf(t, p, 0).Load(rulesOf(t, blockAll)); err != nil {
		t.Fatal(err)
	}
	wantOut(t, "other rules", p, firstBytes(t, keyOf(api.Single, 5)), api.In)
	if err := nodeOf(t, p, 1).Vote().Grant(5, 0); err != nil {
		t.Fatal(err)
	}
	wantRoles(t, "granted", p, api.Master, api.Master)
	wantPassed(t, "the other one", p, firstBytes(t, seg.Turn(keyOf(api.Single, 5))), api.In)
}
