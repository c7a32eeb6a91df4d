package pair

import (
	"bytes"
	"fmt"
	"math"
	"math/rand"
	"slices"
	"testing"

	"portcullis/api"
	"portcullis/frag"
	"portcullis/node"
	"portcullis/plain"
	"portcullis/seg"
)

// P3

// someSegment is one of those that a flow may go through, of either side, and the key of its way.
func someSegment(r *rand.Rand) (api.Key, api.Segment) {
	k := keyOf(1+r.Intn(3), r.Intn(14))
	switch r.Intn(6) {
	case 0, 1:
		return seg.Turn(k), answerOf(k)
	case 2:
		if k.Kind == api.Stream {
			return k, api.Segment{From: k.From, To: k.To, Seq: 1004 + r.Intn(3), Ack: 7001, Win: 500, Flags: api.Ack | r.Intn(2)*api.Fin}
		}
	case 3:
		if k.Kind == api.Stream {
			return seg.Turn(k), api.Segment{From: k.To, To: k.From, Seq: 7001, Ack: 1004, Win: 600, Flags: api.Ack | r.Intn(2)*api.Fin, Body: []byte{5}}
		}
	}
	return k, firstOf(k)
}

// someBytes are those of a packet, or of all the pieces of one.
func someBytes(t *testing.T, r *rand.Rand, number int) [][]byte {
	t.Helper()
	k, s := someSegment(r)
	p := packetOf(t, k, s)
	p.Ttl, p.Id = r.Intn(20), number%60000
	if r.Intn(5) > 0 {
		return [][]byte{bytesOf(t, p)}
	}
	p.Ttl++
	pieces, err := frag.Split(p, 8)
	if err != nil {
		t.Fatal(err)
	}
	var l [][]byte
	for _, piece := range pieces {
		l = append(l, bytesOf(t, piece))
	}
	return l
}

// TestNeverBoth: whatever is lost, late, or crashes, at no time both are Master, and of nothing that is Offered two go out.
func TestNeverBoth(t *testing.T) {
	seen := map[string]int{}
	for run := range 200 {
		r := rand.New(rand.NewSource(int64(run)))
		p := leased(t, keepAll, 1+r.Intn(60))
		for step := range 300 {
			i, lost := r.Intn(2), r.Intn(3) == 0
			switch c := r.Intn(20); {
			case c < 4:
				tick(t, p, r.Intn(12))
			case c < 9:
				p.Beat(i, lost)
			case c < 12:
				p.Swap(i, lost)
			case c < 13:
				p.Crash(i)
			case c < 15:
				p.Boot(i)
			default:
				for _, b := range someBytes(t, r, step) {
					out, err := p.Offer(b, 1+r.Intn(2))
					if err != nil || len(out) > 1 {
						t.Fatalf("run %d, step %d: Offer: got %v, %v", run, step, out, err)
					}
					if len(out) == 1 && p.Role(0) != api.Master && p.Role(1) != api.Master {
						t.Fatalf("run %d, step %d: none is Master, and out goes %v", run, step, out)
					}
					seen["out"] += len(out)
				}
			}
			roles := [2]int{p.Role(0), p.Role(1)}
			if roles == [2]int{api.Master, api.Master} {
				t.Fatalf("run %d, step %d: both are Master at %d", run, step, p.Now())
			}
			seen[fmt.Sprint(roles)]++
		}
	}
	for zero := range 3 {
		for one := range 3 {
			roles := fmt.Sprint([2]int{zero, one})
			if zero+one < 4 && seen[roles] < 300 || seen["out"] < 1000 {
				t.Errorf("roles %s came about %d times: %v", roles, seen[roles], seen)
			}
		}
	}
}

// roles is who is what, as the words of chapters 15 and 17 have it.
type roles struct {
	now, lease   int
	owner, until int     // the arbiter's; owner -1: nobody had it
	up           [2]bool // else all below is as it is at first
	granted      [2]int
	heard        [2]bool // that there is a greater priority
	heardAt      [2]int
}

func (m *roles) role(i int) int {
	switch {
	case !m.up[i]:
		return api.Down
	case m.granted[i] > m.now:
		return api.Master
	}
	return api.Standby
}

func (m *roles) beat(i int, lost bool) api.Errno {
	if !m.up[i] {
		return api.ErrState
	}
	if i == 0 && m.up[1] && !lost { // node 1's priority is not above that of node 0
		m.heard[1], m.heardAt[1] = true, m.now
	}
	counts := m.heard[i] && m.now < m.heardAt[i]+30
	if counts && m.role(i) != api.Master {
		return api.OK
	}
	if m.owner != i && m.owner >= 0 && m.until > m.now {
		return api.OK
	}
	m.owner, m.until = i, m.now+m.lease
	m.granted[i] = m.until
	return api.OK
}

func (m *roles) set(i int, up bool) api.Errno {
	if m.up[i] == up {
		return api.ErrState
	}
	m.up[i], m.granted[i], m.heard[i], m.heardAt[i] = up, 0, false, 0
	return api.OK
}

// TestRoles: long runs of beats, crashes and boots, behind each of which both are what the model says.
func TestRoles(t *testing.T) {
	seen := map[string]int{}
	for run := range 200 {
		r := rand.New(rand.NewSource(int64(run)))
		m := &roles{lease: 1 + r.Intn(50), owner: -1, up: [2]bool{true, true}}
		p := leased(t, "", m.lease)
		for step := range 300 {
			i, lost := r.Intn(2), r.Intn(3) == 0
			var got, want api.Errno
			switch c := r.Intn(10); {
			case c < 3:
				by := r.Intn(15)
				m.now += by
				got = plain.Told(p.Tick(by))
			case c < 8:
				got, want = plain.Told(p.Beat(i, lost)), m.beat(i, lost)
			case c < 9:
				got, want = plain.Told(p.Crash(i)), m.set(i, false)
			default:
				got, want = plain.Told(p.Boot(i)), m.set(i, true)
			}
			if got != want || p.Now() != m.now {
				t.Fatalf("run %d, step %d: got %v at %d, want %v at %d", run, step, got, p.Now(), want, m.now)
			}
			now := [2]int{p.Role(0), p.Role(1)}
			if now != [2]int{m.role(0), m.role(1)} {
				t.Fatalf("run %d, step %d: roles at %d: got %v, want %+v", run, step, m.now, now, m)
			}
			seen[fmt.Sprint(now)]++
		}
	}
	if len(seen) != 8 {
		t.Errorf("just these came about: %v", seen)
	}
}

// TestGoesOn: one that learnt of flows goes on with them where the other one was, once that crashed.
func TestGoesOn(t *testing.T) {
	for master := range 2 {
		for _, kind := range []int{api.Stream, api.Single, api.Echo} {
			p := leased(t, "block from any to any\npass out from any to any keep\n", 5)
			beat(t, p, master, true)
			k := keyOf(kind, 5)
			wantOut(t, "not this way", p, firstBytes(t, k), api.In)
			wantPassed(t, "begins", p, firstBytes(t, k), api.Out)
			beat(t, p, 1-master, true)
			swap(t, p, master, false)
			swap(t, p, 1-master, false)
			crash(t, p, master)
			tick(t, p, 5)
			beat(t, p, 1-master, false)
			wantPassed(t, "goes on", p, answerBytes(t, k), api.In)
			wantOut(t, "nobody began it", p, answerBytes(t, keyOf(kind, 6)), api.In)

			boot(t, p, master)
			swap(t, p, 1-master, false)
			swap(t, p, master, false)
			beat(t, p, master, true)
			crash(t, p, 1-master)
			tick(t, p, 5)
			beat(t, p, master, true)
			wantPassed(t, "and back", p, answerBytesOn(t, k), api.In)
		}
	}
}

// answerBytesOn are those of a packet by which k's Dst goes on behind its answer.
func answerBytesOn(t *testing.T, k api.Key) []byte {
	t.Helper()
	s := answerOf(k)
	if k.Kind == api.Stream {
		s.Seq, s.Flags, s.Body = 7001, api.Ack, []byte{9}
	}
	return bytesOf(t, packetOf(t, seg.Turn(k), s))
}

// TestNotSwapped: without a swap the other one does not know; so the test above tells something.
func TestNotSwapped(t *testing.T) {
	p := two(t, keepAll)
	beat(t, p, 0, true)
	k := keyOf(api.Stream, 5)
	wantPassed(t, "begins", p, firstBytes(t, k), api.In)
	swap(t, p, 0, true)
	crash(t, p, 0)
	tick(t, p, lease)
	beat(t, p, 1, true)
	wantOut(t, "nobody began it", p, answerBytes(t, k), api.In)
}

// gate is a Pair, and a node that never crashes and is always Master, to which the same comes.
type gate struct {
	pair   *Pair
	lone   *node.Node
	master int
	number int
}

func twoAndOne(t *testing.T, rules string) *gate {
	t.Helper()
	lone, err := node.New(0, 200, rulesOf(t, rules))
	if err != nil {
		t.Fatal(err)
	}
	if err := lone.Vote().Grant(2*api.MaxTime, 0); err != nil {
		t.Fatal(err)
	}
	g := &gate{pair: two(t, rules), lone: lone}
	beat(t, g.pair, 0, true)
	return g
}

// offer packets to both; what goes out is how many the Pair let out, and wrong whether the node let out something else.
func (g *gate) offer(t *testing.T, r *rand.Rand) (wentOut int, wrong string) {
	t.Helper()
	g.number++
	way := 1 + r.Intn(2)
	for _, b := range someBytes(t, r, g.number) {
		got, err := g.pair.Offer(b, way)
		if err != nil {
			t.Fatal(err)
		}
		var want [][]byte
		if out, err := g.lone.Packet(b, way, g.pair.Now()); err == nil && len(out) > 0 {
			want = append(want, out)
		}
		if !slices.EqualFunc(got, want, bytes.Equal) {
			return 0, fmt.Sprint("got ", got, ", want ", want)
		}
		wentOut += len(got)
	}
	return wentOut, ""
}

// settle: the notes of both come to the other one, till nothing is left to be told.
func (g *gate) settle(t *testing.T) {
	t.Helper()
	tick(t, g.pair, 5) // so that what was lost is told again
	beat(t, g.pair, g.master, true)
	for _, i := range []int{g.master, 1 - g.master, g.master} {
		swap(t, g.pair, i, false)
	}
	if got, want := flowsOf(t, g.pair, 1-g.master), flowsOf(t, g.pair, g.master); !slices.Equal(got, want) {
		t.Fatalf("at %d the Standby has %v, and the Master %v", g.pair.Now(), got, want)
	}
}

// turn: the other one becomes Master, as this one crashed, or its beats did not come.
func (g *gate) turn(t *testing.T, crashes bool) {
	t.Helper()
	g.settle(t)
	if crashes {
		crash(t, g.pair, g.master)
	}
	tick(t, g.pair, lease)
	beat(t, g.pair, 1-g.master, true)
	if crashes {
		boot(t, g.pair, g.master)
	}
	g.master = 1 - g.master
	if got := g.pair.Role(g.master); got != api.Master {
		t.Fatalf("at %d node %d is %d, not Master", g.pair.Now(), g.master, got)
	}
}

// TestAsOne: two of which one follows the other one let out just what one does that never ends, with losses among the notes.
func TestAsOne(t *testing.T) {
	wentOut, blocked, turns := 0, 0, 0
	for run := range 60 {
		r := rand.New(rand.NewSource(int64(run)))
		g := twoAndOne(t, "block from any to any\npass out from any to any keep\npass in kind single from any to any\n")
		for step := range 400 {
			tick(t, g.pair, r.Intn(3))
			beat(t, g.pair, g.master, true)
			out, wrong := g.offer(t, r)
			if wrong != "" {
				t.Fatalf("run %d, step %d at %d: %s", run, step, g.pair.Now(), wrong)
			}
			wentOut += out
			if out == 0 {
				blocked++
			}
			swap(t, g.pair, r.Intn(2), r.Intn(3) == 0)
			if r.Intn(40) == 0 {
				g.turn(t, r.Intn(2) == 0)
				turns++
			}
			want, err := g.lone.Flows(g.pair.Now())
			if got := flowsOf(t, g.pair, g.master); err != nil || !slices.Equal(got, want) {
				t.Fatalf("run %d, step %d: flows at %d: got %v, want %v", run, step, g.pair.Now(), got, want)
			}
		}
	}
	if wentOut < 2000 || blocked < 2000 || turns < 200 {
		t.Errorf("%d went out, %d did not, %d turns", wentOut, blocked, turns)
	}
}

// TestAnyCalls: none panics, at all numbers and bytes; an error is one of those that there are.
func TestAnyCalls(t *testing.T) {
	r := rand.New(rand.NewSource(17))
	number := func() int {
		l := []int{0, 1, 0, 1, 2, -1, math.MinInt, math.MaxInt, 1000, 1001}
		return l[r.Intn(len(l))]
	}
	for range 50 {
		p, err := New(rulesOf(t, keepAll), number())
		if err != nil {
			continue
		}
		for range 500 {
			b := firstBytes(t, keyOf(1+r.Intn(3), r.Intn(9)))
			b[r.Intn(len(b))] ^= byte(r.Intn(2) * r.Intn(256))
			out, bad := p.Offer(b[:len(b)-r.Intn(2)*r.Intn(len(b)+1)], number())
			n, none := p.Node(number())
			if len(out) > 1 || bad != nil && len(out) > 0 || (none == nil) != (n != nil) {
				t.Fatalf("got %v, %v, and %v, %v", out, bad, n, none)
			}
			lost := r.Intn(2) == 0
			for _, err := range []error{bad, none, p.Tick(number()), p.Beat(number(), lost), p.Swap(number(), lost), p.Crash(number()), p.Boot(number())} {
				if err != nil && plain.Told(err) != api.ErrRange && plain.Told(err) != api.ErrState {
					t.Fatalf("got %v", err)
				}
			}
			if role := p.Role(number()); role < api.Down || role > api.Master || p.Now() < 0 || p.Now() > api.MaxTime {
				t.Fatalf("role %d at %d", role, p.Now())
			}
		}
	}
}

// TestSameAgain: what calls answer hangs on the calls ahead alone.
func TestSameAgain(t *testing.T) {
	play := func() (all string) {
		r := rand.New(rand.NewSource(3))
		g := twoAndOne(t, keepAll)
		for range 300 {
			tick(t, g.pair, r.Intn(3))
			beat(t, g.pair, g.master, true)
			out, wrong := g.offer(t, r)
			swap(t, g.pair, r.Intn(2), r.Intn(3) == 0)
			all += fmt.Sprint(out, wrong, flowsOf(t, g.pair, 0), flowsOf(t, g.pair, 1))
		}
		return all + fmt.Sprint(nodeOf(t, g.pair, 0).Events(), nodeOf(t, g.pair, 1).Events())
	}
	first := play()
	for range 3 {
		if play() != first {
			t.Fatal("the same calls answer something else")
		}
	}
}
