package pair

import (
	"bytes"
	"fmt"
	"math"
	"slices"
	"testing"

	"portcullis/api"
	"portcullis/node"
	"portcullis/plain"
	"portcullis/rule"
	"portcullis/seg"
	"portcullis/sync"
	"portcullis/wire"
)

const (
	here  = 10<<24 | 1
	there = 192<<24 | 168<<16 | 7
	lease = 20
)

// Rules, as text.
const (
	keepAll  = "pass from any to any keep\n"
	passAll  = "pass from any to any\n"
	blockAll = "block from any to any\n"
)

func rulesOf(t *testing.T, text string) []api.Rule {
	t.Helper()
	l, line, err := rule.Parse(text)
	if err != nil {
		t.Fatalf("rules %q: line %d: %v", text, line, err)
	}
	return l
}

// two is a Pair, both Standby.
func two(t *testing.T, rules string) *Pair {
	t.Helper()
	return leased(t, rules, lease)
}

func leased(t *testing.T, rules string, lease int) *Pair {
	t.Helper()
	p, err := New(rulesOf(t, rules), lease)
	if err != nil || p == nil {
		t.Fatalf("New: got %v, %v, want one", p, err)
	}
	return p
}

// led is a Pair of which node 0 is Master, as the other one heard.
func led(t *testing.T, rules string) *Pair {
	t.Helper()
	p := two(t, rules)
	beat(t, p, 0, false)
	wantRoles(t, "led", p, api.Master, api.Standby)
	return p
}

// keyOf is an ordinary key of a kind, another one for each port.
func keyOf(kind, port int) api.Key {
	if kind == api.Echo {
		return api.Key{Kind: kind, Src: here, From: port, Dst: there, To: port}
	}
	return api.Key{Kind: kind, Src: here, From: port, Dst: there, To: 80}
}

// firstOf is what a key's Src may say first.
func firstOf(k api.Key) api.Segment {
	switch k.Kind {
	case api.Stream:
		return api.Segment{From: k.From, To: k.To, Seq: 1000, Win: 500, Flags: api.Syn, Body: []byte{1, 2, 3}}
	case api.Single:
		return api.Segment{From: k.From, To: k.To, Body: []byte{1, 2, 3}}
	}
	return api.Segment{To: k.To, Seq: 9, Body: []byte{1, 2, 3}}
}

// answerOf is what a key's Dst may say behind that.
func answerOf(k api.Key) api.Segment {
	switch k.Kind {
	case api.Stream:
		return api.Segment{From: k.To, To: k.From, Seq: 7000, Ack: 1004, Win: 600, Flags: api.Syn | api.Ack}
	case api.Single:
		return api.Segment{From: k.To, To: k.From, Body: []byte{4}}
	}
	return api.Segment{From: 1, To: k.To, Seq: 9, Body: []byte{4}}
}

// packetOf is a packet that carries a segment from k's Src to its Dst.
func packetOf(t *testing.T, k api.Key, s api.Segment) api.Packet {
	t.Helper()
	body, err := seg.Encode(k.Kind, s, k.Src, k.Dst)
	if err != nil {
		t.Fatalf("segment %v of %v: %v", s, k, err)
	}
	return api.Packet{Kind: k.Kind, Ttl: 9, Id: 77, Src: k.Src, Dst: k.Dst, Body: body}
}

func bytesOf(t *testing.T, p api.Packet) []byte {
	t.Helper()
	b, err := wire.Encode(p)
	if err != nil {
		t.Fatalf("packet %v: %v", p, err)
	}
	return b
}

// firstBytes are those of a packet that may begin a flow of k.
func firstBytes(t *testing.T, k api.Key) []byte {
	t.Helper()
	return bytesOf(t, packetOf(t, k, firstOf(k)))
}

// answerBytes are those of a packet that answers it.
func answerBytes(t *testing.T, k api.Key) []byte {
	t.Helper()
	return bytesOf(t, packetOf(t, seg.Turn(k), answerOf(k)))
}

// stepped is what goes out of bytes that come: the same packet, with a Ttl of one less.
func stepped(t *testing.T, b []byte) []byte {
	t.Helper()
	p, _, err := wire.Read(b)
	if err != nil {
		t.Fatalf("bytes %v: %v", b, err)
	}
	p.Ttl--
	return bytesOf(t, p)
}

func wantErr(t *testing.T, what string, err error, want api.Errno) {
	t.Helper()
	if plain.Told(err) != want {
		t.Errorf("%s: got %v, want %v", what, err, want)
	}
}

func tick(t *testing.T, p *Pair, by int) {
	t.Helper()
	if err := p.Tick(by); err != nil {
		t.Fatalf("Tick(%d): %v", by, err)
	}
}

func beat(t *testing.T, p *Pair, i int, lost bool) {
	t.Helper()
	if err := p.Beat(i, lost); err != nil {
		t.Fatalf("Beat(%d, %v) at %d: %v", i, lost, p.Now(), err)
	}
}

func swap(t *testing.T, p *Pair, i int, lost bool) {
	t.Helper()
	if err := p.Swap(i, lost); err != nil {
		t.Fatalf("Swap(%d, %v) at %d: %v", i, lost, p.Now(), err)
	}
}

func crash(t *testing.T, p *Pair, i int) {
	t.Helper()
	if err := p.Crash(i); err != nil {
		t.Fatalf("Crash(%d): %v", i, err)
	}
}

func boot(t *testing.T, p *Pair, i int) {
	t.Helper()
	if err := p.Boot(i); err != nil {
		t.Fatalf("Boot(%d): %v", i, err)
	}
}

func nodeOf(t *testing.T, p *Pair, i int) *node.Node {
	t.Helper()
	n, err := p.Node(i)
	if err != nil || n == nil {
		t.Fatalf("Node(%d): got %v, %v, want one", i, n, err)
	}
	return n
}

func flowsOf(t *testing.T, p *Pair, i int) []api.Flow {
	t.Helper()
	l, err := nodeOf(t, p, i).Flows(p.Now())
	if err != nil {
		t.Fatalf("Flows of %d at %d: %v", i, p.Now(), err)
	}
	return l
}

// wantKeys wants a node to have just flows of these keys.
func wantKeys(t *testing.T, what string, p *Pair, i int, want ...api.Key) {
	t.Helper()
	var got []api.Key
	for _, f := range flowsOf(t, p, i) {
		got = append(got, f.Key)
	}
	if !slices.Equal(got, want) {
		t.Errorf("%s: flows of %d at %d: got %v, want %v", what, i, p.Now(), got, want)
	}
}

func wantRoles(t *testing.T, what string, p *Pair, zero, one int) {
	t.Helper()
	if got, want := [2]int{p.Role(0), p.Role(1)}, [2]int{zero, one}; got != want {
		t.Errorf("%s: roles at %d: got %v, want %v", what, p.Now(), got, want)
	}
}

// wantOut wants just these to go out.
func wantOut(t *testing.T, what string, p *Pair, b []byte, way int, want ...[]byte) {
	t.Helper()
	got, err := p.Offer(b, way)
	if err != nil || !slices.EqualFunc(got, want, bytes.Equal) {
		t.Errorf("%s: Offer at %d: got %v, %v, want %v", what, p.Now(), got, err, want)
	}
}

// wantPassed wants a packet to go out once, with a Ttl of one less.
func wantPassed(t *testing.T, what string, p *Pair, b []byte, way int) {
	t.Helper()
	wantOut(t, what, p, b, way, stepped(t, b))
}

// wantNotes wants a node's Notes to be the numbers of these, and Got.
func wantNotes(t *testing.T, what string, p *Pair, i, got int, seqs ...int) {
	t.Helper()
	b, err := nodeOf(t, p, i).Notes(p.Now())
	if err != nil {
		t.Fatalf("%s: Notes: %v", what, err)
	}
	var told []int
	heard := -1
	for len(b) > 0 {
		n, used, err := sync.Read(b)
		if err != nil {
			t.Fatalf("%s: Read: %v", what, err)
		}
		b = b[used:]
		if n.What == api.Got {
			heard = n.Seq
			continue
		}
		told = append(told, n.Seq)
	}
	if heard != got || !slices.Equal(told, seqs) {
		t.Errorf("%s: Notes of %d at %d: got %v, and Got of %d, want %v, and Got of %d", what, i, p.Now(), told, heard, seqs, got)
	}
}

// strangers are numbers of no node.
func strangers() []int { return []int{-1, 2, 3, math.MinInt, math.MaxInt} }

// P1

func TestNew(t *testing.T) {
	for _, lease := range []int{1, 20, api.MaxTime} {
		p := leased(t, keepAll, lease)
		if got := p.Now(); got != 0 {
			t.Errorf("Now: got %d, want 0", got)
		}
		wantRoles(t, "new", p, api.Standby, api.Standby)
		for i, prio := range []int{200, 100} {
			n := nodeOf(t, p, i)
			if got := n.Vote().Prio(); got != prio {
				t.Errorf("priority of %d: got %d, want %d", i, got, prio)
			}
			wantKeys(t, "new", p, i)
			if l := n.Events(); len(l) > 0 {
				t.Errorf("events of %d: got %v", i, l)
			}
		}
		if nodeOf(t, p, 0) == nodeOf(t, p, 1) {
			t.Error("both are one node")
		}
	}
}

// TestNewIds: each node logs by its own number.
func TestNewIds(t *testing.T) {
	for i := range 2 {
		p := two(t, "")
		beat(t, p, i, false)
		wantPassed(t, "no rule", p, firstBytes(t, keyOf(api.Single, 5)), api.In)
		for _, e := range nodeOf(t, p, i).Events() {
			if e.Node != i {
				t.Errorf("node %d logs %v", i, e)
			}
		}
	}
}

// TestNewRules: both have them.
func TestNewRules(t *testing.T) {
	for i := range 2 {
		p := two(t, "block kind echo from any to any\n")
		beat(t, p, i, false)
		wantPassed(t, "passes", p, firstBytes(t, keyOf(api.Single, 5)), api.In)
		wantOut(t, "is blocked", p, firstBytes(t, keyOf(api.Echo, 5)), api.In)
	}
}

func TestNewErrors(t *testing.T) {
	good := rulesOf(t, passAll)
	lots := slices.Repeat(good, api.MaxRules+1)
	wrong := []api.Rule{{Way: 9}}
	shape := rulesOf(t, "pass kind stream from any port 5 to any\n")
	shape[0].Kind = api.Any
	for _, c := range []struct {
		what  string
		rules []api.Rule
		lease int
	}{
		{"lease 0", good, 0},
		{"lease below 0", good, -1},
		{"lease too long", good, api.MaxTime + 1},
		{"least lease", good, math.MinInt},
		{"greatest lease", good, math.MaxInt},
		{"no rules, lease 0", nil, 0},
		{"too many rules", lots, lease},
		{"too many rules, lease 0", lots, 0},
		{"a wrong rule", wrong, lease},
		{"a wrong rule, lease 0", wrong, 0},
		{"a rule of another shape", shape, lease},
		{"a rule of another shape, lease 0", shape, 0},
	} {
		want := plain.Told(rule.Check(c.rules))
		if want == api.OK {
			want = api.ErrRange
		}
		p, err := New(c.rules, c.lease)
		if p != nil || plain.Told(err) != want {
			t.Errorf("%s: got %v, %v, want %v", c.what, p, err, want)
		}
	}
	if rule.Check(lots) == nil || plain.Told(rule.Check(shape)) == api.ErrRange || rule.Check(wrong) == nil {
		t.Error("the rules of this test do not tell whether they are looked at first")
	}
}

// TestNewMemory: rules that were handed in are neither changed nor kept.
func TestNewMemory(t *testing.T) {
	text := "block from any to any\npass kind single from any port 5 to any port 80\n"
	rules, was := rulesOf(t, text), rulesOf(t, text)
	p, err := New(rules, lease)
	if err != nil {
		t.Fatal(err)
	}
	if fmt.Sprint(rules) != fmt.Sprint(was) {
		t.Errorf("rules have become %v", rules)
	}
	rules[1].From[0], rules[1].To[0] = [2]int{6, 6}, [2]int{7, 7}
	rules[0].Pass = true
	crash(t, p, 0)
	boot(t, p, 0)
	for i := range 2 {
		crash(t, p, i)
		boot(t, p, i)
		tick(t, p, lease)
		beat(t, p, i, false)
		wantPassed(t, "as it was", p, firstBytes(t, keyOf(api.Single, 5)), api.In)
		wantOut(t, "as it was", p, firstBytes(t, keyOf(api.Single, 6)), api.In)
		wantOut(t, "as it was", p, firstBytes(t, keyOf(api.Stream, 5)), api.In)
	}
}

func TestTick(t *testing.T) {
	p := two(t, "")
	now := 0
	for _, by := range []int{0, 1, 1000, 7, 999} {
		tick(t, p, by)
		now += by
		if got := p.Now(); got != now {
			t.Errorf("Tick(%d): Now is %d, want %d", by, got, now)
		}
	}
	for _, by := range []int{-1, 1001, math.MinInt, math.MaxInt, api.MaxTime} {
		wantErr(t, "Tick", p.Tick(by), api.ErrRange)
		if got := p.Now(); got != now {
			t.Errorf("Tick(%d): Now is %d, want %d", by, got, now)
		}
	}
}

// atEnd is a Pair at the greatest time but so much.
func atEnd(t *testing.T, p *Pair, less int) {
	t.Helper()
	for p.Now() < api.MaxTime-less {
		tick(t, p, min(1000, api.MaxTime-less-p.Now()))
	}
}

// TestTickEnd: it comes up to MaxTime, and not beyond; all goes on there.
func TestTickEnd(t *testing.T) {
	p := leased(t, keepAll, api.MaxTime)
	atEnd(t, p, 3)
	for _, by := range []int{4, 1000} {
		wantErr(t, "beyond", p.Tick(by), api.ErrRange)
	}
	if got := p.Now(); got != api.MaxTime-3 {
		t.Errorf("Now: got %d", got)
	}
	tick(t, p, 3)
	wantErr(t, "beyond", p.Tick(1), api.ErrRange)
	tick(t, p, 0)
	if got := p.Now(); got != api.MaxTime {
		t.Errorf("Now: got %d", got)
	}
	beat(t, p, 0, false)
	wantRoles(t, "at the end", p, api.Master, api.Standby)
	k := keyOf(api.Stream, 5)
	wantPassed(t, "at the end", p, firstBytes(t, k), api.In)
	swap(t, p, 0, false)
	wantKeys(t, "at the end", p, 1, k)
	crash(t, p, 1)
	boot(t, p, 1)
	wantRoles(t, "at the end", p, api.Master, api.Standby)
}

// TestBeatLease: one that beats is Master for as long as the lease is, and longer, if it beats again.
func TestBeatLease(t *testing.T) {
	for _, lease := range []int{1, 2, 20, 1000} {
		p := leased(t, "", lease)
		beat(t, p, 0, false)
		wantRoles(t, "at once", p, api.Master, api.Standby)
		tick(t, p, lease-1)
		wantRoles(t, "as long as the lease", p, api.Master, api.Standby)
		beat(t, p, 0, false)
		tick(t, p, lease-1)
		wantRoles(t, "again", p, api.Master, api.Standby)
		tick(t, p, 1)
		wantRoles(t, "over", p, api.Standby, api.Standby)
		beat(t, p, 0, false)
		wantRoles(t, "once more", p, api.Master, api.Standby)
	}
}

// TestBeatHeard: one that heard a greater priority does not ask, for 30.
func TestBeatHeard(t *testing.T) {
	p := two(t, "")
	beat(t, p, 0, false)
	for _, now := range []int{0, 19, 20, 29} {
		tick(t, p, now-p.Now())
		beat(t, p, 1, false)
		if got := p.Role(1); got != api.Standby {
			t.Errorf("at %d: got role %d", now, got)
		}
	}
	wantRoles(t, "it counts", p, api.Standby, api.Standby)
	tick(t, p, 1)
	beat(t, p, 1, false)
	wantRoles(t, "it counts no more", p, api.Standby, api.Master)
}

// TestBeatLost: what does not come is not heard; who beats gets its lease all the same.
func TestBeatLost(t *testing.T) {
	p := two(t, "")
	beat(t, p, 0, true)
	wantRoles(t, "lost", p, api.Master, api.Standby)
	beat(t, p, 1, true)
	wantRoles(t, "the other one has the lease", p, api.Master, api.Standby)
	tick(t, p, lease)
	beat(t, p, 1, true)
	wantRoles(t, "it did not hear", p, api.Standby, api.Master)

	p = two(t, "")
	beat(t, p, 1, true)
	beat(t, p, 0, true)
	wantRoles(t, "no error, and no lease", p, api.Standby, api.Master)
	tick(t, p, lease)
	beat(t, p, 0, true)
	wantRoles(t, "its turn", p, api.Master, api.Standby)
}

// TestBeatMaster: a Master keeps its lease, also once it has heard a greater priority; and the greater one gets it as soon as it is over.
func TestBeatMaster(t *testing.T) {
	p := two(t, "")
	beat(t, p, 1, false)
	for range 10 {
		beat(t, p, 0, false)
		beat(t, p, 1, false)
		wantRoles(t, "as it was", p, api.Standby, api.Master)
		tick(t, p, lease-1)
	}
	tick(t, p, 1)
	beat(t, p, 1, false)
	wantRoles(t, "it is over, and it heard of a greater one", p, api.Standby, api.Standby)
	beat(t, p, 0, false)
	wantRoles(t, "its turn", p, api.Master, api.Standby)
}

// TestBeatPrio: it says the priority that it has now.
func TestBeatPrio(t *testing.T) {
	p := two(t, "")
	if err := nodeOf(t, p, 0).Vote().Demote(150); err != nil {
		t.Fatal(err)
	}
	beat(t, p, 0, false)
	tick(t, p, lease)
	beat(t, p, 1, false)
	wantRoles(t, "50 is less than 100", p, api.Standby, api.Master)
	tick(t, p, lease)
	beat(t, p, 0, false)
	wantRoles(t, "100 is more than 50", p, api.Standby, api.Standby)
	if err := nodeOf(t, p, 0).Vote().Demote(-50); err != nil {
		t.Fatal(err)
	}
	beat(t, p, 0, false)
	wantRoles(t, "like ones: node 0", p, api.Master, api.Standby)
	tick(t, p, lease)
	beat(t, p, 1, false)
	wantRoles(t, "like ones: not node 1", p, api.Standby, api.Standby)
}

// TestBeatToDown: one that is Down hears nothing; nor has it heard anything when it is booted.
func TestBeatToDown(t *testing.T) {
	p := two(t, "")
	crash(t, p, 1)
	beat(t, p, 0, false)
	wantRoles(t, "alone", p, api.Master, api.Down)
	boot(t, p, 1)
	tick(t, p, lease)
	beat(t, p, 1, false)
	wantRoles(t, "it did not hear", p, api.Standby, api.Master)
}

// TestBeatSwapErrors: a number that is none, and one that is Down; nothing changes by them.
func TestBeatSwapErrors(t *testing.T) {
	calls := map[string]func(*Pair, int, bool) error{"Beat": (*Pair).Beat, "Swap": (*Pair).Swap}
	for what, call := range calls {
		for _, lost := range []bool{true, false} {
			p := two(t, keepAll)
			for _, i := range strangers() {
				wantErr(t, what, call(p, i, lost), api.ErrRange)
			}
			wantRoles(t, what, p, api.Standby, api.Standby)
			beat(t, p, 1, false)
			crash(t, p, 0)
			wantErr(t, what, call(p, 0, lost), api.ErrState)
			for _, i := range strangers() {
				wantErr(t, what, call(p, i, lost), api.ErrRange)
			}
			wantRoles(t, what, p, api.Down, api.Master)
			tick(t, p, lease)
			beat(t, p, 1, false)
			wantRoles(t, what+": nothing was heard, nobody has the lease", p, api.Down, api.Master)
			crash(t, p, 1)
			for i := range 2 {
				wantErr(t, what, call(p, i, lost), api.ErrState)
			}
		}
	}
}

// TestLaterTime: a node that was told a later time refuses, and nothing changes; to the other one it is as if it were lost.
func TestLaterTime(t *testing.T) {
	p := led(t, keepAll)
	k := keyOf(api.Single, 5)
	wantPassed(t, "begins", p, firstBytes(t, k), api.In)
	ahead := nodeOf(t, p, 1)
	if _, err := ahead.Flows(3); err != nil {
		t.Fatal(err)
	}
	wantErr(t, "Beat", p.Beat(1, false), api.ErrState)
	wantErr(t, "Swap", p.Swap(1, false), api.ErrState)
	wantRoles(t, "it lets nothing out", p, api.Master, api.Standby)
	beat(t, p, 0, false)
	swap(t, p, 0, false)
	crash(t, p, 0)
	wantErr(t, "Boot", p.Boot(0), api.ErrState)
	wantRoles(t, "not booted", p, api.Down, api.Standby)
	tick(t, p, 3)
	wantKeys(t, "nothing came", p, 1)
	boot(t, p, 0)
	wantRoles(t, "booted", p, api.Standby, api.Standby)
	swap(t, p, 1, false)
	beat(t, p, 1, false)
	wantRoles(t, "the lease is still node 0's", p, api.Standby, api.Standby)
}

// TestSwap: what one node knows comes to the other one, and that it came comes back.
func TestSwap(t *testing.T) {
	for master := range 2 {
		p := two(t, keepAll)
		beat(t, p, master, false)
		a, b := keyOf(api.Stream, 5), keyOf(api.Single, 6)
		wantPassed(t, "begins", p, firstBytes(t, a), api.In)
		wantPassed(t, "begins", p, firstBytes(t, b), api.In)
		wantKeys(t, "not yet", p, 1-master)
		swap(t, p, 1-master, false)
		wantKeys(t, "the other way", p, 1-master)
		swap(t, p, master, false)
		wantKeys(t, "both came", p, 1-master, a, b)
		if got, want := flowsOf(t, p, 1-master), flowsOf(t, p, master); !slices.Equal(got, want) {
			t.Errorf("flows: got %v, want %v", got, want)
		}
		tick(t, p, 5)
		swap(t, p, 1-master, false)
		wantNotes(t, "it heard that they came", p, master, 0)
		wantNotes(t, "it knows what came", p, 1-master, 2)
		tick(t, p, 30)
		beat(t, p, master, false)
		wantKeys(t, "both are over", p, master)
		wantNotes(t, "a Master tells of that", p, master, 0, 3, 4)
	}
}

// TestSwapLost: what does not come was told all the same, and is told again when 5 have gone by.
func TestSwapLost(t *testing.T) {
	p := led(t, keepAll)
	k := keyOf(api.Stream, 5)
	wantPassed(t, "begins", p, firstBytes(t, k), api.In)
	swap(t, p, 0, true)
	wantKeys(t, "lost", p, 1)
	swap(t, p, 0, false)
	wantKeys(t, "it was told", p, 1)
	tick(t, p, 4)
	swap(t, p, 0, false)
	wantKeys(t, "not yet again", p, 1)
	tick(t, p, 1)
	swap(t, p, 0, false)
	wantKeys(t, "again", p, 1, k)
	tick(t, p, 5)
	swap(t, p, 1, true)
	wantNotes(t, "it did not hear that it came", p, 0, 0, 1)
	swap(t, p, 1, false)
	tick(t, p, 5)
	wantNotes(t, "it heard it", p, 0, 0)
}

// TestSwapToDown: it comes to nobody, and is no error; it was told, as the node's log shows.
func TestSwapToDown(t *testing.T) {
	p := led(t, keepAll)
	k := keyOf(api.Stream, 5)
	wantPassed(t, "begins", p, firstBytes(t, k), api.In)
	crash(t, p, 1)
	swap(t, p, 0, false)
	wantNotes(t, "it was told", p, 0, 0)
	tick(t, p, lease)
	swap(t, p, 0, false)
	l := nodeOf(t, p, 0).Events()
	if last := l[len(l)-1]; last.What != api.Fell || last.Time != lease {
		t.Errorf("events: got %v, want that it Fell at %d", l, lease)
	}
	boot(t, p, 1)
	wantKeys(t, "it is new", p, 1)
}

// TestSwapGone: a flow that is over is gone at the other one, too.
func TestSwapGone(t *testing.T) {
	p := two(t, keepAll)
	beat(t, p, 0, false)
	wantPassed(t, "begins", p, firstBytes(t, keyOf(api.Echo, 5)), api.In)
	wantNotes(t, "Put", p, 0, 0, 1)
	tick(t, p, 10)
	wantNotes(t, "Gone, too", p, 0, 0, 1, 2)
	tick(t, p, 5)
	swap(t, p, 0, false)
	wantNotes(t, "both came", p, 1, 2)
	wantKeys(t, "gone", p, 1)
}
