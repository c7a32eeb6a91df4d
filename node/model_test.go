package node

import (
	"bytes"
	"fmt"
	"math/rand"
	"slices"
	"testing"

	"portcullis/api"
	"portcullis/frag"
	"portcullis/judge"
	"portcullis/plain"
	"portcullis/seg"
	"portcullis/sync"
	"portcullis/track"
	"portcullis/wire"
)

// spoken is a note that was told: when it was last, if it ever was, and whether it was heard of.
type spoken struct {
	note  api.Note
	at    int
	heard bool
}

// model is a node as the chapters' words have it: lists that are gone through at each call.
type model struct {
	rules     []api.Rule
	flows     []api.Flow
	pool      *frag.Pool
	now       int
	lease     int
	wasMaster bool
	told      []spoken
	refused   int // notes that there was no room for
	late      int // how far behind what it told the other one hears of it
	waits     []api.Note
	seq       int
	events    []api.Event
}

func newModel(t *testing.T, rules []api.Rule) *model {
	t.Helper()
	pool, err := frag.New(60)
	if err != nil {
		t.Fatal(err)
	}
	return &model{rules: rules, pool: pool}
}

func (m *model) isMaster() bool { return m.lease > m.now }

func (m *model) grant(until, now int) {
	if now >= m.now {
		m.lease, m.now = until, now
	}
}

func (m *model) log(what int, k api.Key) {
	m.events = append(m.events, api.Event{Time: m.now, Node: id, What: what, Key: k})
}

func (m *model) tell(what int, f api.Flow) {
	left := 0
	for _, s := range m.told {
		if !s.heard {
			left++
		}
	}
	if left == 200 {
		m.refused++
		return
	}
	m.told = append(m.told, spoken{note: api.Note{What: what, Seq: len(m.told) + 1, Flow: f}, at: -1000})
}

// sort is the order of Flows, and, as no key of these tests is turned among its like, of what is gone.
func (m *model) sort() {
	slices.SortFunc(m.flows, func(f, g api.Flow) int {
		return slices.Compare(parts(seg.First(f.Key)), parts(seg.First(g.Key)))
	})
}

func parts(k api.Key) []int {
	return []int{k.Kind, k.Src, k.From, k.Dst, k.To}
}

func (m *model) begin(now int) api.Errno {
	if now < 0 || now > 1_000_000 {
		return api.ErrRange
	}
	if now < m.now {
		return api.ErrState
	}
	m.now = now
	if m.isMaster() && !m.wasMaster {
		m.log(api.Rose, api.Key{})
	}
	if !m.isMaster() && m.wasMaster {
		m.log(api.Fell, api.Key{})
	}
	m.wasMaster = m.isMaster()
	var flows []api.Flow
	var over []api.Key
	for _, f := range m.flows {
		if f.Until > now {
			flows = append(flows, f)
		} else {
			over = append(over, f.Key)
		}
	}
	m.flows = flows
	slices.SortFunc(over, func(k, l api.Key) int { return slices.Compare(parts(k), parts(l)) })
	for _, k := range over {
		if m.isMaster() {
			m.tell(api.Gone, api.Flow{Key: k})
		}
	}
	return api.OK
}

// find is where the flow of a key stands; -1: there is none.
func (m *model) find(k api.Key) int {
	return slices.IndexFunc(m.flows, func(f api.Flow) bool { return f.Key == k || f.Key == seg.Turn(k) })
}

func (m *model) packet(b []byte, way, now int) ([]byte, api.Errno) {
	if err := m.begin(now); err != api.OK {
		return nil, err
	}
	if way != 1 && way != 2 {
		return nil, api.ErrRange
	}
	p, used, err := wire.Read(b)
	switch {
	case err != nil:
		return nil, plain.Told(err)
	case used < len(b):
		return nil, api.ErrShape
	case p.Ttl == 0:
		return nil, api.ErrState
	}
	p.Ttl--
	p, done, err := m.pool.Add(p, now)
	if err != nil {
		return nil, plain.Told(err)
	}
	if !done || !m.isMaster() {
		return nil, api.OK
	}
	k, s, err := seg.KeyOf(p)
	if err != nil {
		return nil, plain.Told(err)
	}
	if !m.lets(k, s, way) {
		m.log(api.Blocked, k)
		return nil, api.ErrState
	}
	m.log(api.Passed, k)
	b, err = wire.Encode(p)
	return b, plain.Told(err)
}

func (m *model) lets(k api.Key, s api.Segment, way int) bool {
	if i := m.find(k); i >= 0 {
		side := 0
		if m.flows[i].Key != k {
			side = 1
		}
		f, err := track.Step(m.flows[i], s, side, m.now)
		if err != nil {
			return false
		}
		m.flows[i] = f
		m.tell(api.Put, f)
		return true
	}
	pass, keep, number, err := judge.Judge(m.rules, k, way)
	if err != nil || !pass || !keep {
		return pass
	}
	f, err := track.Begin(k, s, number, m.now)
	if err != nil || len(m.flows) == 30 {
		return false
	}
	m.flows = append(m.flows, f)
	m.tell(api.Put, f)
	return true
}

func (m *model) tellAll() {
	m.sort()
	for _, f := range m.flows {
		m.tell(api.Put, f)
	}
}

func (m *model) adopt(f api.Flow) {
	if f.Until <= m.now {
		return
	}
	i := m.find(f.Key)
	switch {
	case i >= 0 && m.flows[i].Stamp < f.Stamp:
		m.flows[i] = f
	case i < 0 && len(m.flows) < 30:
		m.flows = append(m.flows, f)
	}
}

func (m *model) heed(n api.Note) {
	switch n.What {
	case api.Put:
		m.adopt(n.Flow)
	case api.Gone:
		if i := m.find(n.Flow.Key); i >= 0 {
			m.flows = slices.Delete(m.flows, i, i+1)
		}
	case api.Want:
		m.tellAll()
		m.tell(api.All, api.Flow{})
	}
}

func (m *model) hear(n api.Note) {
	if n.What == api.Got {
		for i := range m.told {
			if n.Seq <= len(m.told) && m.told[i].note.Seq <= n.Seq {
				m.told[i].heard = true
			}
		}
		return
	}
	if n.What == api.Want && n.Seq == 0 {
		m.heed(n)
		return
	}
	if n.Seq <= m.seq || n.Seq > m.seq+200 || slices.ContainsFunc(m.waits, func(w api.Note) bool { return w.Seq == n.Seq }) {
		return
	}
	m.waits = append(m.waits, n)
	for {
		i := slices.IndexFunc(m.waits, func(w api.Note) bool { return w.Seq == m.seq+1 })
		if i < 0 {
			return
		}
		m.seq++
		m.heed(m.waits[i])
	}
}

func (m *model) note(b []byte, now int) api.Errno {
	if err := m.begin(now); err != api.OK {
		return err
	}
	for len(b) > 0 {
		n, used, err := sync.Read(b)
		if err != nil {
			return api.ErrSyntax
		}
		m.hear(n)
		b = b[used:]
	}
	return api.OK
}

func (m *model) notes(t *testing.T, now int) ([]byte, api.Errno) {
	t.Helper()
	if err := m.begin(now); err != api.OK {
		return nil, err
	}
	var l []api.Note
	for i, s := range m.told {
		if !s.heard && now-s.at >= 5 {
			l = append(l, s.note)
			m.told[i].at = now
		}
	}
	return noteBytes(t, append(l, api.Note{What: api.Got, Seq: m.seq})...), api.OK
}

func (m *model) reset(now int) api.Errno {
	if err := m.begin(now); err != api.OK {
		return err
	}
	m.told, m.waits, m.seq = nil, nil, 0
	m.tellAll()
	return api.OK
}

func (m *model) all(now int) ([]api.Flow, api.Errno) {
	if err := m.begin(now); err != api.OK {
		return nil, err
	}
	m.sort()
	return m.flows, api.OK
}

// texts of rules that are loaded.
func texts() []string {
	return []string{
		"", keepAll, keepAll, keepAll, passAll, blockAll,
		"pass kind stream from any to any keep\nblock in kind echo from any to any\n",
		"block from any to any\npass quick out from any to 192.168.0.0/16 keep\npass kind single from any port 80 to any\n",
	}
}

// somePacket is a packet, now and then one that is wrong, or a piece.
func somePacket(t *testing.T, r *rand.Rand) []byte {
	t.Helper()
	k := keyOf(1+r.Intn(3), r.Intn(14))
	s := firstOf(k)
	switch r.Intn(6) {
	case 0, 1:
		s = answerOf(k)
		k = seg.Turn(k)
	case 2:
		if k.Kind == api.Stream {
			s = api.Segment{From: k.From, To: k.To, Seq: 1004 + r.Intn(3), Ack: 7001, Win: 500, Flags: api.Ack | r.Intn(2)*api.Fin}
		}
	}
	p := packetOf(t, k, s)
	p.Ttl, p.Id = r.Intn(20), r.Intn(3)
	if r.Intn(30) == 0 {
		p.Kind = r.Intn(16)
	}
	if r.Intn(20) == 0 && len(p.Body) > 0 {
		p.Body[r.Intn(len(p.Body))]++
	}
	if r.Intn(4) == 0 {
		pieces, err := frag.Split(p, 8)
		if err != nil {
			t.Fatal(err)
		}
		p = pieces[r.Intn(len(pieces))]
		p.Ttl = 1 + r.Intn(19)
	}
	b := bytesOf(t, p)
	if r.Intn(40) == 0 {
		b = b[:r.Intn(len(b))]
	}
	return b
}

// someNotes are notes behind what was heard, now and then cut off.
func someNotes(t *testing.T, r *rand.Rand, m *model, now int) []byte {
	t.Helper()
	var b []byte
	for range r.Intn(5) {
		at := max(m.seq-1+r.Intn(5), 0)
		if r.Intn(30) == 0 {
			at += 198
		}
		f := flowOf(1+r.Intn(3), r.Intn(40), now+r.Intn(60), 1+r.Intn(4))
		l := []api.Note{
			put(at, f), put(at, f), gone(at, f.Key), {What: api.All, Seq: at},
			{What: api.Got, Seq: max(len(m.told)+1-r.Intn(m.late), 0)}, {What: api.Want, Seq: at * r.Intn(2)},
		}
		b = append(b, noteBytes(t, l[min(r.Intn(8), 5)])...)
		if r.Intn(40) == 0 {
			b = b[:len(b)-1]
		}
	}
	return b
}

// TestModel: long runs of calls, each of which answers what the model does.
func TestModel(t *testing.T) {
	seen := map[string]int{}
	for run := range 150 {
		r := rand.New(rand.NewSource(int64(run)))
		rules := rulesOf(t, keepAll)
		n, m := standby(t, keepAll), newModel(t, rules)
		m.late = 5 + run%2*2000 // with the greater one most of it is never heard of
		now := 0
		for step := range 300 {
			now += r.Intn(4) * r.Intn(2)
			at := now
			if r.Intn(30) == 0 {
				at = []int{-1, now - 1, 1_000_001}[r.Intn(3)]
			}
			got, want, kind := oneCall(t, r, n, m, at)
			if got != want {
				t.Fatalf("run %d, step %d: %s at %d:\ngot  %s\nwant %s", run, step, kind, at, got, want)
			}
			seen[kind]++
			if !slices.Equal(n.Events(), m.events) {
				t.Fatalf("run %d, step %d: %s at %d: Events: got %v, want %v", run, step, kind, at, n.Events(), m.events)
			}
		}
		for _, e := range m.events {
			seen[fmt.Sprint("event ", e.What)]++
		}
		seen["full"] += m.refused
	}
	for _, what := range []string{"packet OK", "packet out", "packet ErrState", "packet ErrSum", "note OK", "note ErrSyntax", "notes OK", "reset OK", "flows OK", "event 1", "event 2", "event 3", "event 4", "full"} {
		if seen[what] < 50 {
			t.Errorf("%s came about %d times: %v", what, seen[what], seen)
		}
	}
}

// oneCall is a random call: what the node and the model answer, and what it was.
func oneCall(t *testing.T, r *rand.Rand, n *Node, m *model, now int) (got, want, kind string) {
	t.Helper()
	tell := func(what any, err api.Errno) string { return fmt.Sprint(what, " ", err) }
	switch c := r.Intn(40); {
	case c < 24:
		b, way := somePacket(t, r), 1+r.Intn(2)
		if r.Intn(40) == 0 {
			way = 3 * r.Intn(2)
		}
		out, err := n.Packet(b, way, now)
		wish, wrong := m.packet(b, way, now)
		kind = "packet " + plain.Told(err).Error()
		if len(out) > 0 {
			kind = "packet out"
		}
		return tell(out, plain.Told(err)), tell(wish, wrong), kind
	case c < 30:
		b := someNotes(t, r, m, now)
		err := plain.Told(n.Note(b, now))
		return tell("", err), tell("", m.note(b, now)), "note " + err.Error()
	case c < 33:
		b, err := n.Notes(now)
		wish, wrong := m.notes(t, now)
		return tell(b, plain.Told(err)), tell(wish, wrong), "notes " + plain.Told(err).Error()
	case c < 36:
		l, err := n.Flows(now)
		wish, wrong := m.all(now)
		return tell(l, plain.Told(err)), tell(wish, wrong), "flows " + plain.Told(err).Error()
	case c < 37 && r.Intn(3) == 0:
		err := plain.Told(n.Reset(now))
		return tell("", err), tell("", m.reset(now)), "reset " + err.Error()
	case c < 38:
		m.rules = rulesOf(t, texts()[r.Intn(len(texts()))])
		return tell("", plain.Told(n.Load(m.rules))), tell("", api.OK), "load"
	}
	now = max(m.now, min(now, 1_000_000))
	until := now + r.Intn(3)*r.Intn(60)
	m.grant(until, now)
	return tell("", plain.Told(n.Vote().Grant(until, now))), tell("", api.OK), "grant"
}

// TestTwoNodes: what a Master knows a Standby learns, whatever was lost on the way; and goes on with it then.
func TestTwoNodes(t *testing.T) {
	r := rand.New(rand.NewSource(5))
	for run := range 60 {
		nodes := [2]*Node{master(t, keepAll), standby(t, keepAll)}
		now := 0
		swap := func(lost bool) {
			for from := range nodes {
				b, err := nodes[from].Notes(now)
				if err != nil {
					t.Fatal(err)
				}
				if lost && r.Intn(2) == 0 {
					continue
				}
				wantNoteBytes(t, "swap", nodes[1-from], now, api.OK, b)
			}
		}
		for range 150 {
			now += r.Intn(2)
			b := somePacket(t, r)
			nodes[0].Packet(b, api.In, now)
			if out, _ := nodes[1].Packet(b, api.In, now); len(out) > 0 {
				t.Fatalf("run %d: a Standby lets out %v", run, out)
			}
			if r.Intn(3) == 0 {
				swap(true)
			}
		}
		k := keyOf(api.Stream, 99)
		wantPassed(t, "begins", nodes[0], firstBytes(t, k), api.In, now)
		for range 3 {
			swap(false)
			now += 5
		}
		flows, err := nodes[0].Flows(now)
		if err != nil || len(flows) == 0 {
			t.Fatalf("run %d: got %v, %v", run, flows, err)
		}
		wantFlows(t, "the other one", nodes[1], now, flows...)
		swap(false)
		b, err := nodes[0].Notes(now)
		if l := notesOf(b); err != nil || len(l) != 1 {
			t.Errorf("run %d: still %v are told, %v", run, l, err)
		}
		grant(t, nodes[0], 0, now)
		grant(t, nodes[1], far, now)
		wantLoad(t, nodes[1], blockAll)
		wantOut(t, "no Master any more", nodes[0], answerBytes(t, k), api.In, now, nil)
		wantPassed(t, "goes on", nodes[1], answerBytes(t, k), api.In, now)
	}
}

// TestSameAgain: what calls answer hangs on the calls ahead alone.
func TestSameAgain(t *testing.T) {
	play := func() (all []byte) {
		r := rand.New(rand.NewSource(3))
		n := master(t, keepAll)
		for now := range 400 {
			out, _ := n.Packet(somePacket(t, r), api.In, now)
			b, _ := n.Notes(now)
			l, _ := n.Flows(now)
			all = append(append(append(all, out...), b...), fmt.Sprint(l)...)
		}
		return append(all, fmt.Sprint(n.Events())...)
	}
	first := play()
	for range 5 {
		if !bytes.Equal(play(), first) {
			t.Fatal("the same calls answer something else")
		}
	}
}
