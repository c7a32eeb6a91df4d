package audit

import (
	"math/rand"
	"slices"
	"testing"

	"portcullis/api"
	"portcullis/pair"
	"portcullis/rule"
	"portcullis/seg"
	"portcullis/wire"
)

// watched is a pair, and what its nodes have logged, in the order in which it was.
type watched struct {
	*pair.Pair
	read [2]int // how many of a node's events were read
	log  []api.Event
}

func watchedPair(t *testing.T, lease int) *watched {
	t.Helper()
	rules, _, err := rule.Parse("pass from any to any\nblock kind single from any to any port 23\n")
	if err != nil {
		t.Fatal(err)
	}
	p, err := pair.New(rules, lease)
	if err != nil {
		t.Fatal(err)
	}
	return &watched{Pair: p}
}

// look finds each node's role, node by node, and reads what was logged since the last look.
func (w *watched) look(t *testing.T) {
	t.Helper()
	for i := range w.read {
		n, err := w.Node(i)
		if err != nil {
			t.Fatal(err)
		}
		if _, err := n.Flows(w.Now()); err != nil {
			t.Fatal(err)
		}
		l := n.Events()
		w.log = append(w.log, l[w.read[i]:]...)
		w.read[i] = len(l)
	}
}

// someBytes are those of a packet, which the rules let pass or not.
func someBytes(t *testing.T, r *rand.Rand) []byte {
	t.Helper()
	src, dst := 10<<24|r.Intn(5), 192<<24|r.Intn(5)
	body, err := seg.Encode(api.Single, api.Segment{From: 5000, To: 22 + r.Intn(2)}, src, dst)
	if err != nil {
		t.Fatal(err)
	}
	b, err := wire.Encode(api.Packet{Kind: api.Single, Ttl: 9, Src: src, Dst: dst, Body: body})
	if err != nil {
		t.Fatal(err)
	}
	return b
}

// TestOfPair: what two nodes log is right, as never two forward; and it tells what came of them.
func TestOfPair(t *testing.T) {
	turns := 0
	for run := range 60 {
		r := rand.New(rand.NewSource(int64(run)))
		w := watchedPair(t, 1+r.Intn(40))
		out := 0
		led := [2]int{}
		for range 120 {
			by := r.Intn(10)
			if err := w.Tick(by); err != nil {
				t.Fatal(err)
			}
			// Looked at ahead of the beat, so that who has lost the lease is found to have fallen ahead of who then gets it.
			w.look(t)
			if err := w.Beat(r.Intn(2), r.Intn(3) == 0); err != nil {
				t.Fatal(err)
			}
			w.look(t)
			l, err := w.Offer(someBytes(t, r), api.In)
			if err != nil {
				t.Fatal(err)
			}
			out += len(l)
			w.look(t)
			for i := range led {
				if w.Role(i) == api.Master {
					led[i]++
				}
			}
		}
		turns += wantLog(t, w, out, led)
	}
	if turns < 60 {
		t.Errorf("the Master changed just %d times", turns)
	}
}

// wantLog holds a pair's log against what was seen of it: how much went out, and how often which node led. It tells how often the Master changed.
func wantLog(t *testing.T, w *watched, out int, led [2]int) (turns int) {
	t.Helper()
	if at, err := Check(w.log); err != nil {
		t.Fatalf("event %d of %v: %v", at, w.log, err)
	}
	through, stopped, up, err := Sums(w.log)
	if err != nil || through != out || through+stopped != led[0]+led[1] {
		t.Errorf("Sums: got %d, %d, %v, want %d of %v", through, stopped, err, out, led)
	}
	masters, err := Masters(w.log, w.Now())
	if err != nil || len(masters) != up {
		t.Fatalf("Masters: got %v, %v, want %d", masters, err, up)
	}
	total := w.Now()
	for i, m := range masters {
		total -= m[1] - m[0]
		if i > 0 && m[2] != masters[i-1][2] {
			turns++
		}
	}
	for node, times := range led {
		isOne := func(m [3]int) bool { return m[2] == node }
		if slices.ContainsFunc(masters, isOne) != (times > 0) {
			t.Errorf("node %d led %d times: Masters: got %v", node, times, masters)
		}
	}
	if longest, all, err := Gaps(w.log, w.Now()); err != nil || all != total || longest > all {
		t.Errorf("Gaps: got %d, %d, %v, want %d in all", longest, all, err, total)
	}
	return turns
}
