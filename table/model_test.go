package table

import (
	"fmt"
	"math/rand"
	"slices"
	"testing"

	"portcullis/api"
	"portcullis/plain"
	"portcullis/seg"
	"portcullis/track"
)

// model is a table as the chapter's words have it: a list that is gone through at each call.
type model struct {
	most, now int
	flows     []api.Flow
}

func belongs(f api.Flow, k api.Key) bool {
	return f.Key == k || f.Key == seg.Turn(k)
}

// alive are the flows that are there at a time, with what is wrong with it.
func (m *model) alive(now int) (flows []api.Flow, gone []api.Key, err api.Errno) {
	if now < 0 || now > api.MaxTime {
		return nil, nil, api.ErrRange
	}
	if now < m.now {
		return nil, nil, api.ErrState
	}
	for _, f := range m.flows {
		if f.Until > now {
			flows = append(flows, f)
		} else {
			gone = append(gone, f.Key)
		}
	}
	return flows, gone, api.OK
}

func (m *model) tick(now int) ([]api.Key, api.Errno) {
	flows, gone, err := m.alive(now)
	if err != api.OK {
		return nil, err
	}
	slices.SortFunc(gone, func(k, l api.Key) int { return slices.Compare(parts(k), parts(l)) })
	m.now, m.flows = now, flows
	return gone, api.OK
}

func (m *model) begin(k api.Key, s api.Segment, rule, now int) (api.Flow, api.Errno) {
	flows, _, wrong := m.alive(now)
	if wrong != api.OK {
		return api.Flow{}, wrong
	}
	f, err := track.Begin(k, s, rule, now)
	if err != nil {
		return api.Flow{}, plain.Told(err)
	}
	if slices.ContainsFunc(flows, func(f api.Flow) bool { return belongs(f, k) }) {
		return api.Flow{}, api.ErrClash
	}
	if len(flows) == m.most {
		return api.Flow{}, api.ErrFull
	}
	m.now, m.flows = now, append(flows, f)
	return f, api.OK
}

func (m *model) offer(k api.Key, s api.Segment, now int) (api.Flow, api.Errno) {
	flows, _, wrong := m.alive(now)
	if wrong != api.OK {
		return api.Flow{}, wrong
	}
	for i, f := range flows {
		if !belongs(f, k) {
			continue
		}
		side := 0
		if k != f.Key || k.Kind == api.Echo && k == seg.Turn(k) && s.From == 1 {
			side = 1
		}
		then, err := track.Step(f, s, side, now)
		if err != nil {
			return api.Flow{}, plain.Told(err)
		}
		flows[i] = then
		m.now, m.flows = now, flows
		return then, api.OK
	}
	return api.Flow{}, api.ErrNone
}

func (m *model) adopt(f api.Flow, now int) (bool, api.Errno) {
	flows, _, wrong := m.alive(now)
	if wrong != api.OK {
		return false, wrong
	}
	if err := track.Check(f); err != nil {
		return false, plain.Told(err)
	}
	at := slices.IndexFunc(flows, func(g api.Flow) bool { return belongs(g, f.Key) })
	adopted := true
	switch {
	case f.Until <= now, at >= 0 && flows[at].Stamp >= f.Stamp:
		adopted = false
	case at >= 0:
		flows[at] = f
	case len(flows) == m.most:
		return false, api.ErrFull
	default:
		flows = append(flows, f)
	}
	m.now, m.flows = now, flows
	return adopted, api.OK
}

func (m *model) drop(k api.Key) bool {
	were := len(m.flows)
	m.flows = slices.DeleteFunc(m.flows, func(f api.Flow) bool { return belongs(f, k) })
	return len(m.flows) < were
}

func (m *model) all() []api.Flow {
	all := slices.Clone(m.flows)
	slices.SortFunc(all, func(f, g api.Flow) int { return slices.Compare(parts(seg.First(f.Key)), parts(seg.First(g.Key))) })
	return all
}

func parts(k api.Key) []int {
	return []int{k.Kind, k.Src, k.From, k.Dst, k.To}
}

// randomKey is one of few, so that they meet; now and then it is none.
func randomKey(r *rand.Rand) api.Key {
	k := api.Key{Kind: 1 + r.Intn(3), Src: r.Intn(2), From: r.Intn(2), Dst: r.Intn(2), To: r.Intn(2)}
	if k.Kind == api.Echo {
		k.To = k.From
	}
	if r.Intn(40) == 0 {
		k.Kind = r.Intn(6) - 1
	}
	if r.Intn(40) == 0 {
		k.Src = -1
	}
	return k
}

// randomSaid is what may be said by a key, mostly.
func randomSaid(r *rand.Rand, k api.Key) api.Segment {
	var s api.Segment
	switch r.Intn(3) {
	case 0:
		s = answerOf(seg.Turn(k))
	default:
		s = firstOf(k)
	}
	if r.Intn(12) == 0 {
		s.From = r.Intn(4) - 1
	}
	if r.Intn(30) == 0 {
		s.Seq += r.Intn(3) - 1
	}
	if r.Intn(30) == 0 {
		s.Flags = r.Intn(17)
	}
	return s
}

func randomFlow(r *rand.Rand, now int) api.Flow {
	f := flowOf(randomKey(r), max(0, now-5+r.Intn(60)), 1+r.Intn(5))
	if r.Intn(20) == 0 {
		f.Stamp = 0
	}
	if r.Intn(20) == 0 {
		f.Done[0] = !f.Done[0]
	}
	return f
}

// randomTime goes on, mostly by little.
func randomTime(r *rand.Rand, last int) int {
	switch r.Intn(30) {
	case 0:
		return last - 1 - r.Intn(3)
	case 1:
		return api.MaxTime + 1
	case 2:
		return last + r.Intn(70)
	}
	return last + r.Intn(3)
}

// TestAgainstModel: long runs of random calls, with all that is there behind each; and each outcome was seen.
func TestAgainstModel(t *testing.T) {
	r := rand.New(rand.NewSource(12))
	seen := map[string]int{}
	for range 600 {
		most := 1 + r.Intn(6)
		l, m := made(t, most), &model{most: most}
		for range 60 {
			got, want, name := both(r, l, m)
			if got != want {
				t.Fatalf("%s: got %s, want %s", name, got, want)
			}
			if all := l.All(); !slices.Equal(all, m.all()) || l.Len() != len(all) {
				t.Fatalf("behind %s: got %v, %d, want %v", name, all, l.Len(), m.all())
			}
			seen[name]++
		}
	}
	for _, name := range []string{
		"begin OK", "begin ErrRange", "begin ErrState", "begin ErrShape", "begin ErrClash", "begin ErrFull",
		"offer OK", "offer ErrRange", "offer ErrState", "offer ErrShape", "offer ErrNone",
		"adopt true OK", "adopt false OK", "adopt ErrRange", "adopt ErrState", "adopt ErrShape", "adopt ErrFull",
		"tick none OK", "tick some OK", "tick ErrRange", "tick ErrState", "drop true", "drop false", "get OK", "get ErrNone",
	} {
		if seen[name] < 20 {
			t.Errorf("%s was seen %d times", name, seen[name])
		}
	}
}

// both makes one random call on a table and on its model: what each answers, and a name of the outcome.
func both(r *rand.Rand, l *Table, m *model) (got, want, name string) {
	now := randomTime(r, m.now)
	k := randomKey(r)
	switch r.Intn(8) {
	case 0, 1:
		s := randomSaid(r, k)
		f, err := l.Begin(k, s, 3, now)
		g, wrong := m.begin(k, s, 3, now)
		return fmt.Sprint(f, plain.Told(err)), fmt.Sprint(g, wrong), fmt.Sprint("begin ", wrong)
	case 2, 3:
		s := randomSaid(r, k)
		f, err := l.Offer(k, s, now)
		g, wrong := m.offer(k, s, now)
		return fmt.Sprint(f, plain.Told(err)), fmt.Sprint(g, wrong), fmt.Sprint("offer ", wrong)
	case 4, 5:
		f := randomFlow(r, now)
		ok, err := l.Adopt(f, now)
		is, wrong := m.adopt(f, now)
		name = fmt.Sprint("adopt ", wrong)
		if wrong == api.OK {
			name = fmt.Sprint("adopt ", is, " ", wrong)
		}
		return fmt.Sprint(ok, plain.Told(err)), fmt.Sprint(is, wrong), name
	case 6:
		keys, err := l.Tick(now)
		gone, wrong := m.tick(now)
		name = fmt.Sprint("tick ", wrong)
		if wrong == api.OK {
			name = fmt.Sprint("tick ", map[bool]string{true: "none", false: "some"}[len(gone) == 0], " ", wrong)
		}
		return fmt.Sprint(keys, plain.Told(err)), fmt.Sprint(gone, wrong), name
	}
	if r.Intn(3) == 0 {
		was, is := l.Drop(k), m.drop(k)
		return fmt.Sprint(was), fmt.Sprint(is), fmt.Sprint("drop ", is)
	}
	f, err := l.Get(k)
	var g api.Flow
	wrong := api.ErrNone
	for _, h := range m.flows {
		if belongs(h, k) {
			g, wrong = h, api.OK
		}
	}
	return fmt.Sprint(f, plain.Told(err)), fmt.Sprint(g, wrong), fmt.Sprint("get ", wrong)
}
