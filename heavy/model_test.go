package heavy

import (
	"fmt"
	"math/rand"
	"slices"
	"testing"

	"portcullis/api"
	"portcullis/plain"
)

// slot is a count, of somebody or of nobody.
type slot struct {
	taken     bool
	key, many int
}

// model is a Heavy as the chapter's words have it: a list of n slots; and beside them what was truly Added.
type model struct {
	slots     []slot
	less, all int
	truth     map[int]int
}

func newModel(n int) *model {
	return &model{slots: make([]slot, n), truth: map[int]int{}}
}

func (m *model) add(key, many int) api.Errno {
	if many < 1 || many > api.MaxTime {
		return api.ErrRange
	}
	if m.all+many > 1<<40 {
		return api.ErrFull
	}
	m.all += many
	m.truth[key] += many
	m.spread(key, many)
	return api.OK
}

// spread goes on, as long as something of many is left.
func (m *model) spread(key, many int) {
	if many == 0 {
		return
	}
	for _, which := range []func(slot) bool{
		func(s slot) bool { return s.taken && s.key == key },
		func(s slot) bool { return !s.taken },
	} {
		if i := slices.IndexFunc(m.slots, which); i >= 0 {
			m.slots[i] = slot{true, key, m.slots[i].many + many}
			return
		}
	}
	least := many
	for _, s := range m.slots {
		least = min(least, s.many)
	}
	m.take(least)
	m.spread(key, many-least)
}

func (m *model) take(part int) {
	for i, s := range m.slots {
		if !s.taken {
			continue
		}
		s.many -= part
		if s.many <= 0 {
			s = slot{}
		}
		m.slots[i] = s
	}
	m.less += part
}

func (m *model) merge(o *model) api.Errno {
	n := len(m.slots)
	if len(o.slots) != n {
		return api.ErrShape
	}
	if m.all+o.all > 1<<40 {
		return api.ErrFull
	}
	others := slices.Clone(o.slots)
	m.slots = append(m.slots, make([]slot, n)...) // room for all; what is behind the first n is cut off again
	for _, s := range others {
		m.spread(s.key, s.many)
	}
	m.less += o.less
	m.all += o.all
	sums := map[int]int{}
	for _, one := range []*model{m, o} {
		for key, many := range one.truth {
			sums[key] += many
		}
	}
	m.truth = sums
	slices.SortFunc(m.slots, func(s, t slot) int { return t.many - s.many })
	if m.slots[n].taken {
		m.take(m.slots[n].many)
	}
	m.slots = m.slots[:n:n]
	return api.OK
}

func (m *model) top(n int) ([]api.Count, api.Errno) {
	if n < 1 || n > 20 {
		return nil, api.ErrRange
	}
	var l []api.Count
	for _, s := range m.slots {
		if s.taken {
			l = append(l, api.Count{Key: s.key, Many: s.many, Less: m.less})
		}
	}
	slices.SortFunc(l, func(a, b api.Count) int { return slices.Compare([]int{-a.Many, a.Key}, []int{-b.Many, b.Key}) })
	return l[:min(n, len(l))], api.OK
}

// TestAgainstModel: long runs of random calls on two that are merged now and then, with all that is there behind each; and each outcome was seen.
func TestAgainstModel(t *testing.T) {
	r := rand.New(rand.NewSource(13))
	seen := map[string]int{}
	for range 800 {
		n := 1 + r.Intn(6)
		other := n
		if r.Intn(5) == 0 {
			other = 1 + r.Intn(6)
		}
		h := [2]*Heavy{made(t, n), made(t, other)}
		m := [2]*model{newModel(n), newModel(other)}
		scale := []int{1, 4, 30, api.MaxTime}[r.Intn(4)]
		if r.Intn(8) == 0 {
			const many = 1<<40 - 1<<21
			h[0] = nearly(t, n)
			m[0].slots[0], m[0].all, m[0].truth[0] = slot{true, 0, many}, many, many
		}
		for range 60 {
			got, want, name := both(r, h, m, scale)
			if got != want {
				t.Fatalf("%s: got %s, want %s", name, got, want)
			}
			seen[name]++
			for i := range h {
				wantLike(t, name, h[i], m[i])
			}
		}
	}
	for _, name := range []string{
		"add OK", "add ErrRange", "add ErrFull", "top OK", "top ErrRange",
		"merge OK", "merge ErrShape", "merge ErrFull",
	} {
		if seen[name] < 20 {
			t.Errorf("%s was seen %d times", name, seen[name])
		}
	}
}

// both makes one random call on one of two and on its model: what each answers, and a name of the outcome.
func both(r *rand.Rand, h [2]*Heavy, m [2]*model, scale int) (got, want, name string) {
	i := r.Intn(2)
	switch k := r.Intn(12); {
	case k < 8:
		key, many := r.Intn(9)-2, 1+r.Intn(scale)
		if r.Intn(20) == 0 {
			many = []int{-1, 0, api.MaxTime, api.MaxTime + 1}[r.Intn(4)]
		}
		err, wrong := h[i].Add(key, many), m[i].add(key, many)
		return fmt.Sprint(plain.Told(err)), fmt.Sprint(wrong), fmt.Sprint("add ", wrong)
	case k < 10:
		n := r.Intn(api.MaxKeys + 2)
		l, err := h[i].Top(n)
		want, wrong := m[i].top(n)
		return fmt.Sprint(l, plain.Told(err)), fmt.Sprint(want, wrong), fmt.Sprint("top ", wrong)
	}
	o := r.Intn(2)
	err, wrong := h[i].Merge(h[o]), m[i].merge(m[o])
	return fmt.Sprint(plain.Told(err)), fmt.Sprint(wrong), fmt.Sprint("merge ", wrong)
}

// wantLike wants what the model has, and what the chapter promises of what was truly Added.
func wantLike(t *testing.T, name string, h *Heavy, m *model) {
	t.Helper()
	want, _ := m.top(api.MaxKeys)
	got, err := h.Top(api.MaxKeys)
	if !slices.Equal(got, want) || err != nil || h.All() != m.all {
		t.Fatalf("behind %s: got %v, %v, %d, want %v, %d", name, got, err, h.All(), want, m.all)
	}
	if less := h.Count(0).Less; less*(1+len(m.slots)) > h.All() || less != m.less {
		t.Fatalf("behind %s: %d may be lacking of %d, want %d", name, less, h.All(), m.less)
	}
	for key := -3; key < 9; key++ {
		c := h.Count(key)
		if c.Key != key || c.Many > m.truth[key] || m.truth[key] > c.Many+c.Less {
			t.Fatalf("behind %s: Count(%d): got %v, of %d", name, key, c, m.truth[key])
		}
	}
}
