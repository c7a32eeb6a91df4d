package heavy

import (
	"math"
	"slices"
	"testing"

	"portcullis/api"
	"portcullis/plain"
)

func made(t *testing.T, n int) *Heavy {
	t.Helper()
	h, err := New(n)
	if err != nil || h == nil {
		t.Fatalf("New(%d): got %v, %v, want one", n, h, err)
	}
	return h
}

// with is one of n to which pairs of a key and how many were Added.
func with(t *testing.T, n int, pairs ...[2]int) *Heavy {
	t.Helper()
	h := made(t, n)
	for _, p := range pairs {
		wantAdd(t, h, p[0], p[1])
	}
	return h
}

// nearly is one of n to which all but 2^21 of what may be was Added, of the key 0, by few calls.
func nearly(t *testing.T, n int) *Heavy {
	t.Helper()
	h, o := made(t, n), with(t, n, [2]int{0, 1 << 19})
	wantMerge(t, o, o)
	for power := 21; power < 40; power++ {
		wantMerge(t, o, o)
		wantMerge(t, h, o)
	}
	return h
}

// full is one of n to which all that may be was Added, of the key 0.
func full(t *testing.T, n int) *Heavy {
	t.Helper()
	h := nearly(t, n)
	for range 4 {
		wantAdd(t, h, 0, 1<<19)
	}
	return h
}

func wantAdd(t *testing.T, h *Heavy, key, many int) {
	t.Helper()
	if err := h.Add(key, many); err != nil {
		t.Errorf("Add(%d, %d): got %v", key, many, err)
	}
}

func wantMerge(t *testing.T, h, o *Heavy) {
	t.Helper()
	if err := h.Merge(o); err != nil {
		t.Errorf("Merge: got %v", err)
	}
}

// wantCounts wants just these counts, in this order, with what may be lacking and what was Added, by all that tells of them.
func wantCounts(t *testing.T, what string, h *Heavy, less, all int, pairs ...[2]int) {
	t.Helper()
	var want []api.Count
	for _, p := range pairs {
		want = append(want, api.Count{Key: p[0], Many: p[1], Less: less})
	}
	if got, err := h.Top(api.MaxKeys); !slices.Equal(got, want) || err != nil {
		t.Errorf("%s: Top: got %v, %v, want %v", what, got, err, want)
	}
	for _, c := range want {
		if got := h.Count(c.Key); got != c {
			t.Errorf("%s: Count(%d): got %v, want %v", what, c.Key, got, c)
		}
	}
	if h.All() != all {
		t.Errorf("%s: All: got %d, want %d", what, h.All(), all)
	}
	none := api.Count{Key: -77, Less: less}
	if got := h.Count(-77); got != none {
		t.Errorf("%s: Count of a key that has none: got %v, want %v", what, got, none)
	}
}

// H1: New

// TestNew: from 1 to MaxKeys counts, all of nobody.
func TestNew(t *testing.T) {
	for n := 1; n <= api.MaxKeys; n++ {
		wantCounts(t, "new", made(t, n), 0, 0)
	}
	for _, n := range []int{math.MinInt, -1, 0, api.MaxKeys + 1, math.MaxInt} {
		if h, err := New(n); h != nil || plain.Told(err) != api.ErrRange {
			t.Errorf("New(%d): got %v, %v, want ErrRange", n, h, err)
		}
	}
}

// TestKeeps: n counts find room, and not one more.
func TestKeeps(t *testing.T) {
	for n := 1; n <= api.MaxKeys; n++ {
		h := made(t, n)
		var all [][2]int
		for key := range n {
			wantAdd(t, h, key, 2)
			all = append(all, [2]int{key, 2})
		}
		wantCounts(t, "as many as it keeps", h, 0, 2*n, all...)
		wantAdd(t, h, n, 1)
		for i := range all {
			all[i][1]--
		}
		wantCounts(t, "one more", h, 1, 2*n+1, all...)
	}
}

// H1: Add

// TestAddToItsOwn: a key's count grows, in a full one too, and no other one is touched.
func TestAddToItsOwn(t *testing.T) {
	h := with(t, 2, [2]int{5, 3}, [2]int{6, 4}, [2]int{5, 2}, [2]int{6, 8}, [2]int{5, 1})
	wantCounts(t, "its own", h, 0, 18, [2]int{6, 12}, [2]int{5, 6})
}

// TestAddToNobodys: a count of nobody's is taken ahead of anything being taken away.
func TestAddToNobodys(t *testing.T) {
	h := with(t, 3, [2]int{5, 3}, [2]int{6, 4})
	wantCounts(t, "two of three", h, 0, 7, [2]int{6, 4}, [2]int{5, 3})
	wantAdd(t, h, 7, 1)
	wantCounts(t, "three of three", h, 0, 8, [2]int{6, 4}, [2]int{5, 3}, [2]int{7, 1})
}

// TestAddTakes: the least of the counts and of many is taken of all, and what is left of many finds room.
func TestAddTakes(t *testing.T) {
	for _, c := range []struct {
		what  string
		many  int
		less  int
		pairs [][2]int
	}{
		{"many is the least", 2, 2, [][2]int{{6, 7}, {5, 2}, {4, 1}}},
		{"many is like the least count", 3, 3, [][2]int{{6, 6}, {5, 1}}},
		{"one more than the least count", 4, 3, [][2]int{{6, 6}, {5, 1}, {9, 1}}},
		{"like another count", 9, 3, [][2]int{{6, 6}, {9, 6}, {5, 1}}},
		{"more than all", 20, 3, [][2]int{{9, 17}, {6, 6}, {5, 1}}},
		{"the most", api.MaxTime, 3, [][2]int{{9, api.MaxTime - 3}, {6, 6}, {5, 1}}},
	} {
		h := with(t, 3, [2]int{4, 3}, [2]int{5, 4}, [2]int{6, 9})
		wantAdd(t, h, 9, c.many)
		wantCounts(t, c.what, h, c.less, 16+c.many, c.pairs...)
	}
}

// TestAddFrees: all counts that come to 0 are nobody's, and take others without anything being taken away.
func TestAddFrees(t *testing.T) {
	h := with(t, 3, [2]int{4, 3}, [2]int{5, 3}, [2]int{6, 9}, [2]int{7, 3})
	wantCounts(t, "freed", h, 3, 18, [2]int{6, 6})
	wantAdd(t, h, 8, 1)
	wantAdd(t, h, 4, 2)
	wantCounts(t, "taken again", h, 3, 21, [2]int{6, 6}, [2]int{4, 2}, [2]int{8, 1})
	wantAdd(t, h, 9, 5)
	wantCounts(t, "lacking more", h, 4, 26, [2]int{6, 5}, [2]int{9, 4}, [2]int{4, 1})
}

// TestAddToOne: of one count alone.
func TestAddToOne(t *testing.T) {
	h := with(t, 1, [2]int{4, 5}, [2]int{5, 3})
	wantCounts(t, "less", h, 3, 8, [2]int{4, 2})
	wantAdd(t, h, 5, 2)
	wantCounts(t, "as much", h, 5, 10)
	wantAdd(t, h, 5, 2)
	wantAdd(t, h, 4, 6)
	wantCounts(t, "more", h, 7, 18, [2]int{4, 4})
}

// TestAddAnyKey: every number may be a key.
func TestAddAnyKey(t *testing.T) {
	h := with(t, 4, [2]int{math.MaxInt, 2}, [2]int{0, 2}, [2]int{math.MinInt, 2}, [2]int{-1, 2})
	wantCounts(t, "keys", h, 0, 8, [2]int{math.MinInt, 2}, [2]int{-1, 2}, [2]int{0, 2}, [2]int{math.MaxInt, 2})
	wantAdd(t, h, math.MinInt+1, 3)
	wantCounts(t, "another one", h, 2, 11, [2]int{math.MinInt + 1, 1})
}

// TestAddRange: many is from 1 to MaxTime, and what is refused changes nothing.
func TestAddRange(t *testing.T) {
	h := with(t, 2, [2]int{4, 1}, [2]int{5, api.MaxTime})
	for _, many := range []int{math.MinInt, -1, 0, api.MaxTime + 1, 1 << 40, 1<<40 + 1, math.MaxInt} {
		for _, key := range []int{4, 5, 6} {
			if err := h.Add(key, many); plain.Told(err) != api.ErrRange {
				t.Errorf("Add(%d, %d): got %v, want ErrRange", key, many, err)
			}
			wantCounts(t, "refused", h, 0, api.MaxTime+1, [2]int{5, api.MaxTime}, [2]int{4, 1})
		}
	}
}

// TestAddFull: all that was Added is at most 2^40; ErrRange is told ahead of that; what is refused changes nothing.
func TestAddFull(t *testing.T) {
	h := full(t, 2)
	wantCounts(t, "full", h, 0, 1<<40, [2]int{0, 1 << 40})
	for _, key := range []int{0, 1} {
		for _, many := range []int{1, api.MaxTime} {
			if err := h.Add(key, many); plain.Told(err) != api.ErrFull {
				t.Errorf("Add(%d, %d): got %v, want ErrFull", key, many, err)
			}
		}
		for _, many := range []int{0, api.MaxTime + 1} {
			if err := h.Add(key, many); plain.Told(err) != api.ErrRange {
				t.Errorf("Add(%d, %d): got %v, want ErrRange", key, many, err)
			}
		}
	}
	wantCounts(t, "refused", h, 0, 1<<40, [2]int{0, 1 << 40})
}

// TestAddUpToFull: what comes to just 2^40 is taken, and one more is not, though less is left in the counts.
func TestAddUpToFull(t *testing.T) {
	const left = 1<<21 - 2*api.MaxTime
	h := nearly(t, 1)
	wantAdd(t, h, 1, api.MaxTime)
	wantAdd(t, h, 1, api.MaxTime)
	if err := h.Add(1, left+1); plain.Told(err) != api.ErrFull {
		t.Errorf("Add of one too many: got %v, want ErrFull", err)
	}
	wantCounts(t, "refused", h, 2*api.MaxTime, 1<<40-left, [2]int{0, 1<<40 - 1<<21 - 2*api.MaxTime})
	wantAdd(t, h, 1, left)
	wantCounts(t, "full", h, 1<<21, 1<<40, [2]int{0, 1<<40 - 1<<22})
	for _, key := range []int{0, 1} {
		if err := h.Add(key, 1); plain.Told(err) != api.ErrFull {
			t.Errorf("Add(%d, 1): got %v, want ErrFull", key, err)
		}
	}
	wantCounts(t, "refused", h, 1<<21, 1<<40, [2]int{0, 1<<40 - 1<<22})
}

// H2: Count

// TestCount: what a key has, and what may be lacking, of a key without a count too.
func TestCount(t *testing.T) {
	h := with(t, 2, [2]int{4, 5}, [2]int{5, 7}, [2]int{6, 3})
	for _, c := range []api.Count{
		{Key: 4, Many: 2, Less: 3}, {Key: 5, Many: 4, Less: 3}, {Key: 6, Many: 0, Less: 3},
		{Key: 0, Less: 3}, {Key: math.MinInt, Less: 3}, {Key: math.MaxInt, Less: 3},
	} {
		if got := h.Count(c.Key); got != c {
			t.Errorf("Count(%d): got %v, want %v", c.Key, got, c)
		}
	}
	wantCounts(t, "asked", h, 3, 15, [2]int{5, 4}, [2]int{4, 2})
}

// TestCountGivesNone: a key that is asked has no count by that.
func TestCountGivesNone(t *testing.T) {
	h := made(t, 1)
	h.Count(4)
	wantAdd(t, h, 5, 3)
	wantCounts(t, "asked of another one", h, 0, 3, [2]int{5, 3})
}

// TestLessIsBounded: n + 1 keys, each as much, lack as much as may be.
func TestLessIsBounded(t *testing.T) {
	for n := 1; n <= api.MaxKeys; n++ {
		h := made(t, n)
		for round := 1; round <= 3; round++ {
			for key := range n + 1 {
				wantAdd(t, h, key, 10)
			}
			wantCounts(t, "each as much", h, 10*round, 10*round*(n+1))
		}
	}
}

// H2: Top

// TestTop: the greatest first, of equal ones by key, as many as are asked for.
func TestTop(t *testing.T) {
	h := with(t, 6, [2]int{9, 4}, [2]int{-3, 7}, [2]int{2, 4}, [2]int{8, 1}, [2]int{-5, 4}, [2]int{1, 7})
	want := []api.Count{{Key: -3, Many: 7}, {Key: 1, Many: 7}, {Key: -5, Many: 4}, {Key: 2, Many: 4}, {Key: 9, Many: 4}, {Key: 8, Many: 1}}
	for n := 1; n <= api.MaxKeys; n++ {
		got, err := h.Top(n)
		if !slices.Equal(got, want[:min(n, len(want))]) || err != nil {
			t.Errorf("Top(%d): got %v, %v", n, got, err)
		}
	}
}

// TestTopMany: up to MaxKeys are told, of one that keeps as many.
func TestTopMany(t *testing.T) {
	h := made(t, api.MaxKeys)
	for key := range api.MaxKeys {
		wantAdd(t, h, key, 1+key)
	}
	for n := 1; n <= api.MaxKeys; n++ {
		got, err := h.Top(n)
		if len(got) != n || err != nil {
			t.Fatalf("Top(%d): got %v, %v", n, got, err)
		}
		for i, c := range got {
			key := api.MaxKeys - 1 - i
			if c != (api.Count{Key: key, Many: 1 + key}) {
				t.Errorf("Top(%d): %d: got %v", n, i, c)
			}
		}
	}
}

// TestTopLess: what may be lacking stands with each.
func TestTopLess(t *testing.T) {
	h := with(t, 2, [2]int{4, 5}, [2]int{5, 7}, [2]int{6, 3})
	got, err := h.Top(1)
	if want := []api.Count{{Key: 5, Many: 4, Less: 3}}; !slices.Equal(got, want) || err != nil {
		t.Errorf("Top(1): got %v, %v, want %v", got, err, want)
	}
}

// TestTopRange: from 1 to MaxKeys, whatever its own n is.
func TestTopRange(t *testing.T) {
	for _, n := range []int{1, api.MaxKeys} {
		h := with(t, n, [2]int{4, 5})
		for _, asked := range []int{math.MinInt, -1, 0, api.MaxKeys + 1, math.MaxInt} {
			if got, err := h.Top(asked); len(got) != 0 || plain.Told(err) != api.ErrRange {
				t.Errorf("Top(%d): got %v, %v, want ErrRange", asked, got, err)
			}
		}
	}
}

// TestTopEmpty: of none there are none.
func TestTopEmpty(t *testing.T) {
	for _, h := range []*Heavy{made(t, 3), with(t, 1, [2]int{4, 5}, [2]int{5, 5})} {
		if got, err := h.Top(1); len(got) != 0 || err != nil {
			t.Errorf("Top(1): got %v, %v, want none", got, err)
		}
	}
}

// H2: All

// TestAll: all that was Added, of keys that have no count any more, too.
func TestAll(t *testing.T) {
	h := made(t, 2)
	all := 0
	for i := range 50 {
		wantAdd(t, h, i%7, 1+i%5)
		all += 1 + i%5
		if h.All() != all {
			t.Fatalf("All: got %d, want %d", h.All(), all)
		}
	}
}

// H2: Merge

// TestMerge: key by key, with what may be lacking of both; nothing more is taken, while there is room.
func TestMerge(t *testing.T) {
	h := with(t, 3, [2]int{4, 9}, [2]int{5, 8}, [2]int{6, 2}, [2]int{7, 2})
	wantCounts(t, "its own", h, 2, 21, [2]int{4, 7}, [2]int{5, 6})
	o := with(t, 3, [2]int{5, 6}, [2]int{8, 8}, [2]int{9, 3}, [2]int{7, 3})
	wantCounts(t, "the other one's", o, 3, 20, [2]int{8, 5}, [2]int{5, 3})
	wantMerge(t, h, o)
	wantCounts(t, "merged", h, 5, 41, [2]int{5, 9}, [2]int{4, 7}, [2]int{8, 5})
	wantCounts(t, "the other one stays", o, 3, 20, [2]int{8, 5}, [2]int{5, 3})
}

// TestMergeTakes: of more than n keys, the n + 1-st greatest count is taken of all; those of 0 and below are nobody's.
func TestMergeTakes(t *testing.T) {
	for _, c := range []struct {
		what   string
		h, o   [][2]int
		less   int
		merged [][2]int
	}{
		{"one too many", [][2]int{{1, 9}, {2, 5}}, [][2]int{{2, 2}, {3, 4}}, 4, [][2]int{{1, 5}, {2, 3}}},
		{"two too many", [][2]int{{1, 9}, {2, 5}}, [][2]int{{3, 7}, {4, 4}}, 5, [][2]int{{1, 4}, {3, 2}}},
		{"those below", [][2]int{{1, 2}, {2, 1}}, [][2]int{{3, 8}, {4, 9}}, 2, [][2]int{{4, 7}, {3, 6}}},
		{"the n-th is like it", [][2]int{{1, 9}, {2, 5}}, [][2]int{{3, 5}, {4, 1}}, 5, [][2]int{{1, 4}}},
		{"all are like it", [][2]int{{1, 5}, {2, 5}}, [][2]int{{3, 5}, {4, 5}}, 5, nil},
		{"its own are the least", [][2]int{{1, 1}, {2, 1}}, [][2]int{{3, 4}, {4, 4}}, 1, [][2]int{{3, 3}, {4, 3}}},
		{"just as many", [][2]int{{1, 9}, {2, 5}}, [][2]int{{2, 5}, {1, 1}}, 0, [][2]int{{1, 10}, {2, 10}}},
	} {
		h, o := with(t, 2, c.h...), with(t, 2, c.o...)
		all := h.All() + o.All()
		wantMerge(t, h, o)
		wantCounts(t, c.what, h, c.less, all, c.merged...)
		slices.SortStableFunc(c.o, func(p, q [2]int) int { return q[1] - p[1] })
		wantCounts(t, c.what+": the other one stays", o, 0, c.o[0][1]+c.o[1][1], c.o...)
	}
}

// TestMergeMany: all counts of two that keep MaxKeys.
func TestMergeMany(t *testing.T) {
	h, o := made(t, api.MaxKeys), made(t, api.MaxKeys)
	var want [][2]int
	all := 0
	for i := range api.MaxKeys {
		wantAdd(t, h, i, 100+2*i)
		wantAdd(t, o, 50+i, 101+2*i)
		all += 201 + 4*i
	}
	least := 100 + api.MaxKeys - 1
	for many := 100 + 2*api.MaxKeys - 1; many > least; many-- {
		want = append(want, [2]int{many%2*50 + (many-100)/2, many - least})
	}
	wantMerge(t, h, o)
	wantCounts(t, "merged", h, least, all, want...)
}

// TestMergeNothing: one of nobody's counts changes nothing, but for what it lacks and was Added.
func TestMergeNothing(t *testing.T) {
	h := with(t, 1, [2]int{4, 9})
	wantMerge(t, h, made(t, 1))
	wantCounts(t, "nothing", h, 0, 9, [2]int{4, 9})
	wantMerge(t, h, with(t, 1, [2]int{5, 3}, [2]int{6, 3}))
	wantCounts(t, "nothing left", h, 3, 15, [2]int{4, 9})
	o := made(t, 1)
	wantMerge(t, o, h)
	wantCounts(t, "into nothing", o, 3, 15, [2]int{4, 9})
}

// TestMergeItself: all is there twice.
func TestMergeItself(t *testing.T) {
	h := with(t, 2, [2]int{4, 5}, [2]int{5, 7}, [2]int{6, 3})
	wantMerge(t, h, h)
	wantCounts(t, "twice", h, 6, 30, [2]int{5, 8}, [2]int{4, 4})
}

// TestMergeApart: what is done with one later is not seen in the other one.
func TestMergeApart(t *testing.T) {
	h, o := made(t, 2), with(t, 2, [2]int{4, 5}, [2]int{5, 7})
	wantMerge(t, h, o)
	wantAdd(t, h, 4, 1)
	wantAdd(t, o, 5, 2)
	wantAdd(t, o, 6, 1)
	wantCounts(t, "one", h, 0, 13, [2]int{5, 7}, [2]int{4, 6})
	wantCounts(t, "the other one", o, 1, 15, [2]int{5, 8}, [2]int{4, 4})
}

// TestMergeShape: another n, and nothing is changed; that is told ahead of ErrFull.
func TestMergeShape(t *testing.T) {
	for _, c := range [][2]int{{2, 1}, {2, 3}, {1, api.MaxKeys}, {api.MaxKeys, 1}} {
		h, o := with(t, c[0], [2]int{4, 5}), with(t, c[1], [2]int{5, 7})
		if err := h.Merge(o); plain.Told(err) != api.ErrShape {
			t.Errorf("Merge of %d into %d: got %v, want ErrShape", c[1], c[0], err)
		}
		wantCounts(t, "refused", h, 0, 5, [2]int{4, 5})
		wantCounts(t, "refused", o, 0, 7, [2]int{5, 7})
		if err := full(t, c[0]).Merge(full(t, c[1])); plain.Told(err) != api.ErrShape {
			t.Errorf("Merge of %d into %d, both full: got %v, want ErrShape", c[1], c[0], err)
		}
	}
	h := with(t, 2, [2]int{4, 5})
	if err := h.Merge(nil); plain.Told(err) != api.ErrShape {
		t.Errorf("Merge of nil: got %v, want ErrShape", err)
	}
	wantCounts(t, "refused", h, 0, 5, [2]int{4, 5})
}

// TestMergeFull: together at most 2^40 was Added, and what is refused changes nothing.
func TestMergeFull(t *testing.T) {
	h, o := full(t, 2), with(t, 2, [2]int{5, 1})
	for _, c := range [][2]*Heavy{{h, o}, {o, h}, {h, h}} {
		if err := c[0].Merge(c[1]); plain.Told(err) != api.ErrFull {
			t.Errorf("Merge beyond 2^40: got %v, want ErrFull", err)
		}
	}
	wantCounts(t, "refused", h, 0, 1<<40, [2]int{0, 1 << 40})
	wantCounts(t, "refused", o, 0, 1, [2]int{5, 1})
	wantMerge(t, h, made(t, 2))
	wantCounts(t, "nothing", h, 0, 1<<40, [2]int{0, 1 << 40})
}

// TestMergeGoesOn: what is merged is Added to like any other one.
func TestMergeGoesOn(t *testing.T) {
	h := with(t, 2, [2]int{1, 9}, [2]int{2, 5})
	wantMerge(t, h, with(t, 2, [2]int{3, 5}, [2]int{4, 1}))
	wantCounts(t, "one of nobody's", h, 5, 20, [2]int{1, 4})
	wantAdd(t, h, 2, 3)
	wantCounts(t, "its again", h, 5, 23, [2]int{1, 4}, [2]int{2, 3})
	wantAdd(t, h, 3, 4)
	wantCounts(t, "taken", h, 8, 27, [2]int{1, 1}, [2]int{3, 1})
}

// P2

// TestFresh: what comes out is the caller's.
func TestFresh(t *testing.T) {
	h := with(t, 3, [2]int{4, 5}, [2]int{5, 7})
	one, _ := h.Top(3)
	two, _ := h.Top(3)
	one[0], one[1] = api.Count{}, api.Count{}
	if want := []api.Count{{Key: 5, Many: 7}, {Key: 4, Many: 5}}; !slices.Equal(two, want) {
		t.Errorf("two lists share memory: got %v, want %v", two, want)
	}
	wantCounts(t, "written into", h, 0, 12, [2]int{5, 7}, [2]int{4, 5})
}

// TestApart: two know nothing of each other.
func TestApart(t *testing.T) {
	h, o := with(t, 1, [2]int{4, 5}), made(t, 1)
	wantCounts(t, "the other one", o, 0, 0)
	wantAdd(t, o, 4, 2)
	wantCounts(t, "one", h, 0, 5, [2]int{4, 5})
	wantCounts(t, "the other one", o, 0, 2, [2]int{4, 2})
}
