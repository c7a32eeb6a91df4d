package trie

import (
	"cmp"
	"math"
	"math/rand"
	"slices"
	"strconv"
	"strings"
	"testing"

	"portcullis/addr"
	"portcullis/api"
	"portcullis/plain"
)

// refused are prefixes that Check refuses, and how.
var refused = []struct {
	p   api.Prefix
	how api.Errno
}{
	{api.Prefix{Addr: -1, Len: 32}, api.ErrRange},
	{api.Prefix{Addr: 1 << 32, Len: 32}, api.ErrRange},
	{api.Prefix{Addr: 1 << 32, Len: 0}, api.ErrRange},
	{api.Prefix{Addr: math.MinInt, Len: 1}, api.ErrRange},
	{api.Prefix{Addr: math.MaxInt, Len: 8}, api.ErrRange},
	{api.Prefix{Addr: 0, Len: -1}, api.ErrRange},
	{api.Prefix{Addr: 0, Len: 33}, api.ErrRange},
	{api.Prefix{Addr: 0, Len: math.MinInt}, api.ErrRange},
	{api.Prefix{Addr: 0, Len: math.MaxInt}, api.ErrRange},
	{api.Prefix{Addr: 1, Len: 33}, api.ErrRange},
	{api.Prefix{Addr: 1, Len: 31}, api.ErrShape},
	{api.Prefix{Addr: 1, Len: 0}, api.ErrShape},
	{api.Prefix{Addr: 1 << 31, Len: 0}, api.ErrShape},
	{api.Prefix{Addr: api.MaxAddr, Len: 31}, api.ErrShape},
}

// outside are numbers that are no addresses.
var outside = []int{-1, 1 << 32, 1<<32 + 1, math.MinInt, math.MaxInt}

func prefix(t *testing.T, s string) api.Prefix {
	t.Helper()
	p, err := addr.ParsePrefix(s)
	if err != nil {
		t.Fatalf("ParsePrefix of %q: %v", s, err)
	}
	return p
}

// pairs reads a prefix, =, a value, blanks between.
func pairs(t *testing.T, s string) []api.Pair {
	t.Helper()
	var l []api.Pair
	for _, w := range strings.Fields(s) {
		head, tail, _ := strings.Cut(w, "=")
		v, err := strconv.Atoi(tail)
		if err != nil {
			t.Fatalf("%q: %v", w, err)
		}
		l = append(l, api.Pair{Prefix: prefix(t, head), Value: v})
	}
	return l
}

// filled is a Trie with pairs, all of which are new.
func filled(t *testing.T, l []api.Pair) *Trie {
	t.Helper()
	trie := New()
	for _, x := range l {
		wantIs(t, "Put", x.Prefix, true, api.OK)(trie.Put(x.Prefix, x.Value))
	}
	return trie
}

func wantIs(t *testing.T, what string, p api.Prefix, want bool, how api.Errno) func(bool, error) {
	t.Helper()
	return func(got bool, err error) {
		t.Helper()
		if got != want || plain.Told(err) != how {
			t.Errorf("%s of %v: got %v, %v, want %v, %v", what, p, got, err, want, how)
		}
	}
}

func wantList(t *testing.T, what string, want []api.Pair, how api.Errno) func([]api.Pair, error) {
	t.Helper()
	return func(got []api.Pair, err error) {
		t.Helper()
		if !slices.Equal(got, want) || plain.Told(err) != how {
			t.Errorf("%s: got %v, %v, want %v, %v", what, got, err, want, how)
		}
	}
}

func wantAll(t *testing.T, trie *Trie, want []api.Pair) {
	t.Helper()
	wantList(t, "All", want, api.OK)(trie.All(), nil)
}

func wantFound(t *testing.T, trie *Trie, a int, want api.Pair, how api.Errno) {
	t.Helper()
	if got, err := trie.Find(a); got != want || plain.Told(err) != how {
		t.Errorf("Find of %d: got %v, %v, want %v, %v", a, got, err, want, how)
	}
}

// many are as many pairs of one address each, rising.
func many(n int) []api.Pair {
	var l []api.Pair
	for i := range n {
		l = append(l, api.Pair{Prefix: api.Prefix{Addr: i * 7, Len: 32}, Value: i})
	}
	return l
}

// some are prefixes some of which are inside others.
const some = "any=5 0.0.0.0/32=7 10.0.0.0/8=1 10.0.0.0/9=2 10.0.0.0/32=3 10.128.0.0/9=4 255.255.255.254/31=9 255.255.255.255/32=8"

// T1

func TestEmpty(t *testing.T) {
	trie := New()
	wantAll(t, trie, nil)
	for _, s := range []string{"any", "0.0.0.0/1", "128.0.0.0/1", "10.0.0.0/8", "255.255.255.255"} {
		p := prefix(t, s)
		wantList(t, "Over "+s, nil, api.OK)(trie.Over(p))
		wantList(t, "Under "+s, nil, api.OK)(trie.Under(p))
		wantIs(t, "Drop", p, false, api.OK)(trie.Drop(p))
		wantFound(t, trie, p.Addr, api.Pair{}, api.ErrNone)
	}
}

func TestPut(t *testing.T) {
	trie := New()
	p := prefix(t, "10.0.0.0/8")
	wantIs(t, "Put", p, true, api.OK)(trie.Put(p, 0))
	wantAll(t, trie, pairs(t, "10.0.0.0/8=0"))
	for _, v := range []int{0, 1, -1, math.MinInt, math.MaxInt} {
		wantIs(t, "Put", p, false, api.OK)(trie.Put(p, v))
		wantAll(t, trie, []api.Pair{{Prefix: p, Value: v}})
	}
	// Of one Addr each Len is another prefix, also those on the way to one that is there.
	for n := 8; n <= 32; n++ {
		q := api.Prefix{Addr: p.Addr, Len: 40 - n}
		wantIs(t, "Put", q, n < 32, api.OK)(trie.Put(q, n))
	}
	for n := range 7 {
		wantIs(t, "Put", api.Prefix{Len: n}, true, api.OK)(trie.Put(api.Prefix{Len: n}, n))
	}
	if got := len(trie.All()); got != 32 {
		t.Errorf("got %d, want 32", got)
	}
}

func TestPutFull(t *testing.T) {
	full := many(api.MaxList)
	trie := filled(t, full)
	for _, s := range []string{"any", "0.0.0.0/31", "255.255.255.255", "0.0.0.1"} {
		p := prefix(t, s)
		wantIs(t, "Put", p, false, api.ErrFull)(trie.Put(p, 1))
		wantAll(t, trie, full)
	}
	for _, c := range refused {
		wantIs(t, "Put", c.p, false, c.how)(trie.Put(c.p, 1))
	}
	full[199].Value = -5
	wantIs(t, "Put", full[199].Prefix, false, api.OK)(trie.Put(full[199].Prefix, -5))
	wantAll(t, trie, full)
	wantIs(t, "Drop", full[0].Prefix, true, api.OK)(trie.Drop(full[0].Prefix))
	wantIs(t, "Put", api.Prefix{}, true, api.OK)(trie.Put(api.Prefix{}, 3))
	wantIs(t, "Put", full[0].Prefix, false, api.ErrFull)(trie.Put(full[0].Prefix, 3))
	full[0] = api.Pair{Prefix: api.Prefix{}, Value: 3}
	wantAll(t, trie, full)
}

// What is refused leaves no trace in memory either.
func TestPutFullKeepsNothing(t *testing.T) {
	trie := filled(t, many(api.MaxList))
	before := nodes(&trie.root)
	trie.Put(prefix(t, "255.255.255.255"), 1)
	if got := nodes(&trie.root); got != before {
		t.Errorf("got %d nodes, want %d", got, before)
	}
}

func TestDrop(t *testing.T) {
	l := pairs(t, some)
	for i, x := range l {
		trie := filled(t, l)
		wantIs(t, "Drop", x.Prefix, true, api.OK)(trie.Drop(x.Prefix))
		left := slices.Delete(slices.Clone(l), i, i+1)
		wantAll(t, trie, left)
		wantIs(t, "Drop again", x.Prefix, false, api.OK)(trie.Drop(x.Prefix))
		wantAll(t, trie, left)
		wantIs(t, "Put again", x.Prefix, true, api.OK)(trie.Put(x.Prefix, x.Value))
		wantAll(t, trie, l)
	}
	trie := filled(t, l)
	for _, s := range []string{"10.0.0.0/10", "10.0.0.0/7", "0.0.0.0/31", "0.0.0.0/1", "255.255.255.254", "20.0.0.0/8"} {
		wantIs(t, "Drop", prefix(t, s), false, api.OK)(trie.Drop(prefix(t, s)))
	}
	wantAll(t, trie, l)
}

func nodes(n *node) int {
	if n == nil {
		return 0
	}
	return 1 + nodes(n.kids[0]) + nodes(n.kids[1])
}

// No more is kept than what is there needs: as much as if the others had never been put.
func TestDropKeepsNothing(t *testing.T) {
	l := pairs(t, some)
	r := rand.New(rand.NewSource(1))
	for range 50 {
		r.Shuffle(len(l), func(i, j int) { l[i], l[j] = l[j], l[i] })
		trie := filled(t, l)
		for i, x := range l {
			trie.Drop(x.Prefix)
			left := filled(t, l[i+1:])
			if got, want := nodes(&trie.root), nodes(&left.root); got != want {
				t.Fatalf("%v without the first %d: got %d nodes, want %d", l, i+1, got, want)
			}
		}
		wantAll(t, trie, nil)
	}
}

func TestFind(t *testing.T) {
	trie := filled(t, pairs(t, some))
	for _, c := range []struct{ address, want string }{
		{"0.0.0.0", "0.0.0.0=7"},
		{"0.0.0.1", "any=5"},
		{"9.255.255.255", "any=5"},
		{"10.0.0.0", "10.0.0.0=3"},
		{"10.0.0.1", "10.0.0.0/9=2"},
		{"10.127.255.255", "10.0.0.0/9=2"},
		{"10.128.0.0", "10.128.0.0/9=4"},
		{"10.255.255.255", "10.128.0.0/9=4"},
		{"11.0.0.0", "any=5"},
		{"255.255.255.253", "any=5"},
		{"255.255.255.254", "255.255.255.254/31=9"},
		{"255.255.255.255", "255.255.255.255=8"},
	} {
		wantFound(t, trie, prefix(t, c.address).Addr, pairs(t, c.want)[0], api.OK)
	}
	trie.Drop(api.Prefix{})
	wantFound(t, trie, 1, api.Pair{}, api.ErrNone)
	wantFound(t, trie, api.MaxAddr-2, api.Pair{}, api.ErrNone)
	wantFound(t, trie, 10<<24|1, pairs(t, "10.0.0.0/9=2")[0], api.OK)
}

func TestFindRange(t *testing.T) {
	for _, trie := range []*Trie{New(), filled(t, pairs(t, some))} {
		for _, a := range outside {
			wantFound(t, trie, a, api.Pair{}, api.ErrRange)
		}
	}
}

func TestOver(t *testing.T) {
	trie := filled(t, pairs(t, some))
	for _, c := range []struct{ prefix, want string }{
		{"any", "any=5"},
		{"0.0.0.0/1", "any=5"},
		{"0.0.0.0/31", "any=5"},
		{"0.0.0.0/32", "any=5 0.0.0.0=7"},
		{"10.0.0.0/7", "any=5"},
		{"10.0.0.0/8", "any=5 10.0.0.0/8=1"},
		{"10.0.0.0/9", "any=5 10.0.0.0/8=1 10.0.0.0/9=2"},
		{"10.0.0.0/31", "any=5 10.0.0.0/8=1 10.0.0.0/9=2"},
		{"10.0.0.0/32", "any=5 10.0.0.0/8=1 10.0.0.0/9=2 10.0.0.0=3"},
		{"10.128.0.0/32", "any=5 10.0.0.0/8=1 10.128.0.0/9=4"},
		{"255.255.255.255/32", "any=5 255.255.255.254/31=9 255.255.255.255=8"},
		{"255.255.255.254/32", "any=5 255.255.255.254/31=9"},
	} {
		wantList(t, "Over "+c.prefix, pairs(t, c.want), api.OK)(trie.Over(prefix(t, c.prefix)))
	}
}

// The longest way down, with a value at each step.
func TestOverAllLengths(t *testing.T) {
	var l []api.Pair
	for n := range 33 {
		l = append(l, api.Pair{Prefix: api.Prefix{Addr: api.MaxAddr >> (32 - n) << (32 - n), Len: n}, Value: n})
	}
	trie := filled(t, l)
	for n := range 33 {
		wantList(t, "Over", l[:n+1], api.OK)(trie.Over(l[n].Prefix))
		wantList(t, "Under", l[n:], api.OK)(trie.Under(l[n].Prefix))
	}
	wantFound(t, trie, api.MaxAddr, l[32], api.OK)
	wantFound(t, trie, api.MaxAddr-1, l[31], api.OK)
	wantFound(t, trie, 0, l[0], api.OK)
}

func TestUnder(t *testing.T) {
	trie := filled(t, pairs(t, some))
	for _, c := range []struct{ prefix, want string }{
		{"any", some},
		{"0.0.0.0/31", "0.0.0.0=7"},
		{"0.0.0.0/32", "0.0.0.0=7"},
		{"0.0.0.0/1", "0.0.0.0=7 10.0.0.0/8=1 10.0.0.0/9=2 10.0.0.0=3 10.128.0.0/9=4"},
		{"128.0.0.0/1", "255.255.255.254/31=9 255.255.255.255/32=8"},
		{"10.0.0.0/7", "10.0.0.0/8=1 10.0.0.0/9=2 10.0.0.0=3 10.128.0.0/9=4"},
		{"10.0.0.0/8", "10.0.0.0/8=1 10.0.0.0/9=2 10.0.0.0=3 10.128.0.0/9=4"},
		{"10.0.0.0/9", "10.0.0.0/9=2 10.0.0.0=3"},
		{"10.0.0.0/10", "10.0.0.0=3"},
		{"10.128.0.0/10", ""},
		{"10.0.0.1/32", ""},
		{"11.0.0.0/8", ""},
	} {
		wantList(t, "Under "+c.prefix, pairs(t, c.want), api.OK)(trie.Under(prefix(t, c.prefix)))
	}
}

func TestCheckFirst(t *testing.T) {
	l := pairs(t, some)
	for _, trie := range []*Trie{New(), filled(t, l)} {
		before := trie.All()
		for _, c := range refused {
			wantIs(t, "Put", c.p, false, c.how)(trie.Put(c.p, 1))
			wantIs(t, "Drop", c.p, false, c.how)(trie.Drop(c.p))
			wantList(t, "Over", nil, c.how)(trie.Over(c.p))
			wantList(t, "Under", nil, c.how)(trie.Under(c.p))
			wantAll(t, trie, before)
		}
	}
}

// What comes out is the caller's, and two Tries know nothing of each other.
func TestFresh(t *testing.T) {
	l := pairs(t, some)
	trie, other := filled(t, l), New()
	p := prefix(t, "10.0.0.0/9")
	over, _ := trie.Over(p)
	under, _ := trie.Under(p)
	for _, got := range [][]api.Pair{trie.All(), over, under} {
		for i := range got {
			got[i] = api.Pair{}
		}
		_ = append(got, api.Pair{})
	}
	wantAll(t, trie, l)
	wantList(t, "Over", pairs(t, "any=5 10.0.0.0/8=1 10.0.0.0/9=2"), api.OK)(trie.Over(p))
	wantList(t, "Under", pairs(t, "10.0.0.0/9=2 10.0.0.0=3"), api.OK)(trie.Under(p))
	wantAll(t, other, nil)
}

func byAddr(x, y api.Pair) int {
	return cmp.Or(cmp.Compare(x.Prefix.Addr, y.Prefix.Addr), cmp.Compare(x.Prefix.Len, y.Prefix.Len))
}

func byLen(x, y api.Pair) int {
	return cmp.Compare(x.Prefix.Len, y.Prefix.Len)
}

// slow is a Trie by the words of the chapter: a list that is looked through.
type slow []api.Pair

func (s *slow) index(p api.Prefix) int {
	return slices.IndexFunc(*s, func(x api.Pair) bool { return x.Prefix == p })
}

func (s *slow) put(p api.Prefix, v int) (bool, api.Errno) {
	if i := s.index(p); i >= 0 {
		(*s)[i].Value = v
		return false, api.OK
	}
	if len(*s) == 200 {
		return false, api.ErrFull
	}
	*s = append(*s, api.Pair{Prefix: p, Value: v})
	return true, api.OK
}

func (s *slow) drop(p api.Prefix) bool {
	i := s.index(p)
	if i >= 0 {
		*s = slices.Delete(*s, i, i+1)
	}
	return i >= 0
}

func (s *slow) those(is func(q api.Prefix) bool, order func(x, y api.Pair) int) []api.Pair {
	var l []api.Pair
	for _, x := range *s {
		if is(x.Prefix) {
			l = append(l, x)
		}
	}
	slices.SortFunc(l, order)
	return l
}

func (s *slow) over(p api.Prefix) []api.Pair {
	return s.those(func(q api.Prefix) bool { return addr.Inside(p, q) }, byLen)
}

func (s *slow) under(p api.Prefix) []api.Pair {
	return s.those(func(q api.Prefix) bool { return addr.Inside(q, p) }, byAddr)
}

func (s *slow) find(a int) (api.Pair, api.Errno) {
	l := s.those(func(q api.Prefix) bool { return addr.Has(q, a) }, byLen)
	if len(l) == 0 {
		return api.Pair{}, api.ErrNone
	}
	return l[len(l)-1], api.OK
}

// randomPrefix is among few addresses at either end, or anywhere, so that many are inside others.
func randomPrefix(r *rand.Rand) api.Prefix {
	n := r.Intn(33)
	if r.Intn(2) == 0 {
		n = 32 - r.Intn(6)
	}
	a := r.Intn(1 << 32)
	switch r.Intn(4) {
	case 0, 1:
		a = r.Intn(32)
	case 2:
		a = 1<<32 - 1 - r.Intn(32)
	}
	return api.Prefix{Addr: a >> (32 - n) << (32 - n), Len: n}
}

func TestRandom(t *testing.T) {
	r := rand.New(rand.NewSource(2))
	fulls := 0
	for round := range 60 {
		trie, s := New(), &slow{}
		drops := 2 + round%20
		for range 500 {
			p := randomPrefix(r)
			if r.Intn(drops) == 0 {
				wantIs(t, "Drop", p, s.drop(p), api.OK)(trie.Drop(p))
			} else {
				v := r.Intn(9)
				is, how := s.put(p, v)
				wantIs(t, "Put", p, is, how)(trie.Put(p, v))
				if how == api.ErrFull {
					fulls++
				}
			}
			q := randomPrefix(r)
			wantList(t, "Over", s.over(q), api.OK)(trie.Over(q))
			wantList(t, "Under", s.under(q), api.OK)(trie.Under(q))
			a := randomPrefix(r).Addr
			want, how := s.find(a)
			wantFound(t, trie, a, want, how)
			if t.Failed() {
				t.Fatalf("round %d, with %v", round, *s)
			}
		}
		wantAll(t, trie, s.under(api.Prefix{}))
	}
	if fulls == 0 {
		t.Error("none was full")
	}
}

// T2

func TestThin(t *testing.T) {
	for _, c := range []struct{ name, l, want string }{
		{"none", "", ""},
		{"one", "10.0.0.0/8=1", "10.0.0.0/8=1"},
		{"a Value of 0 is one, and not none", "10.0.0.0/8=0", "10.0.0.0/8=0"},
		{"a Value of 0, over another", "any=0 10.0.0.0/8=0", "any=0"},
		{"the same", "any=1 10.0.0.0/8=1", "any=1"},
		{"another", "any=1 10.0.0.0/8=2", "any=1 10.0.0.0/8=2"},
		{"one between is another", "any=1 10.0.0.0/8=2 10.0.0.0/9=1", "any=1 10.0.0.0/8=2 10.0.0.0/9=1"},
		{"one between goes", "any=1 10.0.0.0/8=1 10.0.0.0/9=1", "any=1"},
		{"one between goes, another below stays", "any=1 10.0.0.0/8=1 10.0.0.0/9=2", "any=1 10.0.0.0/9=2"},
		{"sorted", "255.255.255.255=1 10.0.0.0/9=2 10.0.0.0/8=1 0.0.0.0=3", "0.0.0.0=3 10.0.0.0/8=1 10.0.0.0/9=2 255.255.255.255=1"},
		{"halves are not put together", "0.0.0.0/1=1 128.0.0.0/1=1", "0.0.0.0/1=1 128.0.0.0/1=1"},
		{"one with both halves below it stays", "any=1 0.0.0.0/1=2 128.0.0.0/1=3", "any=1 0.0.0.0/1=2 128.0.0.0/1=3"},
		{"halves of one Value stay", "any=1 0.0.0.0/1=2 128.0.0.0/1=2", "any=1 0.0.0.0/1=2 128.0.0.0/1=2"},
		{"the last stands, and goes", "10.0.0.0/8=2 any=1 10.0.0.0/8=1", "any=1"},
		{"the last stands, and stays", "10.0.0.0/8=1 any=1 10.0.0.0/8=2", "any=1 10.0.0.0/8=2"},
		{"the last stands over another", "any=2 10.0.0.0/8=2 any=1", "any=1 10.0.0.0/8=2"},
		{"again and again the same", "10.0.0.0/8=2 10.0.0.0/8=2 10.0.0.0/8=2", "10.0.0.0/8=2"},
		{"all", some, some},
	} {
		wantList(t, c.name, pairs(t, c.want), api.OK)(Thin(pairs(t, c.l)))
	}
	for _, v := range []int{math.MinInt, -1, math.MaxInt} {
		l := []api.Pair{{Prefix: api.Prefix{Addr: 4, Len: 30}, Value: v}, {Prefix: api.Prefix{Addr: 4, Len: 32}, Value: v}, {Prefix: api.Prefix{Addr: 5, Len: 32}, Value: v + 1}}
		wantList(t, "great Values", []api.Pair{l[0], l[2]}, api.OK)(Thin(l))
	}
}

func TestThinFull(t *testing.T) {
	wantList(t, "MaxList", many(api.MaxList), api.OK)(Thin(many(api.MaxList)))
	wantList(t, "one more", nil, api.ErrFull)(Thin(many(api.MaxList + 1)))
	wantList(t, "one more, of one prefix", nil, api.ErrFull)(Thin(make([]api.Pair, api.MaxList+1)))
	wantList(t, "MaxList of one prefix", []api.Pair{{}}, api.OK)(Thin(make([]api.Pair, api.MaxList)))
	for _, c := range refused {
		l := many(api.MaxList + 1)
		l[0].Prefix = c.p
		wantList(t, "one more, and a wrong one", nil, api.ErrFull)(Thin(l))
	}
}

func TestThinCheck(t *testing.T) {
	for _, c := range refused {
		for i := range 3 {
			l := many(3)
			l[i].Prefix = c.p
			wantList(t, "Thin", nil, c.how)(Thin(l))
		}
		for _, d := range refused {
			wantList(t, "the first is told", nil, c.how)(Thin([]api.Pair{{}, {Prefix: c.p}, {Prefix: d.p}}))
		}
	}
}

func TestThinFresh(t *testing.T) {
	l := pairs(t, "10.0.0.0/9=2 any=1 10.0.0.0/8=2 10.0.0.0/8=3 9.0.0.0/8=1")
	was := slices.Clone(l)
	got, err := Thin(l[:4])
	want := pairs(t, "any=1 10.0.0.0/8=3 10.0.0.0/9=2")
	wantList(t, "Thin", want, api.OK)(got, err)
	for i := range got {
		got[i] = api.Pair{}
	}
	_ = append(got, api.Pair{})
	if !slices.Equal(l, was) {
		t.Errorf("what was handed in is %v now, and was %v", l, was)
	}
	wantList(t, "Thin again", want, api.OK)(Thin(l[:4]))
}

// slowThin is what Thin is told to be: one goes, and all is looked at again from the longest on.
func slowThin(l []api.Pair) []api.Pair {
	s := &slow{}
	for _, x := range l {
		s.put(x.Prefix, x.Value)
	}
	for s.dropOne() {
	}
	return s.under(api.Prefix{})
}

func (s *slow) dropOne() bool {
	slices.SortFunc(*s, func(x, y api.Pair) int { return cmp.Or(byLen(y, x), byAddr(x, y)) })
	for _, x := range *s {
		over := s.over(x.Prefix)
		if len(over) > 1 && over[len(over)-2].Value == x.Value {
			return s.drop(x.Prefix)
		}
	}
	return false
}

// wantSame wants of two lists that they give each address the same Value, or none.
func wantSame(t *testing.T, l, thin []api.Pair) {
	t.Helper()
	a, b := &slow{}, &slow{}
	for _, x := range l {
		a.put(x.Prefix, x.Value)
	}
	for _, x := range thin {
		b.put(x.Prefix, x.Value)
	}
	for _, x := range l {
		low, high := addr.Ends(x.Prefix)
		for _, at := range []int{low - 1, low, high, high + 1} {
			was, how := a.find(at)
			is, also := b.find(at)
			if was.Value != is.Value || how != also {
				t.Errorf("%v thinned to %v: of %d %v is %v", l, thin, at, was, is)
			}
		}
	}
}

func TestThinRandom(t *testing.T) {
	r := rand.New(rand.NewSource(3))
	gone := 0
	for range 600 {
		var l []api.Pair
		for range r.Intn(40) {
			l = append(l, api.Pair{Prefix: randomPrefix(r), Value: r.Intn(3)})
		}
		got, err := Thin(l)
		wantList(t, "Thin", slowThin(l), api.OK)(got, err)
		wantSame(t, l, got)
		gone += len(l) - len(got)
	}
	if gone < 1000 {
		t.Errorf("only %d went", gone)
	}
}
