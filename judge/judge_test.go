package judge

import (
	"math"
	"math/rand"
	"reflect"
	"slices"
	"strings"
	"testing"

	"portcullis/api"
	"portcullis/plain"
	"portcullis/rule"
)

// J1

// laws reads rules, one a line.
func laws(t *testing.T, lines ...string) []api.Rule {
	t.Helper()
	l, line, err := rule.Parse(strings.Join(lines, "\n") + "\n")
	if err != nil {
		t.Fatalf("line %d of %q: %v", line, lines, err)
	}
	return l
}

// ten is an address in the middle of 10.0.0.0/8.
const ten = 10<<24 | 1<<16 | 2<<8 | 3

var webKey = api.Key{Kind: api.Stream, Src: ten, From: 5000, Dst: 1, To: 80}

type verdict struct {
	pass, keep bool
	number     int
}

var noVerdict = verdict{pass: true, number: -1}

// wantJudged asks Judge and Trace alike; a trace that is told ends with the number that counts.
func wantJudged(t *testing.T, what string, l []api.Rule, k api.Key, way int, want verdict, trace []int) {
	t.Helper()
	pass, keep, number, err := Judge(l, k, way)
	if got := (verdict{pass, keep, number}); got != want || err != nil {
		t.Errorf("Judge of %s: got %v, %v, want %v", what, got, err, want)
	}
	if got, err := Trace(l, k, way); !slices.Equal(got, trace) || err != nil {
		t.Errorf("Trace of %s: got %v, %v, want %v", what, got, err, trace)
	}
}

// wantRefused asks Judge and Trace for an error, with which they tell nothing else.
func wantRefused(t *testing.T, what string, l []api.Rule, k api.Key, way int, how api.Errno) {
	t.Helper()
	pass, keep, number, err := Judge(l, k, way)
	if got := (verdict{pass, keep, number}); got != (verdict{}) || plain.Told(err) != how {
		t.Errorf("Judge of %s: got %v, %v, want %v", what, got, err, how)
	}
	if got, err := Trace(l, k, way); len(got) != 0 || plain.Told(err) != how {
		t.Errorf("Trace of %s: got %v, %v, want %v", what, got, err, how)
	}
}

func wantFits(t *testing.T, what string, r api.Rule, k api.Key, way int, want bool) {
	t.Helper()
	if got := Fits(r, k, way); got != want {
		t.Errorf("Fits of %s, %v, way %d: got %v, want %v", what, k, way, got, want)
	}
}

func TestFitsWay(t *testing.T) {
	for _, c := range []struct {
		line    string
		in, out bool
	}{
		{"block from any to any", true, true},
		{"block in from any to any", true, false},
		{"block out from any to any", false, true},
	} {
		r := laws(t, c.line)[0]
		wantFits(t, c.line, r, webKey, api.In, c.in)
		wantFits(t, c.line, r, webKey, api.Out, c.out)
	}
}

func TestFitsKind(t *testing.T) {
	for kind := range 16 {
		k := api.Key{Kind: kind, Src: 1, From: 2, Dst: 3, To: 4}
		for _, way := range []int{api.In, api.Out} {
			wantFits(t, "Any", api.Rule{}, k, way, true)
			wantFits(t, "Stream", api.Rule{Kind: api.Stream}, k, way, kind == 1)
			wantFits(t, "Single", api.Rule{Kind: api.Single}, k, way, kind == 2)
			wantFits(t, "Echo", api.Rule{Kind: api.Echo}, k, way, kind == 3)
		}
	}
}

// Each address is held against its own prefix: the other one is far off.
func TestFitsAddresses(t *testing.T) {
	const low, high = 10 << 24, 11<<24 - 1
	for _, c := range []struct {
		prefix api.Prefix
		a      int
		want   bool
	}{
		{api.Prefix{}, 0, true},
		{api.Prefix{}, api.MaxAddr, true},
		{api.Prefix{Addr: low, Len: 8}, low - 1, false},
		{api.Prefix{Addr: low, Len: 8}, low, true},
		{api.Prefix{Addr: low, Len: 8}, high, true},
		{api.Prefix{Addr: low, Len: 8}, high + 1, false},
		{api.Prefix{Addr: ten, Len: 32}, ten, true},
		{api.Prefix{Addr: ten, Len: 32}, ten - 1, false},
		{api.Prefix{Addr: ten, Len: 32}, ten + 1, false},
		{api.Prefix{Len: 32}, 0, true},
		{api.Prefix{Len: 32}, 1, false},
		{api.Prefix{Addr: api.MaxAddr, Len: 32}, api.MaxAddr, true},
		{api.Prefix{Addr: api.MaxAddr, Len: 32}, api.MaxAddr - 1, false},
		{api.Prefix{Addr: 1 << 31, Len: 1}, 1<<31 - 1, false},
		{api.Prefix{Addr: 1 << 31, Len: 1}, 1 << 31, true},
	} {
		const far = 77 << 24
		wantFits(t, "Src", api.Rule{Src: c.prefix}, api.Key{Kind: api.Echo, Src: c.a, Dst: far}, api.In, c.want)
		wantFits(t, "Dst", api.Rule{Dst: c.prefix}, api.Key{Kind: api.Echo, Src: far, Dst: c.a}, api.In, c.want)
		wantFits(t, "both", api.Rule{Src: c.prefix, Dst: api.Prefix{Addr: far, Len: 8}}, api.Key{Src: c.a, Dst: far}, api.Out, c.want)
	}
}

func TestFitsPorts(t *testing.T) {
	ports := [][2]int{{0, 0}, {5, 9}, {80, 80}, {65534, 65535}}
	for _, c := range []struct {
		port int
		want bool
	}{
		{0, true}, {1, false}, {4, false}, {5, true}, {7, true}, {9, true}, {10, false}, {79, false}, {80, true}, {81, false}, {65533, false}, {65534, true}, {65535, true},
	} {
		for _, kind := range []int{api.Stream, api.Single} {
			from, to := api.Key{Kind: kind, From: c.port, To: 3}, api.Key{Kind: kind, From: 3, To: c.port}
			wantFits(t, "From", api.Rule{Kind: kind, From: ports}, from, api.In, c.want)
			wantFits(t, "To", api.Rule{Kind: kind, To: ports}, to, api.In, c.want)
			wantFits(t, "From, another To", api.Rule{Kind: kind, From: ports, To: [][2]int{{3, 3}}}, from, api.In, c.want)
			wantFits(t, "both, another To", api.Rule{Kind: kind, From: ports, To: ports}, from, api.In, false)
			wantFits(t, "empty lists", api.Rule{Kind: kind, From: [][2]int{}, To: [][2]int{}}, from, api.In, true)
		}
		wantFits(t, "none", api.Rule{}, api.Key{From: c.port, To: 65535 - c.port}, api.Out, true)
	}
}

// A rule fits if all of it does: of one that does, each thing is changed alone.
func TestFitsAllTogether(t *testing.T) {
	r := laws(t, "pass quick in kind stream from 10.0.0.0/8 port 5000 to 0.0.0.0/30 port 80,443 keep")[0]
	wantFits(t, "all", r, webKey, api.In, true)
	wantFits(t, "another way", r, webKey, api.Out, false)
	for _, c := range []struct {
		what string
		k    api.Key
	}{
		{"Kind", api.Key{Kind: api.Single, Src: ten, From: 5000, Dst: 1, To: 80}},
		{"Src", api.Key{Kind: api.Stream, Src: 11 << 24, From: 5000, Dst: 1, To: 80}},
		{"From", api.Key{Kind: api.Stream, Src: ten, From: 5001, Dst: 1, To: 80}},
		{"Dst", api.Key{Kind: api.Stream, Src: ten, From: 5000, Dst: 4, To: 80}},
		{"To", api.Key{Kind: api.Stream, Src: ten, From: 5000, Dst: 1, To: 81}},
		{"turned", api.Key{Kind: api.Stream, Src: 1, From: 80, Dst: ten, To: 5000}},
		{"ports turned", api.Key{Kind: api.Stream, Src: ten, From: 80, Dst: 1, To: 5000}},
	} {
		wantFits(t, c.what, r, c.k, api.In, false)
	}
	// What it does with what fits is not asked.
	for i := range 8 {
		r.Pass, r.Quick, r.Keep = i&1 > 0, i&2 > 0, i&4 > 0
		wantFits(t, "another answer", r, webKey, api.In, true)
	}
}

// Fits has no errors: of what Judge would refuse its words hold as they stand.
func TestFitsOfWhatIsRefused(t *testing.T) {
	wantFits(t, "way Any, of Any", api.Rule{}, webKey, api.Any, true)
	wantFits(t, "way Any, of In", api.Rule{Way: api.In}, webKey, api.Any, false)
	wantFits(t, "no way", api.Rule{}, webKey, math.MinInt, true)
	wantFits(t, "no way, of Out", api.Rule{Way: api.Out}, webKey, math.MaxInt, false)
	wantFits(t, "the same that is no way", api.Rule{Way: 3}, webKey, 3, true)
	wantFits(t, "the same that is no kind", api.Rule{Kind: -7}, api.Key{Kind: -7}, api.In, true)
	wantFits(t, "another that is no kind", api.Rule{Kind: -7}, api.Key{Kind: 7}, api.In, false)
	for _, a := range []int{math.MinInt, -1, api.MaxAddr + 1, math.MaxInt} {
		wantFits(t, "no Src", api.Rule{}, api.Key{Src: a}, api.In, false)
		wantFits(t, "no Dst", api.Rule{}, api.Key{Dst: a}, api.In, false)
	}
	for _, p := range []api.Prefix{{Addr: 1, Len: 31}, {Addr: 1}, {Addr: -1}, {Len: 33}, {Len: -1}, {Len: math.MinInt}, {Addr: math.MaxInt, Len: math.MaxInt}} {
		k := api.Key{Src: p.Addr, Dst: p.Addr}
		wantFits(t, "Src", api.Rule{Src: p}, k, api.In, false)
		wantFits(t, "Dst", api.Rule{Dst: p}, k, api.In, false)
	}
	for _, port := range []int{math.MinInt, -1, api.MaxPort + 1, math.MaxInt} {
		k := api.Key{From: port, To: port}
		wantFits(t, "no port, of all", api.Rule{}, k, api.In, true)
		wantFits(t, "no port, of From", api.Rule{From: [][2]int{{0, api.MaxPort}}}, k, api.In, false)
		wantFits(t, "no port, of To", api.Rule{To: [][2]int{{0, api.MaxPort}}}, k, api.In, false)
		wantFits(t, "no port, of itself", api.Rule{To: [][2]int{{port, port}}}, k, api.In, false)
	}
	for _, ports := range [][][2]int{{{0, api.MaxPort + 1}}, {{5, 5}, {9, 8}}, {{5, 5}, {-1, 0}}, slices.Repeat([][2]int{{5, 5}}, api.MaxList+1)} {
		wantFits(t, "From", api.Rule{From: ports}, api.Key{From: 5, To: 5}, api.In, false)
		wantFits(t, "To", api.Rule{To: ports}, api.Key{From: 5, To: 5}, api.In, false)
	}
	wantFits(t, "ports that are not Normed, of Any", api.Rule{From: [][2]int{{7, 9}, {5, 5}, {6, 6}}}, api.Key{From: 6}, api.In, true)
	wantFits(t, "many ports", api.Rule{To: slices.Repeat([][2]int{{5, 5}}, api.MaxList)}, api.Key{To: 5}, api.In, true)
	wantFits(t, "Keep without Pass", api.Rule{Keep: true}, webKey, api.In, true)
}

func TestJudge(t *testing.T) {
	for _, c := range []struct {
		what  string
		lines []string
		want  verdict
		trace []int
	}{
		{"one that passes", []string{"pass from any to any"}, verdict{true, false, 0}, []int{0}},
		{"one that is kept", []string{"pass from any to any keep"}, verdict{true, true, 0}, []int{0}},
		{"one that blocks", []string{"block from any to any"}, verdict{false, false, 0}, []int{0}},
		{"one that does not fit", []string{"block out from any to any"}, noVerdict, nil},
		{"a quick one that does not fit", []string{"block quick out from any to any"}, noVerdict, nil},
		{"one that would be kept, and does not fit", []string{"pass out from any to any keep"}, noVerdict, nil},
		{"the last counts", []string{"block from any to any", "pass from any to any"}, verdict{true, false, 1}, []int{0, 1}},
		{"the last counts, turned", []string{"pass from any to any keep", "block from any to any"}, verdict{false, false, 1}, []int{0, 1}},
		{"keep is the last one's", []string{"pass from any to any keep", "pass from any to any"}, verdict{true, false, 1}, []int{0, 1}},
		{"the last one that fits", []string{"block from any to any", "pass in from any to any keep", "block out from any to any"}, verdict{true, true, 1}, []int{0, 1}},
		{"some in between do not fit", []string{"pass from any to any", "block kind echo from any to any", "block kind stream from any to any", "pass kind single from any to any", "pass from 10.0.0.0/8 to any keep"}, verdict{true, true, 4}, []int{0, 2, 4}},
		{"a quick one ends it", []string{"block quick from any to any", "pass from any to any"}, verdict{false, false, 0}, []int{0}},
		{"a quick one ends what was ahead", []string{"block from any to any", "pass quick from any to any keep", "block from any to any", "block from any to any"}, verdict{true, true, 1}, []int{0, 1}},
		{"the first quick one", []string{"pass quick from any to any keep", "block quick from any to any"}, verdict{true, true, 0}, []int{0}},
		{"the first quick one that fits", []string{"block from any to any", "block quick out from any to any", "pass from any to any", "pass quick in from any to any keep", "block quick from any to any", "block from any to any"}, verdict{true, true, 3}, []int{0, 2, 3}},
		{"a quick one that does not fit ends nothing", []string{"block quick kind echo from any to any", "pass from any to any", "block quick from any to 10.0.0.0/8", "block from any to any"}, verdict{false, false, 3}, []int{1, 3}},
		{"a quick one that is the last", []string{"pass from any to any", "block quick from any to any"}, verdict{false, false, 1}, []int{0, 1}},
	} {
		wantJudged(t, c.what, laws(t, c.lines...), webKey, api.In, c.want, c.trace)
	}
	wantJudged(t, "none", nil, webKey, api.In, noVerdict, nil)
	wantJudged(t, "none, out", []api.Rule{}, webKey, api.Out, noVerdict, nil)
}

func TestJudgeOfMaxRules(t *testing.T) {
	l := slices.Repeat([]api.Rule{{}}, 19)
	l = append(l, api.Rule{Pass: true, Keep: true})
	all := []int{0, 1, 2, 3, 4, 5, 6, 7, 8, 9, 10, 11, 12, 13, 14, 15, 16, 17, 18, 19}
	wantJudged(t, "20", l, webKey, api.Out, verdict{true, true, 19}, all)
	l[7].Quick = true
	wantJudged(t, "20, one quick", l, webKey, api.Out, verdict{false, false, 7}, all[:8])
	wantRefused(t, "21", append(slices.Clone(l), api.Rule{}), webKey, api.Out, api.ErrFull)
	wantRefused(t, "1000", make([]api.Rule, 1000), webKey, api.Out, api.ErrFull)
}

// Keys of all kinds have ports, and both ends of each range may be.
func TestJudgeOfKeysAtTheEdges(t *testing.T) {
	l := laws(t, "block from any to any", "pass quick kind stream from any to any port 80 keep")
	for kind := range 16 {
		for _, way := range []int{api.In, api.Out} {
			want, trace := verdict{number: 0}, []int{0}
			low := api.Key{Kind: kind}
			high := api.Key{Kind: kind, Src: api.MaxAddr, From: api.MaxPort, Dst: api.MaxAddr, To: api.MaxPort}
			wantJudged(t, "the least", l, low, way, want, trace)
			wantJudged(t, "the greatest", l, high, way, want, trace)
			if kind == api.Stream {
				want, trace = verdict{true, true, 1}, []int{0, 1}
			}
			wantJudged(t, "port 80", l, api.Key{Kind: kind, To: 80}, way, want, trace)
		}
	}
}

// noKeys are keys that are none.
var noKeys = []struct {
	what string
	k    api.Key
}{
	{"Kind -1", api.Key{Kind: -1}},
	{"Kind 16", api.Key{Kind: 16}},
	{"Kind least", api.Key{Kind: math.MinInt}},
	{"Kind greatest", api.Key{Kind: math.MaxInt}},
	{"Src -1", api.Key{Src: -1}},
	{"Src 2^32", api.Key{Src: api.MaxAddr + 1}},
	{"Src least", api.Key{Src: math.MinInt}},
	{"Dst -1", api.Key{Dst: -1}},
	{"Dst 2^32", api.Key{Dst: api.MaxAddr + 1}},
	{"Dst greatest", api.Key{Dst: math.MaxInt}},
	{"From -1", api.Key{From: -1}},
	{"From 65536", api.Key{From: api.MaxPort + 1}},
	{"From greatest", api.Key{From: math.MaxInt}},
	{"To -1", api.Key{To: -1}},
	{"To 65536", api.Key{To: api.MaxPort + 1}},
	{"To least", api.Key{To: math.MinInt}},
}

func TestRange(t *testing.T) {
	some := laws(t, "pass quick from any to any keep")
	for _, l := range [][]api.Rule{nil, some} {
		for _, c := range noKeys {
			wantRefused(t, c.what, l, c.k, api.In, api.ErrRange)
			wantRefused(t, c.what, l, c.k, api.Out, api.ErrRange)
			wantRefused(t, c.what+", and no way", l, c.k, api.Any, api.ErrRange)
		}
		for _, way := range []int{api.Any, -1, 3, 4294967297, math.MinInt, math.MaxInt} {
			wantRefused(t, "no way", l, webKey, way, api.ErrRange)
		}
	}
	// A rule whose Way is none does not make it one.
	wantRefused(t, "a way of its own", []api.Rule{{Way: 3}}, webKey, 3, api.ErrRange)
}

// Chapter 8's Check is asked first, and of all rules, also of those that do not fit or stand behind a Quick one.
func TestChecksRules(t *testing.T) {
	for _, c := range []struct {
		what string
		r    api.Rule
		how  api.Errno
	}{
		{"Way", api.Rule{Way: 3}, api.ErrRange},
		{"Kind", api.Rule{Kind: 4}, api.ErrRange},
		{"Src", api.Rule{Src: api.Prefix{Addr: 1, Len: 31}}, api.ErrShape},
		{"Dst", api.Rule{Dst: api.Prefix{Len: 33}}, api.ErrRange},
		{"many spans", api.Rule{Kind: api.Stream, From: slices.Repeat([][2]int{{1, 1}}, 11)}, api.ErrFull},
		{"falling span", api.Rule{Kind: api.Stream, To: [][2]int{{2, 1}}}, api.ErrRange},
		{"touching spans", api.Rule{Kind: api.Stream, To: [][2]int{{1, 1}, {2, 2}}}, api.ErrShape},
		{"ports of Echo", api.Rule{Kind: api.Echo, To: [][2]int{{1, 1}}}, api.ErrShape},
		{"Keep without Pass", api.Rule{Keep: true}, api.ErrShape},
	} {
		wantRefused(t, c.what, []api.Rule{c.r}, webKey, api.In, c.how)
		wantRefused(t, c.what+", behind a quick one", []api.Rule{{Pass: true, Quick: true}, c.r}, webKey, api.In, c.how)
		for _, bad := range noKeys {
			wantRefused(t, c.what+", ahead of "+bad.what, []api.Rule{{}, c.r}, bad.k, api.In, c.how)
		}
		wantRefused(t, c.what+", ahead of no way", []api.Rule{c.r}, webKey, 7, c.how)
		wantRefused(t, c.what+", among 21", append(make([]api.Rule, 20), c.r), webKey, api.In, api.ErrFull)
	}
	wantRefused(t, "21, and no key", make([]api.Rule, 21), api.Key{Kind: -1}, 0, api.ErrFull)
}

// What is handed in stays as it was, what lies behind its length is not looked at, and a trace is the caller's.
func TestListsStayApart(t *testing.T) {
	ports := [][2]int{{80, 80}, {443, 443}, {9, 1}}
	memory := []api.Rule{{Kind: api.Stream, From: ports[:0], To: ports[:2]}, {Pass: true, Keep: true}, {Way: 77}, {}}
	l := memory[:2]
	want, trace := verdict{true, true, 1}, []int{0, 1}
	wantJudged(t, "a piece", l, webKey, api.In, want, trace)
	got, _ := Trace(l, webKey, api.In)
	for i := range got {
		got[i] = -7
	}
	_ = append(got, -7)
	wantJudged(t, "it again", l, webKey, api.In, want, trace)
	if !slices.Equal(ports, [][2]int{{80, 80}, {443, 443}, {9, 1}}) ||
		!reflect.DeepEqual(memory, []api.Rule{{Kind: api.Stream, From: [][2]int{}, To: [][2]int{{80, 80}, {443, 443}}}, {Pass: true, Keep: true}, {Way: 77}, {}}) {
		t.Errorf("what was handed in is %v, %v now", memory, ports)
	}
	l[1] = api.Rule{Way: api.Out}
	wantJudged(t, "another list in its place", l, webKey, api.In, verdict{number: 0}, []int{0})
}

// randomRule asks for numbers so small that many keys are at its edges.
func randomRule(r *rand.Rand) api.Rule {
	prefix := func() api.Prefix {
		if r.Intn(3) == 0 {
			return api.Prefix{}
		}
		n := 29 + r.Intn(4)
		return api.Prefix{Addr: r.Intn(16) >> (32 - n) << (32 - n), Len: n}
	}
	ports := func() (l [][2]int) {
		for low := r.Intn(4); low < 12 && r.Intn(4) > 0; low += 2 + r.Intn(3) {
			high := low + r.Intn(3)
			l = append(l, [2]int{low, high})
			low = high
		}
		return l
	}
	x := api.Rule{Pass: r.Intn(2) == 0, Quick: r.Intn(6) == 0, Way: r.Intn(3), Kind: r.Intn(4), Src: prefix(), Dst: prefix()}
	x.Keep = x.Pass && r.Intn(2) == 0
	if x.Kind == api.Stream || x.Kind == api.Single {
		x.From, x.To = ports(), ports()
	}
	return x
}

// fitsSlowly holds all addresses and ports of a rule against a key's, one by one.
func fitsSlowly(x api.Rule, k api.Key, way int) bool {
	has := func(p api.Prefix, a int) bool {
		for bit := range p.Len {
			if p.Addr>>(31-bit)&1 != a>>(31-bit)&1 {
				return false
			}
		}
		return true
	}
	opens := func(l [][2]int, port int) bool {
		is := len(l) == 0
		for _, s := range l {
			for n := s[0]; n <= s[1]; n++ {
				is = is || n == port
			}
		}
		return is
	}
	wayFits := x.Way == 0 || x.Way == way
	kindFits := x.Kind == 0 || x.Kind == k.Kind
	return wayFits && kindFits && has(x.Src, k.Src) && has(x.Dst, k.Dst) && opens(x.From, k.From) && opens(x.To, k.To)
}

// judgeSlowly looks for the first Quick one, and only where there is none from the end on.
func judgeSlowly(l []api.Rule, k api.Key, way int) (verdict, []int) {
	quick := slices.IndexFunc(l, func(x api.Rule) bool { return x.Quick && fitsSlowly(x, k, way) })
	if quick >= 0 {
		l = l[:quick+1]
	}
	want := noVerdict
	var trace []int
	for n := len(l) - 1; n >= 0; n-- {
		if !fitsSlowly(l[n], k, way) {
			continue
		}
		if len(trace) == 0 {
			want = verdict{l[n].Pass, l[n].Keep, n}
		}
		trace = append([]int{n}, trace...)
	}
	return want, trace
}

func TestRandom(t *testing.T) {
	r := rand.New(rand.NewSource(9))
	for range 3000 {
		var l []api.Rule
		for range r.Intn(api.MaxRules + 1) {
			l = append(l, randomRule(r))
		}
		for range 10 {
			k := api.Key{Kind: r.Intn(5), Src: r.Intn(17), From: r.Intn(15), Dst: r.Intn(17), To: r.Intn(15)}
			way := api.In + r.Intn(2)
			for _, x := range l {
				wantFits(t, "a random one", x, k, way, fitsSlowly(x, k, way))
			}
			want, trace := judgeSlowly(l, k, way)
			wantJudged(t, "random ones", l, k, way, want, trace)
			if t.Failed() {
				text, _ := rule.Print(l)
				t.Fatalf("%s%v, way %d", text, k, way)
			}
		}
	}
}
