package plan

import (
	"math"
	"math/rand"
	"reflect"
	"slices"
	"strings"
	"testing"

	"portcullis/api"
	"portcullis/judge"
	"portcullis/plain"
	"portcullis/rule"
)

// laws reads rules, one a line.
func laws(t *testing.T, lines ...string) []api.Rule {
	t.Helper()
	if len(lines) == 0 {
		return nil
	}
	l, line, err := rule.Parse(strings.Join(lines, "\n") + "\n")
	if err != nil {
		t.Fatalf("line %d of %q: %v", line, lines, err)
	}
	return l
}

type verdict struct {
	pass, keep bool
	number     int
}

// judged is what chapter 9 says of a key.
func judged(t *testing.T, l []api.Rule, k api.Key, way int) verdict {
	t.Helper()
	pass, keep, number, err := judge.Judge(l, k, way)
	if err != nil {
		t.Fatalf("chapter 9's Judge of %v, way %d: %v", k, way, err)
	}
	return verdict{pass, keep, number}
}

// wantPlanned holds a plan against its rules at one key.
func wantPlanned(t *testing.T, what string, p *Plan, l []api.Rule, k api.Key, way int) {
	t.Helper()
	pass, keep, number, err := p.Judge(k, way)
	if got, want := (verdict{pass, keep, number}), judged(t, l, k, way); got != want || err != nil {
		t.Errorf("Judge of %s, %v, way %d: got %v, %v, want %v", what, k, way, got, err, want)
	}
}

func wantLive(t *testing.T, what string, l []api.Rule, n int) {
	t.Helper()
	k, way, err := Live(l, n)
	if err != nil {
		t.Errorf("Live of %s, rule %d: %v", what, n, err)
		return
	}
	if got := judged(t, l, k, way); got.number != n {
		t.Errorf("Live of %s, rule %d: got %v, way %d, of which rule %d counts", what, n, k, way, got.number)
	}
}

func wantNotLive(t *testing.T, what string, l []api.Rule, n int, how api.Errno) {
	t.Helper()
	if k, way, err := Live(l, n); k != (api.Key{}) || way != 0 || plain.Told(err) != how {
		t.Errorf("Live of %s, rule %d: got %v, %d, %v, want %v", what, n, k, way, err, how)
	}
}

// wantDead asks Dead, Live of each rule, and Trim.
func wantDead(t *testing.T, what string, l []api.Rule, want ...int) {
	t.Helper()
	if got, err := Dead(l); !slices.Equal(got, want) || err != nil {
		t.Errorf("Dead of %s: got %v, %v, want %v", what, got, err, want)
	}
	var left []api.Rule
	for n, r := range l {
		if slices.Contains(want, n) {
			wantNotLive(t, what, l, n, api.ErrNone)
			continue
		}
		wantLive(t, what, l, n)
		left = append(left, r)
	}
	wantTrimmed(t, what, l, left)
}

func wantTrimmed(t *testing.T, what string, l, want []api.Rule) {
	t.Helper()
	got, err := Trim(l)
	if !slices.EqualFunc(got, want, sameRule) || err != nil {
		t.Errorf("Trim of %s: got %v, %v, want %v", what, got, err, want)
	}
}

func sameRule(a, b api.Rule) bool {
	same := slices.Equal(a.From, b.From) && slices.Equal(a.To, b.To)
	a.From, a.To, b.From, b.To = nil, nil, nil, nil
	return same && reflect.DeepEqual(a, b)
}

// wantRefused asks New, Live, Dead and Trim for the same error.
func wantRefused(t *testing.T, what string, l []api.Rule, how api.Errno) {
	t.Helper()
	if p, err := New(l); p != nil || plain.Told(err) != how {
		t.Errorf("New of %s: got %v, %v, want %v", what, p, err, how)
	}
	wantNoneLeft(t, what, l, how)
}

// wantNoneLeft asks Live, Dead and Trim for the same error; New may have none.
func wantNoneLeft(t *testing.T, what string, l []api.Rule, how api.Errno) {
	t.Helper()
	for _, n := range []int{0, len(l) - 1, len(l), -1} {
		wantNotLive(t, what, l, n, how)
	}
	if got, err := Dead(l); len(got) != 0 || plain.Told(err) != how {
		t.Errorf("Dead of %s: got %v, %v, want %v", what, got, err, how)
	}
	if got, err := Trim(l); len(got) != 0 || plain.Told(err) != how {
		t.Errorf("Trim of %s: got %v, %v, want %v", what, got, err, how)
	}
}

// wantDiffer asks for a key of which one list passes, or keeps, and the other does not; both ways round.
func wantDiffer(t *testing.T, what string, a, b []api.Rule) {
	t.Helper()
	for range 2 {
		k, way, err := Differ(a, b)
		if err != nil {
			t.Errorf("Differ of %s: %v", what, err)
			return
		}
		x, y := judged(t, a, k, way), judged(t, b, k, way)
		if x.pass == y.pass && x.keep == y.keep {
			t.Errorf("Differ of %s: got %v, way %d, of which they say %v and %v", what, k, way, x, y)
		}
		a, b = b, a
	}
}

func wantNoDiffer(t *testing.T, what string, a, b []api.Rule, how api.Errno) {
	t.Helper()
	if k, way, err := Differ(a, b); k != (api.Key{}) || way != 0 || plain.Told(err) != how {
		t.Errorf("Differ of %s: got %v, %d, %v, want %v", what, k, way, err, how)
	}
}

func wantSame(t *testing.T, what string, a, b []api.Rule) {
	t.Helper()
	wantNoDiffer(t, what, a, b, api.ErrNone)
	wantNoDiffer(t, what+", turned", b, a, api.ErrNone)
}

// faulty are rules with what Check says of them.
var faulty = []struct {
	what string
	r    api.Rule
	how  api.Errno
}{
	{"Way", api.Rule{Way: 3}, api.ErrRange},
	{"Way below", api.Rule{Way: -1}, api.ErrRange},
	{"Kind", api.Rule{Kind: 4}, api.ErrRange},
	{"Src", api.Rule{Src: api.Prefix{Addr: 1, Len: 31}}, api.ErrShape},
	{"Dst", api.Rule{Dst: api.Prefix{Len: 33}}, api.ErrRange},
	{"many spans", api.Rule{Kind: api.Stream, From: slices.Repeat([][2]int{{1, 1}}, 11)}, api.ErrFull},
	{"falling span", api.Rule{Kind: api.Stream, To: [][2]int{{2, 1}}}, api.ErrRange},
	{"great span", api.Rule{Kind: api.Stream, From: [][2]int{{0, math.MaxInt}}}, api.ErrRange},
	{"touching spans", api.Rule{Kind: api.Single, To: [][2]int{{1, 1}, {2, 2}}}, api.ErrShape},
	{"ports of Echo", api.Rule{Kind: api.Echo, To: [][2]int{{1, 1}}}, api.ErrShape},
	{"ports of Any", api.Rule{From: [][2]int{{1, 1}}}, api.ErrShape},
	{"Keep without Pass", api.Rule{Keep: true}, api.ErrShape},
}

// N1: a Plan

func TestPlanJudges(t *testing.T) {
	l := laws(t,
		"block from any to any",
		"pass in kind stream from 10.0.0.0/8 port 5000-5001,7000 to 0.0.0.0/30 port 80,443 keep",
		"block quick out kind single from any port 0,65535 to any",
		"pass kind single from any to 255.255.255.255/32",
		"pass quick kind echo from 0.0.0.0/32 to any keep",
		"block kind echo from any to any",
	)
	p, err := New(l)
	if err != nil {
		t.Fatal(err)
	}
	// Each side has numbers just within and just outside of what a rule asks for.
	for kind := range 16 {
		for _, src := range []int{0, 1, 10<<24 - 1, 10 << 24, 11<<24 - 1, 11 << 24, api.MaxAddr} {
			for _, dst := range []int{0, 3, 4, api.MaxAddr - 1, api.MaxAddr} {
				for _, from := range []int{0, 1, 4999, 5000, 5001, 5002, 6999, 7000, 7001, 65534, 65535} {
					for _, to := range []int{0, 79, 80, 81, 442, 443, 444, 65535} {
						k := api.Key{Kind: kind, Src: src, From: from, Dst: dst, To: to}
						wantPlanned(t, "six", p, l, k, api.In)
						wantPlanned(t, "six", p, l, k, api.Out)
					}
				}
			}
		}
	}
}

func TestPlanOfNone(t *testing.T) {
	for _, l := range [][]api.Rule{nil, {}} {
		p, err := New(l)
		if err != nil {
			t.Fatal(err)
		}
		wantPlanned(t, "none", p, l, api.Key{}, api.In)
		wantPlanned(t, "none", p, l, api.Key{Kind: 15, Src: api.MaxAddr, From: api.MaxPort, Dst: api.MaxAddr, To: api.MaxPort}, api.Out)
		if pass, keep, number, err := p.Judge(api.Key{Kind: 7}, api.Out); !pass || keep || number != -1 || err != nil {
			t.Errorf("Judge of none: got %v, %v, %v, %v", pass, keep, number, err)
		}
	}
}

func TestPlanOfMaxRules(t *testing.T) {
	l := slices.Repeat([]api.Rule{{}}, 19)
	l = append(l, api.Rule{Pass: true, Keep: true, Kind: api.Echo})
	for _, quick := range []int{-1, 18, 7, 0} {
		if quick >= 0 {
			l[quick].Quick = true
		}
		p, err := New(l)
		if err != nil {
			t.Fatal(err)
		}
		for kind := range 16 {
			wantPlanned(t, "20", p, l, api.Key{Kind: kind}, api.In)
		}
	}
	wantRefused(t, "21", make([]api.Rule, 21), api.ErrFull)
	wantRefused(t, "1000", make([]api.Rule, 1000), api.ErrFull)
}

func TestPlanRange(t *testing.T) {
	some := laws(t, "pass quick from any to any keep", "block kind stream from any port 0-65535 to any port 65535")
	for _, l := range [][]api.Rule{nil, some} {
		p, err := New(l)
		if err != nil {
			t.Fatal(err)
		}
		refused := func(k api.Key, way int) {
			t.Helper()
			if pass, keep, number, err := p.Judge(k, way); pass || keep || number != 0 || plain.Told(err) != api.ErrRange {
				t.Errorf("Judge of %v, way %d: got %v, %v, %v, %v", k, way, pass, keep, number, err)
			}
		}
		for _, n := range []int{-1, math.MinInt, math.MaxInt} {
			for _, k := range []api.Key{{Kind: n}, {Src: n}, {From: n}, {Dst: n}, {To: n}} {
				refused(k, api.In)
				refused(k, api.Out)
				refused(k, api.Any)
			}
			refused(api.Key{}, n)
		}
		for _, k := range []api.Key{{Kind: 16}, {Src: api.MaxAddr + 1}, {From: api.MaxPort + 1}, {Dst: api.MaxAddr + 1}, {To: api.MaxPort + 1}} {
			refused(k, api.In)
			refused(k, api.Out)
		}
		refused(api.Key{}, api.Any)
		refused(api.Key{}, 3)
		// It judges on as before.
		wantPlanned(t, "one that refused", p, l, api.Key{Kind: api.Stream}, api.In)
	}
}

// A plan is of the rules as they were.
func TestPlanKeepsNothing(t *testing.T) {
	ports := [][2]int{{80, 80}, {443, 443}, {9, 1}}
	memory := []api.Rule{{Pass: true, Keep: true}, {Kind: api.Stream, From: ports[:0], To: ports[:2]}, {Way: 77}}
	l := memory[:2]
	was := laws(t, "pass from any to any keep", "block kind stream from any to any port 80,443")
	p, err := New(l)
	if err != nil {
		t.Fatal(err)
	}
	ports[0], ports[1] = [2]int{81, 81}, [2]int{7, 6}
	l[0], l[1].Way = api.Rule{Quick: true}, 99
	for _, to := range []int{79, 80, 81, 443} {
		wantPlanned(t, "what was", p, was, api.Key{Kind: api.Stream, To: to}, api.In)
	}
	q, err := New(was)
	if err != nil {
		t.Fatal(err)
	}
	other, err := New(nil)
	if err != nil {
		t.Fatal(err)
	}
	wantPlanned(t, "one of two", q, was, api.Key{Kind: api.Stream, To: 80}, api.In)
	wantPlanned(t, "another", other, nil, api.Key{Kind: api.Stream, To: 80}, api.In)
}

// N1: Live and Dead (and what Trim leaves of it, N2)

func TestDead(t *testing.T) {
	for _, c := range []struct {
		what  string
		lines []string
		dead  []int
	}{
		{"one", []string{"block from any to any"}, nil},
		{"a small one", []string{"block quick in kind stream from 1.2.3.4/32 port 5 to 6.7.8.9/32 port 10"}, nil},
		{"the same twice", []string{"block from any to any", "block from any to any"}, []int{0}},
		{"the same twice, quick", []string{"block quick from any to any", "block quick from any to any"}, []int{1}},
		{"the first quick", []string{"block quick from any to any", "block from any to any"}, []int{1}},
		{"the second quick", []string{"block from any to any", "block quick from any to any"}, []int{0}},
		{"a small one behind", []string{"block from any to any", "pass from 10.0.0.0/8 to any"}, nil},
		{"a small one ahead", []string{"pass from 10.0.0.0/8 to any", "block from any to any"}, []int{0}},
		{"a small quick one ahead", []string{"pass quick from 10.0.0.0/8 to any", "block from any to any"}, nil},
		{"a small one behind a quick one", []string{"block quick from any to any", "pass from 10.0.0.0/8 to any"}, []int{1}},
		{"a greater one behind a quick one", []string{"block quick from 10.0.0.0/8 to any", "pass from any to any"}, nil},
		{"a small quick one behind a quick one", []string{"block quick from any to 10.0.0.0/8", "pass quick from any to 10.1.0.0/16"}, []int{1}},
		{"both ways together", []string{"block from any to any", "pass in from any to any", "pass out from any to any"}, []int{0}},
		{"both halves of Src", []string{"block from 10.0.0.0/8 to any", "pass from 10.0.0.0/9 to any", "pass from 10.128.0.0/9 to any"}, []int{0}},
		{"both halves of Dst", []string{"block from any to any", "pass from any to 0.0.0.0/1", "pass from any to 128.0.0.0/1"}, []int{0}},
		{"halves of Src and Dst", []string{"block from any to any", "pass from 0.0.0.0/1 to any", "pass from any to 128.0.0.0/1"}, nil},
		{"halves but for one address", []string{"block from 0.0.0.0/30 to any", "pass from 0.0.0.0/31 to any", "pass from 0.0.0.2/32 to any"}, nil},
		{"the first address alone is left", []string{"block from 0.0.0.0/31 to any", "pass from 0.0.0.1/32 to any"}, nil},
		{"the last address alone is left", []string{"block from any to 255.255.255.254/31", "pass from any to 255.255.255.254/32"}, nil},
		{"all addresses of few", []string{"block from any to 255.255.255.254/31", "pass from any to 255.255.255.254/32", "pass from any to 255.255.255.255/32"}, []int{0}},
		{"all kinds that have a name", []string{"block from any to any", "pass kind stream from any to any", "pass kind single from any to any", "pass kind echo from any to any"}, nil},
		{"ports together", []string{"block kind stream from any to any", "pass kind stream from any port 0-99 to any", "pass kind stream from any port 100-65535 to any"}, []int{0}},
		{"ports but for one", []string{"block kind stream from any to any", "pass kind stream from any port 0-99 to any", "pass kind stream from any port 101-65535 to any"}, nil},
		{"ports but for the first", []string{"block kind single from any to any", "pass kind single from any to any port 1-65535"}, nil},
		{"ports but for the last", []string{"block kind single from any to any", "pass kind single from any to any port 0-65534"}, nil},
		{"all ports by name", []string{"block kind single from any to any", "pass kind single from any to any port 0-65535"}, []int{0}},
		{"ports of another kind", []string{"block kind single from any to any", "pass kind stream from any to any"}, nil},
		{"ports of From and To", []string{"block kind stream from any port 5 to any", "pass kind stream from any to any port 0-4,6-65535", "pass kind stream from any port 0-4,6-65535 to any"}, nil},
		{"a port within others", []string{"block kind stream from any port 7 to any", "pass kind stream from any port 1-3,5-9 to any"}, []int{0}},
		{"a port between others", []string{"block kind stream from any port 4 to any", "pass kind stream from any port 1-3,5-9 to any"}, nil},
		{"two quick ones ahead together", []string{"pass quick in from any to any", "pass quick out from any to any", "block from any to any"}, []int{2}},
		{"a quick one ahead and one behind together", []string{"pass quick in from any to any", "block from any to any", "pass out from any to any"}, []int{1}},
		{"one that is not quick ahead covers nothing", []string{"pass in from any to any", "block from any to any", "pass out from any to any"}, []int{0}},
		{"a quick one that is dead itself", []string{"pass quick from any to any", "block quick in from any to any", "pass in from any to any"}, []int{1, 2}},
		{"six", []string{"block from any to any", "block from any to any", "block quick kind echo from any to any", "pass kind echo from any to any", "pass from 10.0.0.0/8 to any", "pass from 0.0.0.0/1 to any"}, []int{0, 3, 4}},
		{"six of the same", []string{"block from any to any", "block from any to any", "block from any to any", "block from any to any", "block from any to any", "block from any to any"}, []int{0, 1, 2, 3, 4}},
	} {
		wantDead(t, c.what, laws(t, c.lines...), c.dead...)
	}
	wantDead(t, "none", nil)
	wantDead(t, "an empty list", []api.Rule{})
}

// One corner alone is left for the first rule: what Live tells is known to the number.
func TestLiveOfOneKey(t *testing.T) {
	ports := [][2]int{{0, 79}, {81, api.MaxPort}}
	all := api.Rule{Kind: api.Stream, Dst: api.Prefix{Addr: 7, Len: 32}, Src: api.Prefix{Addr: api.MaxAddr, Len: 32}}
	wide := api.Rule{Kind: api.Stream}
	in, from, to := wide, wide, wide
	in.Way, from.From, to.To = api.In, ports, ports
	l := []api.Rule{all, in, from, to}
	want := api.Key{Kind: api.Stream, Src: api.MaxAddr, From: 80, Dst: 7, To: 80}
	if k, way, err := Live(l, 0); k != want || way != api.Out || err != nil {
		t.Errorf("Live: got %v, %v, %v, want %v", k, way, err, want)
	}
	for n := range l {
		wantLive(t, "four", l, n)
	}
	out := wide
	out.Way, out.Quick = api.Out, true
	wantNotLive(t, "that, and all of Out", append(l, out), 0, api.ErrNone)
	one := all
	one.From, one.To = [][2]int{{80, 80}}, [][2]int{{80, 80}}
	wantNotLive(t, "that, and it again", append(l, one), 0, api.ErrNone)
	one.To = [][2]int{{81, 81}}
	wantLive(t, "that, and its neighbour", append(l, one), 0)
}

// Kinds without a name count, and with them all keys that no rule of a kind fits.
func TestLiveOfOtherKinds(t *testing.T) {
	l := laws(t, "block from any to any", "pass kind stream from any to any", "pass kind single from any to any", "pass kind echo from any to any")
	k, _, err := Live(l, 0)
	if err != nil || k.Kind >= api.Stream && k.Kind <= api.Echo || k.Kind < 0 || k.Kind > 15 {
		t.Errorf("Live: got %v, %v", k, err)
	}
}

func TestLiveRange(t *testing.T) {
	l := laws(t, "block from any to any", "block from any to any")
	for _, n := range []int{-1, 2, 3, 6, math.MinInt, math.MaxInt} {
		wantNotLive(t, "two", l, n, api.ErrRange)
	}
	for _, n := range []int{0, -1, 1, math.MinInt, math.MaxInt} {
		wantNotLive(t, "none", nil, n, api.ErrRange)
	}
}

func TestFull(t *testing.T) {
	six, seven := make([]api.Rule, 6), make([]api.Rule, 7)
	wantDead(t, "6", six, 0, 1, 2, 3, 4)
	if _, err := New(seven); err != nil {
		t.Errorf("New of 7: %v", err)
	}
	wantNoneLeft(t, "7", seven, api.ErrFull)
	wantNoneLeft(t, "20", make([]api.Rule, 20), api.ErrFull)
	wantNoneLeft(t, "21", make([]api.Rule, 21), api.ErrFull)
	wantNotLive(t, "7, no such rule", seven, 7, api.ErrFull)
	// One less, with what lies behind it in its memory.
	wantDead(t, "6 of 7", seven[:6], 0, 1, 2, 3, 4)
}

func TestChecksRules(t *testing.T) {
	for _, c := range faulty {
		wantRefused(t, c.what, []api.Rule{c.r}, c.how)
		wantRefused(t, c.what+", behind a quick one", []api.Rule{{Pass: true, Quick: true}, c.r}, c.how)
		wantRefused(t, c.what+", among 7", append(make([]api.Rule, 6), c.r), c.how)
		wantRefused(t, c.what+", among 20", append(make([]api.Rule, 19), c.r), c.how)
		wantRefused(t, c.what+", among 21", append(make([]api.Rule, 20), c.r), api.ErrFull)
		for _, d := range faulty {
			wantRefused(t, c.what+", ahead of "+d.what, []api.Rule{c.r, d.r}, c.how)
		}
	}
}

// N2: Differ

func TestDiffer(t *testing.T) {
	for _, c := range []struct {
		what string
		a, b []string
		same bool
	}{
		{"none", nil, nil, true},
		{"none and all pass", nil, []string{"pass from any to any"}, true},
		{"none and all are kept", nil, []string{"pass from any to any keep"}, false},
		{"none and all are blocked", nil, []string{"block from any to any"}, false},
		{"none and one key is blocked", nil, []string{"block out kind single from 1.2.3.4/32 port 5 to 6.7.8.9/32 port 65535"}, false},
		{"none and one key is kept", nil, []string{"pass in kind stream from 0.0.0.0/32 port 0 to 0.0.0.0/32 port 0 keep"}, false},
		{"another number", []string{"block from any to any"}, []string{"pass from any to any", "block from any to any"}, true},
		{"quick, with nothing behind", []string{"block from any to any"}, []string{"block quick from any to any"}, true},
		{"quick, with something behind", []string{"block from any to any", "pass in from any to any"}, []string{"block quick from any to any", "pass in from any to any"}, false},
		{"turned round and quick", []string{"block from any to any", "pass from 10.0.0.0/8 to any"}, []string{"pass quick from 10.0.0.0/8 to any", "block from any to any"}, true},
		{"turned round", []string{"block from any to any", "pass from 10.0.0.0/8 to any"}, []string{"pass from 10.0.0.0/8 to any", "block from any to any"}, false},
		{"turned round, apart", []string{"block from 11.0.0.0/8 to any", "pass from 10.0.0.0/8 to any keep"}, []string{"pass from 10.0.0.0/8 to any keep", "block from 11.0.0.0/8 to any"}, true},
		{"kept or not", []string{"pass in from any to any keep"}, []string{"pass in from any to any"}, false},
		{"halves", []string{"block from any to any"}, []string{"block from 0.0.0.0/1 to any", "block from 128.0.0.0/1 to any"}, true},
		{"halves but for one address", []string{"block from any to 0.0.0.0/30"}, []string{"block from any to 0.0.0.0/31", "block from any to 0.0.0.2/32"}, false},
		{"both ways", []string{"block kind echo from any to any"}, []string{"block in kind echo from any to any", "block out kind echo from any to any"}, true},
		{"all kinds that have a name", []string{"block from any to any"}, []string{"block kind stream from any to any", "block kind single from any to any", "block kind echo from any to any"}, false},
		{"ports", []string{"block kind stream from any port 1-9 to any"}, []string{"block kind stream from any port 1-5 to any", "block kind stream from any port 6-9 to any"}, true},
		{"ports but for one", []string{"block kind stream from any port 1-9 to any"}, []string{"block kind stream from any port 1-5,7-9 to any"}, false},
		{"ports of the other side", []string{"block kind stream from any port 1-9 to any"}, []string{"block kind stream from any to any port 1-9"}, false},
		{"all ports by name", []string{"block kind stream from any to any"}, []string{"block kind stream from any port 0-65535 to any port 0-65535"}, true},
		{"the last port", []string{"block kind stream from any to any"}, []string{"block kind stream from any to any port 0-65534"}, false},
		{"four and four", []string{"block from any to any", "pass in from any to any", "pass from any to any keep", "block kind echo from 10.0.0.0/8 to any"}, []string{"pass quick from 11.0.0.0/8 to any keep", "block quick kind echo from 10.0.0.0/8 to any", "block from any to any", "pass from any to any keep"}, true},
		{"four and four that differ", []string{"block from any to any", "pass in from any to any", "pass from any to any keep", "block kind echo from 10.0.0.0/8 to any"}, []string{"pass quick from 10.255.255.255/32 to any keep", "block quick kind echo from 10.0.0.0/8 to any", "block from any to any", "pass from any to any keep"}, false},
		{"what is dead", []string{"pass quick from any to any", "block kind echo from any to any"}, nil, true},
	} {
		a, b := laws(t, c.a...), laws(t, c.b...)
		if c.same {
			wantSame(t, c.what, a, b)
		} else {
			wantDiffer(t, c.what, a, b)
		}
		wantSame(t, c.what+", the first and itself", a, a)
		wantSame(t, c.what+", the second and itself", b, b)
	}
}

// One key alone is told otherwise: what Differ tells is known to the number.
func TestDifferOfOneKey(t *testing.T) {
	a := laws(t, "pass out kind single from 1.2.3.4/32 port 5 to 255.255.255.255/32 port 65535 keep")
	want := api.Key{Kind: api.Single, Src: 1<<24 | 2<<16 | 3<<8 | 4, From: 5, Dst: api.MaxAddr, To: api.MaxPort}
	for _, b := range [][]api.Rule{nil, laws(t, "pass in from any to any"), laws(t, "pass from any to any", "pass from any to any")} {
		if k, way, err := Differ(a, b); k != want || way != api.Out || err != nil {
			t.Errorf("Differ: got %v, %v, %v, want %v", k, way, err, want)
		}
		wantDiffer(t, "one key", a, b)
	}
}

func TestDifferErrors(t *testing.T) {
	four, five := make([]api.Rule, 4), make([]api.Rule, 5)
	wantSame(t, "4 and 4", four, four)
	wantSame(t, "4 of 5", five[:4], four)
	wantDiffer(t, "4 and none", four, nil)
	for _, many := range [][]api.Rule{five, make([]api.Rule, 6), make([]api.Rule, 20), make([]api.Rule, 21)} {
		for _, few := range [][]api.Rule{nil, four, five} {
			wantNoDiffer(t, "many and few", many, few, api.ErrFull)
			wantNoDiffer(t, "few and many", few, many, api.ErrFull)
		}
	}
	for _, c := range faulty {
		bad := []api.Rule{{}, c.r}
		wantNoDiffer(t, c.what+" in a", bad, four, c.how)
		wantNoDiffer(t, c.what+" in b", four, bad, c.how)
		wantNoDiffer(t, c.what+" in both", bad, bad, c.how)
		wantNoDiffer(t, c.what+" in a, 5 in b", bad, five, c.how)
		wantNoDiffer(t, c.what+" in b, 5 in a", five, bad, c.how)
		wantNoDiffer(t, c.what+" in a of 6", append(slices.Clone(five), c.r), nil, c.how)
		wantNoDiffer(t, c.what+" in a, 21 in b", bad, make([]api.Rule, 21), c.how)
		wantNoDiffer(t, c.what+" in b, 21 in a", make([]api.Rule, 21), bad, api.ErrFull)
		for _, d := range faulty {
			wantNoDiffer(t, c.what+" in a, "+d.what+" in b", bad, []api.Rule{d.r}, c.how)
		}
	}
}

// N2: Trim

// All ports of what is left are told as they were, and are the caller's.
func TestTrimIsApart(t *testing.T) {
	ports := [][2]int{{80, 80}, {443, 443}, {9, 1}}
	memory := []api.Rule{
		{Kind: api.Stream, From: ports[:2], To: ports[:2]},
		{Kind: api.Echo},
		{Kind: api.Stream, Pass: true, Quick: true, Keep: true, Src: api.Prefix{Addr: 8, Len: 29}, From: ports[:0], To: ports[:1]},
		{Kind: api.Echo, Pass: true, Way: api.Any},
		{Way: 77},
	}
	l := memory[:4]
	was := []api.Rule{memory[0], memory[2], memory[3]}
	for i := range was {
		was[i].From, was[i].To = slices.Clone(was[i].From), slices.Clone(was[i].To)
	}
	wantTrimmed(t, "four", l, was)
	got, err := Trim(l)
	if err != nil {
		t.Fatal(err)
	}
	for i := range got {
		for _, ports := range [][][2]int{got[i].From, got[i].To} {
			for j := range ports {
				ports[j] = [2]int{-7, -7 - i}
			}
			_ = append(ports, [2]int{-8, -8})
		}
		got[i].Way = 99
	}
	_ = append(got, api.Rule{Way: 98})
	if !slices.Equal(got[0].To, [][2]int{{-7, -7}, {-7, -7}}) || !slices.Equal(got[1].To, [][2]int{{-7, -8}}) {
		t.Errorf("what was told shares memory: %v", got)
	}
	if !slices.Equal(ports, [][2]int{{80, 80}, {443, 443}, {9, 1}}) || memory[4].Way != 77 || memory[1].Kind != api.Echo {
		t.Errorf("what was handed in is %v, %v now", memory, ports)
	}
	wantTrimmed(t, "four, again", l, was)
	// A list of which nothing goes is told anew all the same.
	same, err := Trim(was)
	if err != nil || len(same) != 3 {
		t.Fatalf("Trim of three: got %v, %v", same, err)
	}
	same[0].From[0] = [2]int{1, 1}
	same[1].Way = 5
	wantTrimmed(t, "three, again", was, []api.Rule{memory[0], memory[2], memory[3]})
}

// What is told of dead rules is the caller's too.
func TestDeadIsApart(t *testing.T) {
	l := make([]api.Rule, 4)
	got, err := Dead(l)
	if err != nil {
		t.Fatal(err)
	}
	for i := range got {
		got[i] = -7
	}
	_ = append(got, -7)
	wantDead(t, "four", l, 0, 1, 2)
}

// Random rules against all keys of a small world

const far = 77 << 24

// world is all keys and ways that random rules can tell from each other.
func world(do func(k api.Key, way int)) {
	ports := []int{0, 1, 2, 3, 4, api.MaxPort}
	addrs := []int{0, 1, 2, 3, far}
	for way := api.In; way <= api.Out; way++ {
		for kind := range 5 {
			for _, src := range addrs {
				for _, from := range ports {
					for _, dst := range addrs {
						for _, to := range ports {
							do(api.Key{Kind: kind, Src: src, From: from, Dst: dst, To: to}, way)
						}
					}
				}
			}
		}
	}
}

func randomRule(r *rand.Rand) api.Rule {
	prefix := func() api.Prefix {
		if r.Intn(2) == 0 {
			return api.Prefix{}
		}
		n := 30 + r.Intn(3)
		return api.Prefix{Addr: r.Intn(4) >> (32 - n) << (32 - n), Len: n}
	}
	ports := func() [][2]int {
		some := [][][2]int{nil, nil, {{0, 4}}, {{0, 2}}, {{3, 3}}, {{1, 4}}, {{2, api.MaxPort}}, {{0, 0}, {5, api.MaxPort}}, {{0, 0}, {2, 2}, {4, 4}}, {{1, 1}, {3, 3}, {5, api.MaxPort}}}
		return slices.Clone(some[r.Intn(len(some))])
	}
	kinds := []int{api.Any, api.Any, api.Stream, api.Stream, api.Single, api.Echo}
	x := api.Rule{Pass: r.Intn(2) == 0, Quick: r.Intn(4) == 0, Kind: kinds[r.Intn(len(kinds))], Src: prefix(), Dst: prefix()}
	if r.Intn(3) == 0 {
		x.Way = r.Intn(3)
	}
	x.Keep = x.Pass && r.Intn(3) == 0
	if x.Kind == api.Stream || x.Kind == api.Single {
		x.From, x.To = ports(), ports()
	}
	return x
}

func randomRules(r *rand.Rand, most int) []api.Rule {
	var l []api.Rule
	for range r.Intn(most + 1) {
		l = append(l, randomRule(r))
	}
	return l
}

func TestRandomPlans(t *testing.T) {
	r := rand.New(rand.NewSource(10))
	dying := 0
	for range 80 {
		l := randomRules(r, 6)
		p, err := New(l)
		if err != nil {
			t.Fatal(err)
		}
		lives := make([]int, len(l))
		world(func(k api.Key, way int) {
			want := judged(t, l, k, way)
			if pass, keep, number, err := p.Judge(k, way); (verdict{pass, keep, number}) != want || err != nil {
				t.Fatalf("Judge of %v, %v, way %d: got %v, %v, %v, %v, want %v", l, k, way, pass, keep, number, err, want)
			}
			if want.number >= 0 {
				lives[want.number]++
			}
		})
		var dead []int
		for n, many := range lives {
			if many == 0 {
				dead = append(dead, n)
			}
		}
		dying += len(dead)
		wantDead(t, "random ones", l, dead...)
		wantTrimmed(t, "random ones, again and again", l, trimSlowly(t, l))
		if t.Failed() {
			text, _ := rule.Print(l)
			t.Fatal(text)
		}
	}
	if dying < 30 {
		t.Errorf("only %d of them are dead", dying)
	}
}

// trimSlowly lets the last one that is Dead go, till none is.
func trimSlowly(t *testing.T, l []api.Rule) []api.Rule {
	t.Helper()
	l = slices.Clone(l)
	for {
		dead, err := Dead(l)
		if err != nil {
			t.Fatal(err)
		}
		if len(dead) == 0 {
			return l
		}
		last := dead[len(dead)-1]
		l = slices.Delete(l, last, last+1)
	}
}

func TestRandomDiffer(t *testing.T) {
	r := rand.New(rand.NewSource(11))
	same := 0
	for range 100 {
		a := randomRules(r, 4)
		b := randomRules(r, 4)
		if r.Intn(2) == 0 {
			// Near ones: the same, with one thing changed.
			b = slices.Clone(a)
			if len(b) > 0 {
				b[r.Intn(len(b))] = randomRule(r)
			}
		}
		differ := false
		world(func(k api.Key, way int) {
			x, y := judged(t, a, k, way), judged(t, b, k, way)
			differ = differ || x.pass != y.pass || x.keep != y.keep
		})
		if differ {
			wantDiffer(t, "random ones", a, b)
		} else {
			same++
			wantSame(t, "random ones", a, b)
		}
		trimmed, err := Trim(a)
		if err != nil {
			t.Fatal(err)
		}
		wantSame(t, "one, and what is left of it", a, trimmed)
		if t.Failed() {
			t.Fatalf("%v, %v", a, b)
		}
	}
	if same < 8 {
		t.Errorf("only %d of them are the same", same)
	}
}

// Rules of as many ports as may be end soon enough.
func TestManyPorts(t *testing.T) {
	var l []api.Rule
	for n := range 20 {
		x := api.Rule{Kind: api.Stream, Pass: n%2 == 0, Src: api.Prefix{Len: 24 + n%9}}
		for i := range 10 {
			low := i*6000 + n*131
			x.From = append(x.From, [2]int{low, low + 2999})
			x.To = append(x.To, [2]int{low + 1000, low + 4999})
		}
		l = append(l, x)
	}
	p, err := New(l)
	if err != nil {
		t.Fatal(err)
	}
	r := rand.New(rand.NewSource(12))
	for range 3000 {
		k := api.Key{Kind: api.Stream, Src: r.Intn(300), From: r.Intn(api.MaxPort + 1), To: r.Intn(api.MaxPort + 1)}
		wantPlanned(t, "20 of many ports", p, l, k, api.In)
	}
	dead, err := Dead(l[:6])
	if err != nil {
		t.Fatal(err)
	}
	for n := range 6 {
		if slices.Contains(dead, n) {
			wantNotLive(t, "6 of many ports", l, n, api.ErrFull)
			wantNotLive(t, "6 of many ports", l[:6], n, api.ErrNone)
		} else {
			wantLive(t, "6 of many ports", l[:6], n)
		}
	}
	wantDiffer(t, "4 and 4 of many ports", l[:4], l[4:8])
	wantSame(t, "4 of many ports", l[:4], l[:4])
}
