package diff

import (
	"fmt"
	"math"
	"strconv"
	"strings"
	"testing"

	"portcullis/api"
	"portcullis/plain"
	"portcullis/rule"
)

// Rules are told as letters here, each of which is another rule, and edits as words: +2a puts a at 2, -2a is the going of a at 2.

func ruleOf(letter byte) api.Rule {
	n := int(letter)
	return api.Rule{
		Pass: true, Way: api.In, Kind: api.Stream,
		Src: api.Prefix{Addr: n, Len: 32}, Dst: api.Prefix{Addr: 10 << 24, Len: 8},
		From: [][2]int{{n, n + 3}, {5000, 6000}}, To: [][2]int{{7, 7}},
	}
}

func rulesOf(letters string) []api.Rule {
	var l []api.Rule
	for i := range len(letters) {
		l = append(l, ruleOf(letters[i]))
	}
	return l
}

func editsOf(words string) []api.Edit {
	var l []api.Edit
	for _, w := range strings.Fields(words) {
		at, err := strconv.Atoi(w[1 : len(w)-1])
		if err != nil {
			panic(err)
		}
		l = append(l, api.Edit{At: at, Put: w[0] == '+', Rule: ruleOf(w[len(w)-1])})
	}
	return l
}

// letters that there are as rules, of which there are not that many.
const letters = "abcdefghijklmnopqrstuvwxyz"

// said is what rules say, an empty list and nil alike.
func said(l []api.Rule) string {
	var b strings.Builder
	for _, r := range l {
		from, to := fmt.Sprint(r.From), fmt.Sprint(r.To)
		r.From, r.To = nil, nil
		fmt.Fprintf(&b, "%+v %s %s\n", r, from, to)
	}
	return b.String()
}

// saidEdits is what edits say.
func saidEdits(l []api.Edit) string {
	var b strings.Builder
	for _, e := range l {
		fmt.Fprintf(&b, "%d %t %s", e.At, e.Put, said([]api.Rule{e.Rule}))
	}
	return b.String()
}

func wantCommon(t *testing.T, what string, a, b []api.Rule, want int) {
	t.Helper()
	if got, err := Common(a, b); got != want || err != nil {
		t.Errorf("Common of %s: got %d, %v, want %d", what, got, err, want)
	}
}

func wantDiff(t *testing.T, what string, a, b []api.Rule, want []api.Edit) {
	t.Helper()
	if got, err := Diff(a, b); saidEdits(got) != saidEdits(want) || err != nil {
		t.Errorf("Diff of %s: got %v, %v, want %v", what, got, err, want)
	}
}

func wantApplied(t *testing.T, what string, a []api.Rule, l []api.Edit, want []api.Rule) {
	t.Helper()
	if got, err := Apply(a, l); said(got) != said(want) || err != nil {
		t.Errorf("Apply of %s: got %v, %v, want %v", what, got, err, want)
	}
}

func wantNotApplied(t *testing.T, what string, a []api.Rule, l []api.Edit, how api.Errno) {
	t.Helper()
	if got, err := Apply(a, l); len(got) != 0 || plain.Told(err) != how {
		t.Errorf("Apply of %s: got %v, %v, want %v", what, got, err, how)
	}
}

// wantRefused: Common and Diff have an error, and answer nothing else.
func wantRefused(t *testing.T, what string, a, b []api.Rule, how api.Errno) {
	t.Helper()
	if got, err := Common(a, b); got != 0 || plain.Told(err) != how {
		t.Errorf("Common of %s: got %d, %v, want 0, %v", what, got, err, how)
	}
	if got, err := Diff(a, b); len(got) != 0 || plain.Told(err) != how {
		t.Errorf("Diff of %s: got %v, %v, want %v", what, got, err, how)
	}
}

// outside are numbers that are not from low to high.
func outside(low, high int) []int {
	return []int{math.MinInt, -1 << 32, low - 2, low - 1, high + 1, high + 2, 1 << 32, math.MaxInt}
}

// D1: Common

func TestCommon(t *testing.T) {
	for _, c := range []struct {
		a, b string
		want int
	}{
		{"", "", 0},
		{"", "abc", 0},
		{"a", "a", 1},
		{"a", "b", 0},
		{"abc", "abc", 3},
		{"abc", "def", 0},
		{"abc", "xaybzc", 3},
		{"ab", "ba", 1},
		{"abc", "cba", 1},
		{"abc", "acb", 2},
		{"abc", "cab", 2},
		{"aaa", "aa", 2},
		{"aba", "aa", 2},
		{"abab", "baba", 3},
		{"aab", "abb", 2},
		{"abcbdab", "bdcaba", 4},
		// The greedy way from either end takes less.
		{"abcde", "eabcd", 4},
		{"abcde", "bcdea", 4},
		{"bcdxa", "abcd", 3},
		{letters[:20], letters[:20], 20},
		{letters[:20], letters[6:], 14},
		{letters[6:], letters[:20], 14},
		{strings.Repeat("a", 20), strings.Repeat("a", 20), 20},
		{strings.Repeat("ab", 10), strings.Repeat("ba", 10), 19},
		{letters[:10] + letters[16:], letters[10:20] + letters[:10], 10},
	} {
		wantCommon(t, c.a+" and "+c.b, rulesOf(c.a), rulesOf(c.b), c.want)
		wantCommon(t, c.b+" and "+c.a, rulesOf(c.b), rulesOf(c.a), c.want)
	}
}

// different are rules no two of which are alike, though most have all fields but one in common with another one.
func different() []api.Rule {
	var l []api.Rule
	vary := func(change func(r *api.Rule)) {
		r := api.Rule{
			Pass: true, Quick: true, Way: api.In, Kind: api.Stream,
			Src: api.Prefix{Addr: 0, Len: 8}, Dst: api.Prefix{Addr: 16 << 24, Len: 8},
			From: [][2]int{{1, 3}, {5, 7}}, To: [][2]int{{2, 4}, {6, 8}},
		}
		change(&r)
		l = append(l, r)
	}
	vary(func(r *api.Rule) {})
	vary(func(r *api.Rule) { r.Pass = false })
	vary(func(r *api.Rule) { r.Quick = false })
	vary(func(r *api.Rule) { r.Keep = true })
	vary(func(r *api.Rule) { r.Way = api.Any })
	vary(func(r *api.Rule) { r.Way = api.Out })
	vary(func(r *api.Rule) { r.Kind = api.Single })
	vary(func(r *api.Rule) { r.Src.Addr = 16 << 24 })
	vary(func(r *api.Rule) { r.Src.Len = 9 })
	vary(func(r *api.Rule) { r.Dst.Addr = 0 })
	vary(func(r *api.Rule) { r.Dst.Len = 9 })
	vary(func(r *api.Rule) { r.Src, r.Dst = r.Dst, r.Src })
	vary(func(r *api.Rule) { r.From, r.To = r.To, r.From })
	vary(func(r *api.Rule) { r.To = r.From })
	vary(func(r *api.Rule) { r.From = r.To })
	for _, ports := range [][][2]int{
		nil, {{1, 3}}, {{5, 7}}, {{1, 7}}, {{0, 3}, {5, 7}}, {{1, 2}, {5, 7}}, {{1, 3}, {6, 7}}, {{1, 3}, {5, 9}}, {{1, 3}, {5, 7}, {9, 9}},
	} {
		vary(func(r *api.Rule) { r.From = ports })
		vary(func(r *api.Rule) { r.To = ports })
	}
	return l
}

// TestAlikeByAllFields: rules are the same one if they are by all fields, and only then.
func TestAlikeByAllFields(t *testing.T) {
	l, again := different(), different()
	for i, x := range l {
		for j, y := range again {
			what := fmt.Sprintf("%v and %v", x, y)
			a, b := []api.Rule{x}, []api.Rule{y}
			going := []api.Edit{{Rule: y}}
			if i == j {
				wantCommon(t, what, a, b, 1)
				wantDiff(t, what, a, b, nil)
				wantApplied(t, what, a, going, nil)
				continue
			}
			wantCommon(t, what, a, b, 0)
			wantDiff(t, what, a, b, []api.Edit{{Rule: x}, {Put: true, Rule: y}})
			wantNotApplied(t, what, a, going, api.ErrState)
		}
	}
}

// TestEmptyAsNil: an empty list of ports, or of rules, is as nil.
func TestEmptyAsNil(t *testing.T) {
	a := []api.Rule{{From: [][2]int{}}, {To: [][2]int{}}}
	b := []api.Rule{{To: [][2]int{}}, {From: [][2]int{}}}
	wantCommon(t, "empty ports", a, b, 2)
	wantCommon(t, "empty ports and none", a, []api.Rule{{}, {}}, 2)
	wantDiff(t, "empty ports", a, b, nil)
	wantApplied(t, "empty ports", a, []api.Edit{{Rule: b[0]}}, []api.Rule{{}})
	wantCommon(t, "empty lists", []api.Rule{}, nil, 0)
	wantDiff(t, "empty lists", nil, []api.Rule{}, nil)
	wantApplied(t, "empty lists", []api.Rule{}, []api.Edit{}, nil)
	wantApplied(t, "nil", nil, nil, nil)
	if got := Turn([]api.Edit{}); len(got) != 0 {
		t.Errorf("Turn of none: got %v", got)
	}
	if got := Turn(nil); len(got) != 0 {
		t.Errorf("Turn of nil: got %v", got)
	}
}

// D1: Diff

func TestDiff(t *testing.T) {
	for _, c := range []struct{ a, b, want string }{
		{"", "", ""},
		{"a", "a", ""},
		{"abc", "abc", ""},
		{"", "a", "+0a"},
		{"", "abc", "+0a +1b +2c"},
		{"", "aaa", "+0a +1a +2a"},
		{"a", "", "-0a"},
		{"abc", "", "-0a -0b -0c"},
		{"aaa", "", "-0a -0a -0a"},
		// What goes does so ahead of what is Put, if either may be first.
		{"a", "b", "-0a +0b"},
		{"ab", "cd", "-0a -0b +0c +1d"},
		{"ab", "ba", "-0a +1a"},
		{"abc", "cba", "-0a -0b +1b +2a"},
		{"xa", "ay", "-0x +1y"},
		{"ax", "ay", "-1x +1y"},
		{"xa", "ya", "-0x +0y"},
		// It is Put first if one less would be in common without what may go.
		{"ab", "xab", "+0x"},
		{"ab", "xyab", "+0x +1y"},
		{"abc", "cab", "+0c -3c"},
		{"ab", "xaby", "+0x +3y"},
		{"ab", "xyazb", "+0x +1y +3z"},
		// At goes on over what is alike, and over what is Put, and not over what goes.
		{"abc", "xaybzc", "+0x +2y +4z"},
		{"xaybzc", "abc", "-0x -1y -2z"},
		{"abcd", "abd", "-2c"},
		{"abd", "abcd", "+2c"},
		{"axbycz", "apbqcr", "-1x +1p -3y +3q -5z +5r"},
		{"abxyz", "abz", "-2x -2y"},
		// Where both begin alike both are passed, though another one is as good.
		{"aab", "ab", "-1a"},
		{"ab", "aab", "+1a"},
		{"aaa", "aa", "-2a"},
		{"aa", "aaa", "+2a"},
		{"abab", "ab", "-2a -2b"},
		{"ab", "abab", "+2a +3b"},
		{"abab", "baba", "-0a +3a"},
		{"baba", "abab", "-0b +3b"},
		{"abcbdab", "bdcaba", "-0a -1c -1b +2c +5a"},
	} {
		a, b := rulesOf(c.a), rulesOf(c.b)
		what := c.a + " and " + c.b
		wantDiff(t, what, a, b, editsOf(c.want))
		wantApplied(t, what, a, editsOf(c.want), b)
		wantApplied(t, what+", turned", b, Turn(editsOf(c.want)), a)
	}
}

// TestDiffFull: as many rules as may be, on both sides.
func TestDiffFull(t *testing.T) {
	a, b := rulesOf(letters[:20]), rulesOf(strings.ToUpper(letters[:20]))
	var want []api.Edit
	for _, r := range a {
		want = append(want, api.Edit{Rule: r})
	}
	for i, r := range b {
		want = append(want, api.Edit{At: i, Put: true, Rule: r})
	}
	wantCommon(t, "20 and 20 others", a, b, 0)
	wantDiff(t, "20 and 20 others", a, b, want)
	wantApplied(t, "20 and 20 others", a, want, b)
	wantDiff(t, "20 and the same", a, a, nil)
	wantDiff(t, "20 and none", a, nil, want[:20])
	wantDiff(t, "none and 20", nil, b, want[20:])
}

// faulty are lists with which chapter 8's Check finds something wrong, each in another way.
var faulty = []struct {
	what string
	l    []api.Rule
	how  api.Errno
}{
	{"21 rules", make([]api.Rule, api.MaxRules+1), api.ErrFull},
	{"a way", []api.Rule{{}, {Way: api.Out + 1}}, api.ErrRange},
	{"a kind", []api.Rule{{}, {}, {Kind: -1}}, api.ErrRange},
	{"a prefix", []api.Rule{{Src: api.Prefix{Len: 33}}}, api.ErrRange},
	{"bits behind a prefix", []api.Rule{{Dst: api.Prefix{Addr: 1, Len: 8}}}, api.ErrShape},
	{"spans", []api.Rule{{Kind: api.Single, From: make([][2]int, api.MaxSpans+1)}}, api.ErrFull},
	{"a port", []api.Rule{{Kind: api.Single, To: [][2]int{{1, api.MaxPort + 1}}}}, api.ErrRange},
	{"ports of any kind", []api.Rule{{From: [][2]int{{1, 2}}}}, api.ErrShape},
	{"keep of what is blocked", []api.Rule{{Keep: true}}, api.ErrShape},
}

// TestFaulty: Common, Diff and Apply ask Check of each list, and tell what it says.
func TestFaulty(t *testing.T) {
	right := rulesOf("abc")
	for _, c := range faulty {
		if got := plain.Told(rule.Check(c.l)); got != c.how {
			t.Fatalf("Check of %s: got %v, want %v", c.what, got, c.how)
		}
		wantRefused(t, c.what+", and right", c.l, right, c.how)
		wantRefused(t, "right, and "+c.what, right, c.l, c.how)
		wantRefused(t, c.what+", and none", c.l, nil, c.how)
		wantRefused(t, "none, and "+c.what, nil, c.l, c.how)
		wantRefused(t, c.what+", twice", c.l, c.l, c.how)
		wantNotApplied(t, c.what, c.l, nil, c.how)
		// What is wrong with the second list is told only behind what is with the first.
		for _, d := range faulty {
			wantRefused(t, c.what+", and "+d.what, c.l, d.l, c.how)
		}
	}
}
