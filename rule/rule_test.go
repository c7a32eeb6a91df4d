package rule

import (
	"fmt"
	"math"
	"math/rand"
	"reflect"
	"regexp"
	"slices"
	"strconv"
	"strings"
	"testing"

	"portcullis/addr"
	"portcullis/api"
	"portcullis/plain"
	"portcullis/span"
)

// apart are as many spans of one number each, rising, with gaps between.
func apart(n int) [][2]int {
	var l [][2]int
	for i := range n {
		l = append(l, [2]int{i * 3, i * 3})
	}
	return l
}

// alike tells whether rules are the same, an empty list and nil alike.
func alike(a, b []api.Rule) bool {
	return slices.EqualFunc(a, b, func(p, q api.Rule) bool {
		same := slices.Equal(p.From, q.From) && slices.Equal(p.To, q.To)
		p.From, p.To, q.From, q.To = nil, nil, nil, nil
		return same && reflect.DeepEqual(p, q)
	})
}

func wantCheck(t *testing.T, what string, l []api.Rule, how api.Errno) {
	t.Helper()
	if err := Check(l); plain.Told(err) != how {
		t.Errorf("Check of %s: got %v, want %v", what, err, how)
	}
	// Print asks the same.
	got, err := Print(l)
	if plain.Told(err) != how || how != api.OK && got != "" {
		t.Errorf("Print of %s: got %q, %v, want %v", what, got, err, how)
	}
}

func wantRules(t *testing.T, text string, want []api.Rule, line int, how api.Errno) {
	t.Helper()
	got, at, err := Parse(text)
	if !alike(got, want) || at != line || plain.Told(err) != how {
		t.Errorf("Parse of %q: got %v, %d, %v, want %v, %d, %v", text, got, at, err, want, line, how)
	}
}

func wantText(t *testing.T, what, want string, how api.Errno) func(string, error) {
	t.Helper()
	return func(got string, err error) {
		t.Helper()
		if got != want || plain.Told(err) != how {
			t.Errorf("%s: got %q, %v, want %q, %v", what, got, err, want, how)
		}
	}
}

// written are rules, and the lines that they are, without the ends.
var written = []struct {
	line string
	r    api.Rule
}{
	{"block from any to any", api.Rule{}},
	{"pass from any to any", api.Rule{Pass: true}},
	{"pass from any to any keep", api.Rule{Pass: true, Keep: true}},
	{"block quick from any to any", api.Rule{Quick: true}},
	{"block in from any to any", api.Rule{Way: api.In}},
	{"block out from any to any", api.Rule{Way: api.Out}},
	{"block kind stream from any to any", api.Rule{Kind: api.Stream}},
	{"block kind single from any to any", api.Rule{Kind: api.Single}},
	{"block kind echo from any to any", api.Rule{Kind: api.Echo}},
	{"pass kind echo from any to any keep", api.Rule{Pass: true, Keep: true, Kind: api.Echo}},
	{"block from 10.0.0.0/8 to any", api.Rule{Src: api.Prefix{Addr: 10 << 24, Len: 8}}},
	{"block from any to 1.2.3.4/32", api.Rule{Dst: api.Prefix{Addr: 1<<24 | 2<<16 | 3<<8 | 4, Len: 32}}},
	{"block kind stream from any port 0 to any", api.Rule{Kind: api.Stream, From: [][2]int{{0, 0}}}},
	{"block kind single from any to any port 65535", api.Rule{Kind: api.Single, To: [][2]int{{65535, 65535}}}},
	{"block kind single from any port 0-65535 to any port 1,3-5", api.Rule{Kind: api.Single, From: [][2]int{{0, 65535}}, To: [][2]int{{1, 1}, {3, 5}}}},
	{"pass quick in kind stream from 255.255.255.255/32 port 1-2,4 to 0.0.0.0/1 port 9 keep", api.Rule{
		Pass: true, Quick: true, Keep: true, Way: api.In, Kind: api.Stream,
		Src: api.Prefix{Addr: api.MaxAddr, Len: 32}, From: [][2]int{{1, 2}, {4, 4}},
		Dst: api.Prefix{Addr: 0, Len: 1}, To: [][2]int{{9, 9}},
	}},
	{"pass quick out kind single from 0.0.0.0/32 port 0,3,6,9,12,15,18,21,24,27 to 10.0.0.0/7 port 0,3,6,9,12,15,18,21,24,27", api.Rule{
		Pass: true, Quick: true, Way: api.Out, Kind: api.Single,
		Src: api.Prefix{Addr: 0, Len: 32}, From: apart(10),
		Dst: api.Prefix{Addr: 10 << 24, Len: 7}, To: apart(10),
	}},
}

// R1

func TestCheck(t *testing.T) {
	wantCheck(t, "none", nil, api.OK)
	wantCheck(t, "none", []api.Rule{}, api.OK)
	for _, c := range written {
		wantCheck(t, c.line, []api.Rule{c.r}, api.OK)
	}
	r := api.Rule{Kind: api.Stream, From: [][2]int{}, To: [][2]int{}}
	wantCheck(t, "one with empty lists", []api.Rule{r}, api.OK)
	r.Kind = api.Echo
	wantCheck(t, "an Echo with empty lists", []api.Rule{r}, api.OK)
	wantCheck(t, "20", make([]api.Rule, 20), api.OK)
	wantCheck(t, "21", make([]api.Rule, 21), api.ErrFull)
	wantCheck(t, "200", make([]api.Rule, 200), api.ErrFull)
}

// refused are rules that Check refuses, and how; those of one with several faults tell which comes first.
var refused = []struct {
	what string
	r    api.Rule
	how  api.Errno
}{
	{"Way -1", api.Rule{Way: -1}, api.ErrRange},
	{"Way 3", api.Rule{Way: 3}, api.ErrRange},
	{"Way least", api.Rule{Way: math.MinInt}, api.ErrRange},
	{"Way greatest", api.Rule{Way: math.MaxInt}, api.ErrRange},
	{"Kind -1", api.Rule{Kind: -1}, api.ErrRange},
	{"Kind 4", api.Rule{Kind: 4}, api.ErrRange},
	{"Kind least", api.Rule{Kind: math.MinInt}, api.ErrRange},
	{"Kind greatest", api.Rule{Kind: math.MaxInt}, api.ErrRange},
	{"Way ahead of Src", api.Rule{Way: 3, Src: api.Prefix{Addr: 1, Len: 8}}, api.ErrRange},
	{"Kind ahead of Src", api.Rule{Kind: 4, Src: api.Prefix{Addr: 1, Len: 8}}, api.ErrRange},
	{"Kind ahead of ports", api.Rule{Kind: 4, From: apart(11)}, api.ErrRange},

	{"Src out of range", api.Rule{Src: api.Prefix{Addr: -1}}, api.ErrRange},
	{"Src too long", api.Rule{Src: api.Prefix{Len: 33}}, api.ErrRange},
	{"Src with bits behind", api.Rule{Src: api.Prefix{Addr: 1, Len: 31}}, api.ErrShape},
	{"Dst out of range", api.Rule{Dst: api.Prefix{Addr: api.MaxAddr + 1}}, api.ErrRange},
	{"Dst too long", api.Rule{Dst: api.Prefix{Len: math.MaxInt}}, api.ErrRange},
	{"Dst with bits behind", api.Rule{Dst: api.Prefix{Addr: 1, Len: 0}}, api.ErrShape},
	{"Src ahead of Dst", api.Rule{Src: api.Prefix{Addr: 1}, Dst: api.Prefix{Addr: -1}}, api.ErrShape},
	{"Dst ahead of Src's ports", api.Rule{Kind: api.Stream, Dst: api.Prefix{Addr: -1}, From: apart(11)}, api.ErrRange},
	{"Dst ahead of Src's ports, by shape", api.Rule{Kind: api.Stream, Dst: api.Prefix{Addr: 1}, From: [][2]int{{-1, 0}}}, api.ErrShape},

	{"11 of From", api.Rule{Kind: api.Stream, From: apart(11)}, api.ErrFull},
	{"11 of To", api.Rule{Kind: api.Single, To: apart(11)}, api.ErrFull},
	{"201 of From", api.Rule{Kind: api.Single, From: apart(201)}, api.ErrFull},
	{"11 of To ahead of From's range", api.Rule{Kind: api.Stream, From: [][2]int{{-1, 0}}, To: apart(11)}, api.ErrFull},
	{"11 that are one ahead of their range", api.Rule{Kind: api.Stream, To: slices.Repeat([][2]int{{1, 0}}, 11)}, api.ErrFull},
	{"11 of From of an Echo", api.Rule{Kind: api.Echo, From: apart(11)}, api.ErrFull},

	{"From out of range", api.Rule{Kind: api.Stream, From: [][2]int{{-1, 0}}}, api.ErrRange},
	{"From falls", api.Rule{Kind: api.Stream, From: [][2]int{{2, 1}}}, api.ErrRange},
	{"From too high", api.Rule{Kind: api.Stream, From: [][2]int{{0, 65536}}}, api.ErrRange},
	{"To out of range", api.Rule{Kind: api.Single, To: [][2]int{{5, math.MaxInt}}}, api.ErrRange},
	{"To least", api.Rule{Kind: api.Single, To: [][2]int{{math.MinInt, math.MinInt}}}, api.ErrRange},
	{"To's range ahead of From's shape", api.Rule{Kind: api.Single, From: [][2]int{{1, 1}, {2, 2}}, To: [][2]int{{2, 1}}}, api.ErrRange},
	{"From's range ahead of kind", api.Rule{From: [][2]int{{2, 1}}}, api.ErrRange},
	{"From's range ahead of Keep", api.Rule{Keep: true, Kind: api.Single, From: [][2]int{{2, 1}}}, api.ErrRange},

	{"From touches", api.Rule{Kind: api.Stream, From: [][2]int{{1, 1}, {2, 2}}}, api.ErrShape},
	{"From overlaps", api.Rule{Kind: api.Stream, From: [][2]int{{1, 5}, {3, 9}}}, api.ErrShape},
	{"From is there twice", api.Rule{Kind: api.Stream, From: [][2]int{{1, 5}, {1, 5}}}, api.ErrShape},
	{"From does not rise", api.Rule{Kind: api.Stream, From: [][2]int{{5, 5}, {1, 1}}}, api.ErrShape},
	{"To touches", api.Rule{Kind: api.Single, To: [][2]int{{1, 1}, {2, 2}}}, api.ErrShape},
	{"To does not rise", api.Rule{Kind: api.Single, To: [][2]int{{7, 9}, {5, 5}}}, api.ErrShape},
	{"From of Any", api.Rule{From: [][2]int{{1, 1}}}, api.ErrShape},
	{"To of Any", api.Rule{To: [][2]int{{1, 1}}}, api.ErrShape},
	{"all ports of Any", api.Rule{From: [][2]int{{0, 65535}}}, api.ErrShape},
	{"From of Echo", api.Rule{Kind: api.Echo, From: [][2]int{{1, 1}}}, api.ErrShape},
	{"To of Echo", api.Rule{Kind: api.Echo, To: [][2]int{{1, 1}}}, api.ErrShape},
	{"Keep without Pass", api.Rule{Keep: true}, api.ErrShape},
	{"Keep without Pass, else all right", api.Rule{Keep: true, Quick: true, Way: api.Out, Kind: api.Stream, From: apart(10)}, api.ErrShape},
}

func TestCheckRefuses(t *testing.T) {
	good := api.Rule{Pass: true}
	for _, c := range refused {
		wantCheck(t, c.what, []api.Rule{c.r}, c.how)
		wantCheck(t, c.what+", last", []api.Rule{good, good, c.r}, c.how)
		wantCheck(t, c.what+", 20th", append(slices.Repeat([]api.Rule{good}, 19), c.r), c.how)
		wantCheck(t, c.what+", among 21", append(slices.Repeat([]api.Rule{good}, 20), c.r), api.ErrFull)
		// The first rule that has a fault is told, however late its fault is looked for.
		for _, d := range refused {
			wantCheck(t, c.what+", ahead of "+d.what, []api.Rule{good, c.r, d.r}, c.how)
		}
	}
}

// What lies behind the length of ports is not looked at, and nothing is written.
func TestCheckLeavesItsListAlone(t *testing.T) {
	memory := [][2]int{{1, 1}, {5, 9}, {7, 3}, {-1, 99999}}
	from := slices.Clone(memory)
	rules := []api.Rule{{Kind: api.Stream, From: from[:2], To: from[:1]}, {Kind: 77}}
	wantCheck(t, "a piece", rules[:1], api.OK)
	wantText(t, "Print", "block kind stream from any port 1,5-9 to any port 1\n", api.OK)(Print(rules[:1]))
	from[0], from[1] = from[1], from[0]
	wantCheck(t, "one that does not rise", rules[:1], api.ErrShape)
	if !slices.Equal(from, [][2]int{{5, 9}, {1, 1}, {7, 3}, {-1, 99999}}) || rules[1].Kind != 77 {
		t.Errorf("got %v, %v", from, rules)
	}
}

// R2

func TestPrint(t *testing.T) {
	wantText(t, "Print of none", "", api.OK)(Print(nil))
	var all string
	var rules []api.Rule
	for _, c := range written {
		wantText(t, "Print", c.line+"\n", api.OK)(Print([]api.Rule{c.r}))
		all += c.line + "\n"
		rules = append(rules, c.r)
	}
	wantText(t, "Print of all", all, api.OK)(Print(rules))
}

func TestParse(t *testing.T) {
	wantRules(t, "", nil, 0, api.OK)
	var all string
	var rules []api.Rule
	for _, c := range written {
		wantRules(t, c.line+"\n", []api.Rule{c.r}, 0, api.OK)
		wantRules(t, c.line, nil, 0, api.ErrSyntax)
		all += c.line + "\n"
		rules = append(rules, c.r)
		wantRules(t, all, rules, 0, api.OK)
		wantRules(t, all+"\n", nil, len(rules), api.ErrSyntax)
		wantRules(t, strings.TrimSuffix(all, "\n"), nil, len(rules)-1, api.ErrSyntax)
	}
}

// noLines are near to those of rules.
var noLines = []string{
	"", " ", "pass", "block", "pass ", "from any to any", " from any to any", "Pass from any to any", "pas from any to any", "passfrom any to any",
	"pass from any", "pass from any to", "pass from any to ", "pass from to any", "pass from  to any", "pass to any", "pass to any from any", "pass fromany to any", "pass from any toany", "pass from anyto any",
	"pass from any to any ", " pass from any to any", "pass  from any to any", "pass from  any to any", "pass from any  to any", "pass from any to  any", "pass from any to any  keep", "pass\tfrom any to any", "pass from any to any\t", "pass from any to any\r", "pass from any to any\x00", "pass from any to any # all",
	"pass block from any to any", "block pass from any to any", "pass pass from any to any", "passblock from any to any", "blockpass from any to any",
	"quick pass from any to any", "pass quick quick from any to any", "pass in quick from any to any", "pass from any to any quick", "pass quickly from any to any",
	"pass in in from any to any", "pass in out from any to any", "pass out in from any to any", "pass any from any to any", "pass inout from any to any", "pass inx from any to any", "pass kind stream in from any to any", "pass In from any to any",
	"pass kind from any to any", "pass kind  from any to any", "pass kind any from any to any", "pass kind all from any to any", "pass kind stream single from any to any", "pass kind stream kind single from any to any", "pass kind stream kind stream from any to any", "pass stream from any to any", "pass kind streams from any to any", "pass kind 1 from any to any", "pass kind Echo from any to any",
	"pass from 1.2.3.4 to any", "pass from any to 1.2.3.4", "pass from 1.2.3.4/0 to any", "pass from 0.0.0.0/0 to any", "pass from any/0 to any", "pass from 1.2.3.4/31 to 1.2.3.5/31", "pass from 1.2.3.4/33 to any", "pass from 01.2.3.4/32 to any", "pass from 1.2.3.4/032 to any", "pass from any to 10.0.0.1/8", "pass from all to any", "pass from 1.2.3.4/32/32 to any", "pass from -1.2.3.4/32 to any",
	"pass kind stream from any port to any", "pass kind stream from any port  to any", "pass kind stream from any port - to any", "pass kind stream from any to any port -", "pass kind stream from any to any port", "pass kind stream from any to any port ",
	"pass kind stream from any port 1,2 to any", "pass kind stream from any port 2,1 to any", "pass kind stream from any port 5,1 to any", "pass kind stream from any port 1,1 to any", "pass kind stream from any port 1-1 to any", "pass kind stream from any port 2-1 to any", "pass kind stream from any port 65536 to any", "pass kind stream from any port 0-65536 to any", "pass kind stream from any port 01 to any", "pass kind stream from any port +1 to any", "pass kind stream from any port -1 to any", "pass kind stream from any port 1- to any", "pass kind stream from any port 1, to any", "pass kind stream from any port ,1 to any", "pass kind stream from any port 1, 3 to any", "pass kind stream from any port 1 - 3 to any", "pass kind stream from any port any to any", "pass kind stream from any port 99999999999999999999 to any",
	"pass kind stream port 1 from any to any", "pass kind stream from port 1 to any", "pass kind stream from any port 1 port 3 to any", "pass kind stream from any to any port 1 port 3", "pass kind stream from any port1 to any", "pass kind stream from anyport 1 to any", "pass kind stream from any ports 1 to any",
	"pass keep from any to any", "pass from any keep to any", "pass from any to any keep keep", "pass from any to any keep ", "pass from any to any keeper", "pass from any to anykeep", "pass kind stream from any to any keep port 1",
	"let a = b", "{pass|block} from any to any", "pass from $a to any", "pass from any to any\vpass from any to any", "päss from any to any", "pass from any to any\xff",
}

func TestParseSyntax(t *testing.T) {
	good := "block from any to any\n"
	for _, line := range noLines {
		wantRules(t, line+"\n", nil, 0, api.ErrSyntax)
		wantRules(t, good+good+line+"\n"+good, nil, 2, api.ErrSyntax)
		wantRules(t, strings.Repeat(good, 20)+line+"\n"+good, nil, 20, api.ErrSyntax)
		wantRules(t, good+line+"\n"+strings.Repeat(good, 30), nil, 1, api.ErrSyntax)
		if line != "" {
			wantRules(t, good+line, nil, 1, api.ErrSyntax)
		}
	}
}

// faulty are lines of rules that Check refuses.
var faulty = []struct {
	line string
	how  api.Errno
}{
	{"block from any to any keep", api.ErrShape},
	{"block quick out kind single from any port 1 to any keep", api.ErrShape},
	{"pass from any port 1 to any", api.ErrShape},
	{"pass from any to any port 0-65535", api.ErrShape},
	{"pass kind echo from any port 1 to any", api.ErrShape},
	{"pass kind echo from any to any port 1 keep", api.ErrShape},
	{"pass kind stream from any port 0,3,6,9,12,15,18,21,24,27,30 to any", api.ErrFull},
	{"pass kind single from any to any port 0,3,6,9,12,15,18,21,24,27,30", api.ErrFull},
	{"pass from any to any port 0,3,6,9,12,15,18,21,24,27,30", api.ErrFull},
	{"block from any port 1 to any port 0,3,6,9,12,15,18,21,24,27,30 keep", api.ErrFull},
}

func TestParseChecks(t *testing.T) {
	good := "pass from any to any\n"
	for _, c := range faulty {
		line := c.line + "\n"
		wantRules(t, line, nil, 0, c.how)
		wantRules(t, good+line, nil, 1, c.how)
		wantRules(t, strings.Repeat(good, 19)+line, nil, 19, c.how)
		wantRules(t, strings.Repeat(good, 20)+line, nil, 20, api.ErrFull)
		// The first line that is wrong is told, whatever is wrong with those behind.
		wantRules(t, good+line+"no line\n", nil, 1, c.how)
		wantRules(t, good+line+"no line", nil, 1, c.how)
		wantRules(t, line+strings.Repeat(good, 20), nil, 0, c.how)
		wantRules(t, good+"no line\n"+line, nil, 1, api.ErrSyntax)
		wantRules(t, good+c.line, nil, 1, api.ErrSyntax)
		for _, d := range faulty {
			wantRules(t, line+d.line+"\n", nil, 0, c.how)
		}
	}
}

func TestParseFull(t *testing.T) {
	good := "pass from any to any\n"
	twenty := strings.Repeat(good, 20)
	wantRules(t, twenty, slices.Repeat([]api.Rule{{Pass: true}}, 20), 0, api.OK)
	wantRules(t, twenty+good, nil, 20, api.ErrFull)
	wantRules(t, twenty+good+"no line\n", nil, 20, api.ErrFull)
	wantRules(t, twenty+good+"no line", nil, 20, api.ErrFull)
	wantRules(t, twenty+twenty, nil, 20, api.ErrFull)
	wantRules(t, twenty+strings.TrimSuffix(good, "\n"), nil, 20, api.ErrSyntax)
	wantRules(t, twenty+"\n", nil, 20, api.ErrSyntax)
}

// More spans than chapter 7 prints are none of its texts.
func TestParseOfVeryManySpans(t *testing.T) {
	var words []string
	for i := range 201 {
		words = append(words, strconv.Itoa(3*i))
	}
	wantRules(t, "pass kind stream from any port "+strings.Join(words[:200], ",")+" to any\n", nil, 0, api.ErrFull)
	wantRules(t, "pass kind stream from any port "+strings.Join(words, ",")+" to any\n", nil, 0, api.ErrSyntax)
}

func TestParseOfLongTexts(t *testing.T) {
	for _, unit := range []string{" ", "\n", "a", "pass ", " keep", ",", "1,", "1.", " port 1", "\x00", "pass from any to any\n"} {
		text := strings.Repeat(unit, 1<<20/len(unit))
		if l, _, err := Parse(text); len(l) != 0 || err == nil {
			t.Errorf("Parse of many %q: got %v, %v", unit, l, err)
		}
		if l, _, err := Parse("pass kind stream from any port " + text); len(l) != 0 || err == nil {
			t.Errorf("Parse of ports with many %q: got %v, %v", unit, l, err)
		}
	}
}

const (
	prefixForm = `(any|[0-9]+\.[0-9]+\.[0-9]+\.[0-9]+/[0-9]+)`
	portsForm  = `(?: port ([0-9]+(?:-[0-9]+)?(?:,[0-9]+(?:-[0-9]+)?)*))?`
)

var form = regexp.MustCompile(`^(pass|block)( quick)?( in| out)?(?: kind (stream|single|echo))? from ` + prefixForm + portsForm + ` to ` + prefixForm + portsForm + `( keep)?\n$`)

// readSlowly reads a line by a form, and asks the chapters of what stands where.
func readSlowly(line string) (api.Rule, api.Errno) {
	m := form.FindStringSubmatch(line)
	if m == nil {
		return api.Rule{}, api.ErrSyntax
	}
	r := api.Rule{Pass: m[1] == "pass", Quick: m[2] != "", Keep: m[9] != ""}
	r.Way = slices.Index([]string{"", " in", " out"}, m[3])
	r.Kind = slices.Index([]string{"", "stream", "single", "echo"}, m[4])
	var errs [4]error
	r.Src, errs[0] = addr.ParsePrefix(m[5])
	r.Dst, errs[1] = addr.ParsePrefix(m[7])
	if m[6] != "" {
		r.From, errs[2] = span.Parse(m[6])
	}
	if m[8] != "" {
		r.To, errs[3] = span.Parse(m[8])
	}
	for _, err := range errs {
		if err != nil {
			return api.Rule{}, api.ErrSyntax
		}
	}
	switch {
	case len(r.From) > 10 || len(r.To) > 10:
		return api.Rule{}, api.ErrFull
	case (len(r.From) > 0 || len(r.To) > 0) && r.Kind != api.Stream && r.Kind != api.Single, r.Keep && !r.Pass:
		return api.Rule{}, api.ErrShape
	}
	return r, api.OK
}

func parseSlowly(text string) ([]api.Rule, int, api.Errno) {
	var l []api.Rule
	for i, line := range strings.SplitAfter(text, "\n") {
		if line == "" {
			break
		}
		r, how := readSlowly(line)
		if i == 20 && how != api.ErrSyntax {
			how = api.ErrFull
		}
		if how != api.OK {
			return nil, i, how
		}
		l = append(l, r)
	}
	return l, 0, api.OK
}

func randomPrefix(r *rand.Rand) api.Prefix {
	n := []int{0, 0, 1, 8, 24, 31, 32, r.Intn(33)}[r.Intn(8)]
	return api.Prefix{Addr: r.Intn(1<<32) >> (32 - n) << (32 - n), Len: n}
}

func randomPorts(r *rand.Rand) [][2]int {
	var l [][2]int
	for range r.Intn(13) * r.Intn(2) {
		low := r.Intn(65536)
		l = append(l, [2]int{low, min(65535, low+r.Intn(3))})
	}
	l, _ = span.Norm(l)
	return l
}

// randomRule is mostly one that may be.
func randomRule(r *rand.Rand) api.Rule {
	one := api.Rule{
		Pass: r.Intn(2) == 0, Quick: r.Intn(3) == 0, Way: r.Intn(3), Kind: r.Intn(4),
		Src: randomPrefix(r), Dst: randomPrefix(r), From: randomPorts(r), To: randomPorts(r),
	}
	one.Keep = one.Pass && r.Intn(2) == 0
	if one.Kind != api.Stream && one.Kind != api.Single && r.Intn(8) > 0 {
		one.From, one.To = nil, nil
	}
	if r.Intn(20) == 0 {
		one.Keep = true
	}
	return one
}

// printSlowly writes a rule by the chapter's words, whatever Check says.
func printSlowly(r api.Rule) string {
	s := map[bool]string{true: "pass", false: "block"}[r.Pass]
	if r.Quick {
		s += " quick"
	}
	s += []string{"", " in", " out"}[r.Way]
	if r.Kind != api.Any {
		s += " kind " + []string{"", "stream", "single", "echo"}[r.Kind]
	}
	for i, word := range []string{"from", "to"} {
		where, _ := addr.PrintPrefix([]api.Prefix{r.Src, r.Dst}[i])
		s += " " + word + " " + where
		if ports := [][][2]int{r.From, r.To}[i]; len(ports) > 0 {
			text, _ := span.Print(ports)
			s += " port " + text
		}
	}
	if r.Keep {
		s += " keep"
	}
	return s + "\n"
}

func TestParseIsOfPrint(t *testing.T) {
	r := rand.New(rand.NewSource(1))
	passed := 0
	for range 4000 {
		var l []api.Rule
		var text string
		for range r.Intn(6) {
			one := randomRule(r)
			l = append(l, one)
			text += printSlowly(one)
		}
		rules, line, how := parseSlowly(text)
		wantRules(t, text, rules, line, how)
		if how != api.OK {
			wantCheck(t, text, l, how)
			continue
		}
		passed++
		wantRules(t, text, l, 0, api.OK)
		wantText(t, "Print", text, api.OK)(Print(l))
	}
	if passed < 1000 {
		t.Errorf("only %d of 4000 were rules", passed)
	}
}

func TestParseOfSpoiltTexts(t *testing.T) {
	r := rand.New(rand.NewSource(2))
	pieces := []string{" ", "\n", "pass", "block", " quick", " in", " out", " kind ", "echo", " from ", " to ", "any", " port ", "1", "0", "-", ",", ".", "/", " keep", "\x00", "\xff"}
	for range 20000 {
		var text string
		for range 1 + r.Intn(3) {
			text += printSlowly(randomRule(r))
		}
		for range 1 + r.Intn(2) {
			at := r.Intn(len(text) + 1)
			behind := min(len(text), at+r.Intn(6)*r.Intn(2))
			text = text[:at] + pieces[r.Intn(len(pieces))] + text[behind:]
		}
		rules, line, how := parseSlowly(text)
		wantRules(t, text, rules, line, how)
	}
}

// What is answered is fresh: no two lists share memory, and a later call knows nothing of what is done with it.
func TestParseAnswersFreshMemory(t *testing.T) {
	text := "pass kind stream from any port 1,3,5 to any port 1,3,5\npass kind stream from any port 1,3,5 to any port 1,3,5\n"
	rules, _, err := Parse(text)
	if err != nil || len(rules) != 2 {
		t.Fatalf("got %v, %v", rules, err)
	}
	lists := [][][2]int{rules[0].From, rules[0].To, rules[1].From, rules[1].To}
	for i, l := range lists {
		for j := range l {
			l[j] = [2]int{i, i}
		}
		_ = append(l, [2]int{-7, -7})
	}
	for i, l := range lists {
		if !slices.Equal(l, slices.Repeat([][2]int{{i, i}}, 3)) {
			t.Errorf("list %d: got %v", i, l)
		}
	}
	want := api.Rule{Pass: true, Kind: api.Stream, From: [][2]int{{1, 1}, {3, 3}, {5, 5}}, To: [][2]int{{1, 1}, {3, 3}, {5, 5}}}
	wantRules(t, text, []api.Rule{want, want}, 0, api.OK)
}

// Copy is of any rule, right or not, and what is done with its lists is not seen in the rule, nor the other way.
func TestCopy(t *testing.T) {
	for _, was := range []api.Rule{
		{},
		{From: [][2]int{}, To: [][2]int{}},
		{Pass: true, Quick: true, Keep: true, Way: api.Out, Kind: api.Single, Src: api.Prefix{Addr: 1, Len: 32}, Dst: api.Prefix{Len: 4}, From: apart(2), To: apart(3)},
		{Way: -1, Kind: 99, Src: api.Prefix{Len: -1}, To: [][2]int{{7, 5}, {math.MinInt, math.MaxInt}}},
	} {
		r := was
		r.From, r.To = slices.Clone(was.From), slices.Clone(was.To)
		got := Copy(r)
		if !alike([]api.Rule{got}, []api.Rule{was}) {
			t.Errorf("Copy of %v: got %v", was, got)
		}
		spoil := func(l [][2]int) {
			for i := range l {
				l[i] = [2]int{-1, -1}
			}
			_ = append(l, [2]int{-1, -1})
		}
		spoil(got.From)
		spoil(got.To)
		if !alike([]api.Rule{r}, []api.Rule{was}) {
			t.Errorf("%v has become %v by what was done with its Copy", was, r)
		}
		got = Copy(r)
		spoil(r.From)
		spoil(r.To)
		if !alike([]api.Rule{got}, []api.Rule{was}) {
			t.Errorf("the Copy of %v has become %v by what was done with the rule", was, got)
		}
	}
	// One list on both sides becomes two.
	ports := apart(2)
	got := Copy(api.Rule{From: ports, To: ports})
	got.From[0] = [2]int{-1, -1}
	if !slices.Equal(got.To, apart(2)) {
		t.Errorf("Copy of a rule with one list on both sides: its To became %v", got.To)
	}
}

func FuzzParse(f *testing.F) {
	for _, c := range written {
		f.Add(c.line + "\n")
	}
	for _, c := range faulty {
		f.Add(c.line + "\n")
	}
	for _, line := range noLines {
		f.Add(line + "\n")
	}
	f.Fuzz(func(t *testing.T, text string) {
		rules, line, how := parseSlowly(text)
		wantRules(t, text, rules, line, how)
		if how == api.OK {
			wantText(t, fmt.Sprintf("Print of %v", rules), text, api.OK)(Print(rules))
		}
	})
}
