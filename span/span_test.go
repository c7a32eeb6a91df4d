package span

import (
	"math"
	"math/rand"
	"slices"
	"strconv"
	"strings"
	"testing"

	"portcullis/api"
	"portcullis/plain"
)

// wrong are spans that Check refuses.
var wrong = [][2]int{
	{-1, 0}, {-1, -1}, {0, -1}, {0, 65536}, {65535, 65536}, {65536, 65536}, {65536, 65535},
	{1, 0}, {65535, 0}, {65535, 65534},
	{math.MinInt, 5}, {5, math.MinInt}, {5, math.MaxInt}, {math.MaxInt, 5},
	{math.MinInt, math.MaxInt}, {math.MaxInt, math.MinInt}, {math.MinInt, math.MinInt}, {math.MaxInt, math.MaxInt},
}

// spans reads low:high, blanks between.
func spans(t *testing.T, s string) [][2]int {
	t.Helper()
	var l [][2]int
	for _, w := range strings.Fields(s) {
		head, tail, _ := strings.Cut(w, ":")
		low, err := strconv.Atoi(head)
		high, bad := strconv.Atoi(tail)
		if err != nil || bad != nil {
			t.Fatalf("%q is no span", w)
		}
		l = append(l, [2]int{low, high})
	}
	return l
}

// apart are as many spans of one number each, falling, with gaps between, from first on by threes.
func apart(n, first int) [][2]int {
	var l [][2]int
	for i := range n {
		l = append(l, [2]int{first + i*3, first + i*3})
	}
	slices.Reverse(l)
	return l
}

func rising(l [][2]int) [][2]int {
	l = slices.Clone(l)
	slices.SortFunc(l, func(x, y [2]int) int { return x[0] - y[0] })
	return l
}

func wantList(t *testing.T, what string, want [][2]int, how api.Errno) func([][2]int, error) {
	t.Helper()
	return func(got [][2]int, err error) {
		t.Helper()
		if !slices.Equal(got, want) || plain.Told(err) != how {
			t.Errorf("%s: got %v, %v, want %v, %v", what, got, err, want, how)
		}
	}
}

func wantText(t *testing.T, what, want string, how api.Errno) func(string, error) {
	t.Helper()
	return func(got string, err error) {
		t.Helper()
		if got != want || plain.Told(err) != how {
			t.Errorf("%s: got %q, %v, want %q, %v", what, got, err, want, how)
		}
	}
}

func wantCheck(t *testing.T, l [][2]int, how api.Errno) {
	t.Helper()
	if err := Check(l); plain.Told(err) != how {
		t.Errorf("Check of %v: got %v, want %v", l, err, how)
	}
}

// wantRefused wants of all calls that they refuse a list, wherever it is handed in.
func wantRefused(t *testing.T, l [][2]int, how api.Errno) {
	t.Helper()
	wantCheck(t, l, how)
	wantList(t, "Norm", nil, how)(Norm(l))
	wantList(t, "Not", nil, how)(Not(l))
	wantText(t, "Print", "", how)(Print(l))
	good := [][2]int{{0, 65535}}
	for _, two := range []func(a, b [][2]int) ([][2]int, error){Join, Meet, Less} {
		wantList(t, "first", nil, how)(two(l, good))
		wantList(t, "second", nil, how)(two(good, l))
		wantList(t, "both", nil, how)(two(l, l))
	}
	for _, n := range []int{-1, 0, 5, 65535, 65536, math.MinInt, math.MaxInt} {
		if Has(l, n) {
			t.Errorf("Has of %v: %d is in it", l, n)
		}
	}
	if n := Many(l); n != 0 {
		t.Errorf("Many of %v: %d", l, n)
	}
}

// P1

func TestCheck(t *testing.T) {
	for _, s := range []string{"", "0:0", "0:65535", "65535:65535", "7:7 7:7", "9:12 3:10 5:6"} {
		wantCheck(t, spans(t, s), api.OK)
	}
	wantCheck(t, [][2]int{}, api.OK)
	wantCheck(t, apart(api.MaxList, 0), api.OK)
	wantCheck(t, make([][2]int, api.MaxList), api.OK)
}

func TestRefused(t *testing.T) {
	for _, w := range wrong {
		for i := range 3 {
			l := apart(3, 4)
			l[i] = w
			wantRefused(t, l, api.ErrRange)
		}
		l := apart(api.MaxList, 0)
		l[api.MaxList-1] = w
		wantRefused(t, l, api.ErrRange)
	}
}

func TestFull(t *testing.T) {
	wantRefused(t, apart(api.MaxList+1, 0), api.ErrFull)
	wantRefused(t, make([][2]int, api.MaxList+1), api.ErrFull)
	for _, w := range wrong {
		l := apart(api.MaxList+1, 0)
		l[0] = w
		wantRefused(t, l, api.ErrFull)
	}
}

// What is wrong with a is told, whatever is wrong with b.
func TestFirstThenSecond(t *testing.T) {
	full, bad := apart(api.MaxList+1, 0), [][2]int{{1, 0}}
	for _, two := range []func(a, b [][2]int) ([][2]int, error){Join, Meet, Less} {
		wantList(t, "full, then wrong", nil, api.ErrFull)(two(full, bad))
		wantList(t, "wrong, then full", nil, api.ErrRange)(two(bad, full))
		wantList(t, "none, then full", nil, api.ErrFull)(two(nil, full))
		wantList(t, "none, then wrong", nil, api.ErrRange)(two(nil, bad))
	}
}

func TestNorm(t *testing.T) {
	for _, c := range []struct{ name, l, want string }{
		{"none", "", ""},
		{"one", "3:9", "3:9"},
		{"the least", "0:0", "0:0"},
		{"the greatest", "65535:65535", "65535:65535"},
		{"all", "0:65535", "0:65535"},
		{"rising", "9:9 7:7 3:4", "3:4 7:7 9:9"},
		{"the same again", "7:9 7:9", "7:9"},
		{"one over another", "7:12 9:14", "7:14"},
		{"one in another", "7:20 9:14", "7:20"},
		{"one in another, and one behind it", "7:20 9:14 16:17 22:22", "7:20 22:22"},
		{"one that begins with another", "7:7 7:9", "7:9"},
		{"one just behind another", "7:9 10:12", "7:12"},
		{"one just ahead of another", "10:12 7:9", "7:12"},
		{"a gap of one", "7:9 11:12", "7:9 11:12"},
		{"a gap that is filled", "7:9 11:12 10:10", "7:12"},
		{"both ends", "65535:65535 0:0", "0:0 65535:65535"},
		{"halves", "32768:65535 0:32767", "0:65535"},
		{"last two", "65535:65535 65534:65534", "65534:65535"},
	} {
		wantList(t, c.name, spans(t, c.want), api.OK)(Norm(spans(t, c.l)))
	}
	wantList(t, "MaxList", rising(apart(api.MaxList, 0)), api.OK)(Norm(apart(api.MaxList, 0)))
}

func TestTwo(t *testing.T) {
	for _, c := range []struct{ a, b, join, meet, less string }{
		{"", "", "", "", ""},
		{"5:9", "", "5:9", "", "5:9"},
		{"", "5:9", "5:9", "", ""},
		{"5:9", "5:9", "5:9", "5:9", ""},
		{"5:9", "7:7", "5:9", "7:7", "5:6 8:9"},
		{"7:7", "5:9", "5:9", "7:7", ""},
		{"5:9", "9:12", "5:12", "9:9", "5:8"},
		{"5:9", "10:12", "5:12", "", "5:9"},
		{"10:12", "5:9", "5:12", "", "10:12"},
		{"5:9", "11:12", "5:9 11:12", "", "5:9"},
		{"5:9", "5:5", "5:9", "5:5", "6:9"},
		{"0:65535", "0:0", "0:65535", "0:0", "1:65535"},
		{"0:65535", "65535:65535", "0:65535", "65535:65535", "0:65534"},
		{"0:65535", "4:5 8:9", "0:65535", "4:5 8:9", "0:3 6:7 10:65535"},
		{"0:65535", "0:65535", "0:65535", "0:65535", ""},
		{"5:6 7:9", "6:6 7:7", "5:9", "6:7", "5:5 8:9"},
		{"20:30 1:3", "25:40 2:22", "1:40", "2:3 20:22 25:30", "1:1 23:24"},
	} {
		a, b := spans(t, c.a), spans(t, c.b)
		wantList(t, "Join of "+c.a+" and "+c.b, spans(t, c.join), api.OK)(Join(a, b))
		wantList(t, "Meet of "+c.a+" and "+c.b, spans(t, c.meet), api.OK)(Meet(a, b))
		wantList(t, "Less of "+c.a+" and "+c.b, spans(t, c.less), api.OK)(Less(a, b))
	}
}

func TestNot(t *testing.T) {
	for _, c := range []struct{ a, want string }{
		{"", "0:65535"},
		{"0:65535", ""},
		{"0:0", "1:65535"},
		{"65535:65535", "0:65534"},
		{"1:65535", "0:0"},
		{"0:65534", "65535:65535"},
		{"9:9 4:5", "0:3 6:8 10:65535"},
		{"5:9 10:12", "0:4 13:65535"},
	} {
		wantList(t, "Not of "+c.a, spans(t, c.want), api.OK)(Not(spans(t, c.a)))
	}
}

// What comes of two lists may have more spans than one may be handed in with.
func TestMoreThanMaxList(t *testing.T) {
	a, b := apart(api.MaxList, 0), apart(api.MaxList, 10_000)
	wantList(t, "Join", rising(append(slices.Clone(a), b...)), api.OK)(Join(a, b))
	got, err := Not(apart(api.MaxList, 1))
	if len(got) != api.MaxList+1 || err != nil {
		t.Errorf("Not: got %d spans, %v", len(got), err)
	}
	wantCheck(t, got, api.ErrFull)
	got, err = Less([][2]int{{0, 65535}}, apart(api.MaxList, 1))
	if len(got) != api.MaxList+1 || err != nil {
		t.Errorf("Less: got %d spans, %v", len(got), err)
	}
}

func TestHas(t *testing.T) {
	l := spans(t, "65535:65535 7:9 0:0 8:12 13:13")
	for n, want := range map[int]bool{
		math.MinInt: false, -1: false, 0: true, 1: false, 6: false, 7: true, 8: true, 9: true, 12: true, 13: true, 14: false,
		65534: false, 65535: true, 65536: false, math.MaxInt: false,
	} {
		if got := Has(l, n); got != want {
			t.Errorf("Has of %d: got %v, want %v", n, got, want)
		}
	}
	for _, n := range []int{-1, 0, 65535, 65536} {
		if Has(nil, n) {
			t.Errorf("none has %d", n)
		}
		if Has([][2]int{{0, 65535}}, n) != (n >= 0 && n <= 65535) {
			t.Errorf("all: wrong of %d", n)
		}
	}
}

func TestMany(t *testing.T) {
	for _, c := range []struct {
		l    string
		want int
	}{
		{"", 0}, {"0:0", 1}, {"65535:65535", 1}, {"0:65535", 65536}, {"0:65535 0:65535", 65536},
		{"7:9", 3}, {"7:9 7:9", 3}, {"7:9 8:12", 6}, {"7:9 10:12", 6}, {"7:9 11:12", 5}, {"7:20 9:10", 14},
	} {
		if got := Many(spans(t, c.l)); got != c.want {
			t.Errorf("Many of %q: got %d, want %d", c.l, got, c.want)
		}
	}
}

// What is handed in stays as it is, also behind its length, and what comes out shares nothing with it or with what came before.
func TestFresh(t *testing.T) {
	a := spans(t, "9:12 3:5 20:30 1:1")
	b := spans(t, "4:10 40:50 2:2")
	wasA, wasB := slices.Clone(a), slices.Clone(b)
	calls := []func() ([][2]int, error){
		func() ([][2]int, error) { return Norm(a[:3]) },
		func() ([][2]int, error) { return Join(a[:3], b[:2]) },
		func() ([][2]int, error) { return Meet(a[:3], b[:2]) },
		func() ([][2]int, error) { return Less(a[:3], b[:2]) },
		func() ([][2]int, error) { return Not(a[:3]) },
		func() ([][2]int, error) { return Norm(b[1:2]) },
		func() ([][2]int, error) { return Parse("3-5,9") },
	}
	for i, call := range calls {
		got, err := call()
		want := slices.Clone(got)
		if len(got) == 0 || err != nil {
			t.Errorf("call %d: got %v, %v", i, got, err)
		}
		for j := range got {
			got[j] = [2]int{-7, -7}
		}
		_ = append(got, [2]int{-7, -7})
		wantList(t, "again", want, api.OK)(call())
		if !slices.Equal(a, wasA) || !slices.Equal(b, wasB) {
			t.Fatalf("call %d: what was handed in is %v, %v now", i, a, b)
		}
	}
}

// set is what spans come to by the words of the chapter: of each number whether it is in one.
type set [api.MaxPort + 1]bool

func setOf(l [][2]int) *set {
	s := &set{}
	for _, x := range l {
		for n := x[0]; n <= x[1]; n++ {
			s[n] = true
		}
	}
	return s
}

func (s *set) list() [][2]int {
	var l [][2]int
	for n, is := range s {
		if is && (n == 0 || !s[n-1]) {
			l = append(l, [2]int{n, n})
		}
		if is {
			l[len(l)-1][1] = n
		}
	}
	return l
}

func (s *set) many() int {
	many := 0
	for _, is := range s {
		if is {
			many++
		}
	}
	return many
}

func mix(a, b *set, is func(x, y bool) bool) [][2]int {
	m := &set{}
	for n := range m {
		m[n] = is(a[n], b[n])
	}
	return m.list()
}

// randomSpans are near either end, or anywhere, so that many meet and touch.
func randomSpans(r *rand.Rand) [][2]int {
	var l [][2]int
	most := []int{3, 12, 60, api.MaxList + 1}[r.Intn(4)]
	for range r.Intn(most) {
		low := r.Intn(65536)
		switch r.Intn(5) {
		case 0, 1:
			low = r.Intn(80)
		case 2, 3:
			low = 65535 - r.Intn(80)
		}
		l = append(l, [2]int{low, min(65535, low+r.Intn(5))})
	}
	if r.Intn(20) == 0 {
		l = append(l[:min(len(l), api.MaxList-1)], [2]int{r.Intn(100), 65535 - r.Intn(100)})
	}
	return l
}

func TestRandom(t *testing.T) {
	r := rand.New(rand.NewSource(7))
	for range 300 {
		a, b := randomSpans(r), randomSpans(r)
		x, y := setOf(a), setOf(b)
		wantList(t, "Norm", x.list(), api.OK)(Norm(a))
		wantList(t, "Join", mix(x, y, func(p, q bool) bool { return p || q }), api.OK)(Join(a, b))
		wantList(t, "Meet", mix(x, y, func(p, q bool) bool { return p && q }), api.OK)(Meet(a, b))
		wantList(t, "Less", mix(x, y, func(p, q bool) bool { return p && !q }), api.OK)(Less(a, b))
		wantList(t, "Not", mix(x, y, func(p, _ bool) bool { return !p }), api.OK)(Not(a))
		if got, want := Many(a), x.many(); got != want {
			t.Errorf("Many: got %d, want %d", got, want)
		}
		for range 100 {
			n := r.Intn(65536)
			if r.Intn(2) == 0 {
				n = r.Intn(90)
			}
			if Has(a, n) != x[n] {
				t.Errorf("Has of %d: got %v", n, !x[n])
			}
		}
		s, err := Print(a)
		wantList(t, "Parse of Print", x.list(), api.OK)(Parse(s))
		if t.Failed() {
			t.Fatalf("of %v and %v; Print: %q, %v", a, b, s, err)
		}
	}
}

// P2

// written are texts, and what they are of.
var written = []struct{ l, text string }{
	{"", "-"},
	{"0:0", "0"},
	{"7:7", "7"},
	{"0:1", "0-1"},
	{"0:65535", "0-65535"},
	{"65535:65535", "65535"},
	{"65534:65535", "65534-65535"},
	{"80:80 443:443", "80,443"},
	{"1:2 4:4 6:9 1000:1010", "1-2,4,6-9,1000-1010"},
	{"0:0 2:2 65533:65533 65535:65535", "0,2,65533,65535"},
	{"9:10 100:100", "9-10,100"},
}

func TestPrint(t *testing.T) {
	for _, c := range written {
		l := spans(t, c.l)
		wantText(t, c.l, c.text, api.OK)(Print(l))
		slices.Reverse(l)
		wantText(t, c.l+" turned", c.text, api.OK)(Print(l))
		wantText(t, c.l+" twice", c.text, api.OK)(Print(append(slices.Clone(l), l...)))
	}
	wantText(t, "of Norm", "5-12,14", api.OK)(Print(spans(t, "14:14 8:12 5:7 6:6")))
}

func TestParse(t *testing.T) {
	for _, c := range written {
		wantList(t, c.text, spans(t, c.l), api.OK)(Parse(c.text))
	}
}

func TestParseSyntax(t *testing.T) {
	for _, s := range []string{
		"", " ", ",", "--", "-,", ",-", "-,5", "5,-", "none", "x", "5x", "x5", "5,x", "5-x", "x-5", "5,,7", ",5", "5,", "5-", "-5", "-5-7", "5--7", "5-7-", "5-7-9", "5-7,", "-7,9",
		"05", "00", "5-07", "05-7", "0-00", "+5", "+5-7", "5-+7", "-0", "5--0", "1_0", "0x5", "5.0", "1e1",
		"65536", "65535-65536", "65536-65537", "0-65536", "99999", "9223372036854775807", "9223372036854775808", "18446744073709551616", "18446744073709551621", "5-99999999999999999999",
		"5-5", "0-0", "65535-65535", "7-5", "1-0",
		"5,5", "7,5", "5-7,6", "5-7,7-9", "5-7,5-7", "9-10,5-7",
		"5,6", "5-7,8", "5,6-7", "5-7,8-9", "0,1", "65534,65535",
		" 5", "5 ", "5, 7", "5 ,7", "5 -7", "5- 7", "5\n", "\n", "5\x00", "\x00", "5;7", "5:7", "5–7", "٥", "５", "\xff", "5,\xff", "- ", " -", "-\n",
	} {
		wantList(t, strconv.Quote(s), nil, api.ErrSyntax)(Parse(s))
	}
}

// Print writes no more than MaxList spans, and each that it may.
func TestParseMaxList(t *testing.T) {
	text := func(n int) string {
		var words []string
		for i := range n {
			words = append(words, strconv.Itoa(60_000+i*4)+"-"+strconv.Itoa(60_002+i*4))
		}
		return strings.Join(words, ",")
	}
	most := text(api.MaxList)
	l, err := Parse(most)
	if len(l) != api.MaxList || err != nil {
		t.Fatalf("MaxList: got %d spans, %v", len(l), err)
	}
	wantText(t, "MaxList", most, api.OK)(Print(l))
	wantList(t, "one more", nil, api.ErrSyntax)(Parse(text(api.MaxList + 1)))
	wantList(t, "many signs", nil, api.ErrSyntax)(Parse(strings.Repeat(",", 1_000_000)))
	wantList(t, "many spans", nil, api.ErrSyntax)(Parse(strings.Repeat("5,", 1_000_000) + "5"))
	wantList(t, "many digits", nil, api.ErrSyntax)(Parse(strings.Repeat("0", 1_000_000)))
}

// Of all short texts of these signs just those are read that are written again as they were.
func TestParseAllShort(t *testing.T) {
	texts := []string{""}
	for len(texts) > 0 && len(texts[0]) <= 5 {
		var longer []string
		for _, s := range texts {
			l, err := Parse(s)
			if err != nil {
				wantList(t, strconv.Quote(s), nil, api.ErrSyntax)(l, err)
			} else {
				wantText(t, strconv.Quote(s), s, api.OK)(Print(l))
				wantList(t, strconv.Quote(s), setOf(l).list(), api.OK)(l, nil)
			}
			for _, sign := range "0127,-" {
				longer = append(longer, s+string(sign))
			}
		}
		texts = longer
	}
}

func FuzzParse(f *testing.F) {
	for _, c := range written {
		f.Add(c.text)
	}
	f.Fuzz(func(t *testing.T, s string) {
		l, err := Parse(s)
		if err != nil {
			wantList(t, strconv.Quote(s), nil, api.ErrSyntax)(l, err)
			return
		}
		wantText(t, strconv.Quote(s), s, api.OK)(Print(l))
	})
}
