package addr

import (
	"fmt"
	"math"
	"math/rand"
	"slices"
	"strings"
	"testing"

	"portcullis/api"
	"portcullis/plain"
)

// outside are numbers that are no addresses.
var outside = []int{-1, -2, 1 << 32, 1<<32 + 1, 1 << 33, math.MinInt, math.MaxInt, math.MinInt32}

// within are addresses at the edges, and some between.
var within = []int{0, 1, 2, 255, 256, 65535, 65536, 167772160, 1<<31 - 1, 1 << 31, 1<<32 - 2, 1<<32 - 1}

// refused are prefixes that Check refuses, and how.
var refused = []struct {
	p   api.Prefix
	how api.Errno
}{
	{api.Prefix{Addr: -1, Len: 32}, api.ErrRange},
	{api.Prefix{Addr: 1 << 32, Len: 32}, api.ErrRange},
	{api.Prefix{Addr: 1 << 32, Len: 0}, api.ErrRange},
	{api.Prefix{Addr: math.MinInt, Len: 1}, api.ErrRange},
	{api.Prefix{Addr: math.MaxInt, Len: 8}, api.ErrRange},
	{api.Prefix{Addr: 0, Len: -1}, api.ErrRange},
	{api.Prefix{Addr: 0, Len: 33}, api.ErrRange},
	{api.Prefix{Addr: 0, Len: 64}, api.ErrRange},
	{api.Prefix{Addr: 0, Len: math.MinInt}, api.ErrRange},
	{api.Prefix{Addr: 0, Len: math.MaxInt}, api.ErrRange},
	{api.Prefix{Addr: 1, Len: 33}, api.ErrRange},
	{api.Prefix{Addr: -1, Len: -1}, api.ErrRange},
	{api.Prefix{Addr: 1, Len: 31}, api.ErrShape},
	{api.Prefix{Addr: 1, Len: 0}, api.ErrShape},
	{api.Prefix{Addr: 1 << 31, Len: 0}, api.ErrShape},
	{api.Prefix{Addr: 1 << 30, Len: 1}, api.ErrShape},
	{api.Prefix{Addr: api.MaxAddr, Len: 31}, api.ErrShape},
	{api.Prefix{Addr: 167772161, Len: 8}, api.ErrShape},
}

func prefix(t *testing.T, s string) api.Prefix {
	t.Helper()
	p, err := ParsePrefix(s)
	if err != nil {
		t.Fatalf("ParsePrefix of %q: %v", s, err)
	}
	return p
}

func prefixes(t *testing.T, s string) []api.Prefix {
	t.Helper()
	var l []api.Prefix
	for _, w := range strings.Fields(s) {
		l = append(l, prefix(t, w))
	}
	return l
}

func wantList(t *testing.T, what string, got []api.Prefix, err error, want []api.Prefix) {
	t.Helper()
	if err != nil || !slices.Equal(got, want) {
		t.Errorf("%s: got %v, %v, want %v", what, got, err, want)
	}
}

func wantNoList(t *testing.T, what string, got []api.Prefix, err error, want api.Errno) {
	t.Helper()
	if len(got) != 0 || plain.Told(err) != want {
		t.Errorf("%s: got %v, %v, want none, %v", what, got, err, want)
	}
}

// has is what Has is told to be, by the first bits alone.
func has(p api.Prefix, a int) bool {
	for i := range p.Len {
		bit := 1 << (31 - i)
		if p.Addr&bit != a&bit {
			return false
		}
	}
	return true
}

// fewest is how many prefixes at least have just the addresses of a set, whose length is a power of 2.
func fewest(set []bool) int {
	if !slices.Contains(set, true) {
		return 0
	}
	if !slices.Contains(set, false) {
		return 1
	}
	half := len(set) / 2
	return fewest(set[:half]) + fewest(set[half:])
}

// wantJust wants of a list that it has just the addresses of a set that begins at base, rising, and is as short as can be.
func wantJust(t *testing.T, what string, l []api.Prefix, base int, set []bool) {
	t.Helper()
	got := make([]bool, len(set))
	behind := base
	for _, p := range l {
		if Check(p) != nil || p.Addr < behind || p.Addr+1<<(32-p.Len) > base+len(set) {
			t.Errorf("%s: %v does not rise, or is none", what, l)
			return
		}
		behind = p.Addr + 1<<(32-p.Len)
		for a := p.Addr; a < behind; a++ {
			got[a-base] = true
		}
	}
	if !slices.Equal(got, set) {
		t.Errorf("%s: %v has others", what, l)
	}
	if want := fewest(set); len(l) != want {
		t.Errorf("%s: %v are %d, want %d", what, l, len(l), want)
	}
}

// randomPrefix is often at the edges, and often short or long.
func randomPrefix(r *rand.Rand) api.Prefix {
	n := r.Intn(33)
	a := r.Intn(1 << 32)
	switch r.Intn(4) {
	case 0:
		a = r.Intn(64)
	case 1:
		a = 1<<32 - 1 - r.Intn(64)
	}
	return api.Prefix{Addr: a >> (32 - n) << (32 - n), Len: n}
}

// A1

func TestPrint(t *testing.T) {
	for _, c := range []struct {
		a    int
		want string
	}{
		{0, "0.0.0.0"},
		{1, "0.0.0.1"},
		{255, "0.0.0.255"},
		{256, "0.0.1.0"},
		{1<<24 | 2<<16 | 3<<8 | 4, "1.2.3.4"},
		{10 << 24, "10.0.0.0"},
		{1 << 31, "128.0.0.0"},
		{200<<24 | 100<<16 | 99<<8 | 9, "200.100.99.9"},
		{1<<32 - 1, "255.255.255.255"},
	} {
		got, err := Print(c.a)
		if err != nil || got != c.want {
			t.Errorf("Print of %d: got %q, %v, want %q", c.a, got, err, c.want)
		}
	}
}

func TestPrintRange(t *testing.T) {
	for _, a := range outside {
		got, err := Print(a)
		if got != "" || plain.Told(err) != api.ErrRange {
			t.Errorf("Print of %d: got %q, %v, want ErrRange", a, got, err)
		}
	}
}

func TestParseIsOfPrint(t *testing.T) {
	r := rand.New(rand.NewSource(1))
	all := slices.Clone(within)
	for range 2000 {
		all = append(all, r.Intn(1<<32))
	}
	for _, a := range all {
		s, err := Print(a)
		if want := fmt.Sprintf("%d.%d.%d.%d", a>>24, a>>16&255, a>>8&255, a&255); err != nil || s != want {
			t.Errorf("Print of %d: got %q, %v, want %q", a, s, err, want)
		}
		if got, err := Parse(s); err != nil || got != a {
			t.Errorf("Parse of %q: got %d, %v, want %d", s, got, err, a)
		}
	}
}

// notAddresses are texts near to those of addresses.
var notAddresses = []string{
	"", ".", "...", "....", "0", "1.2.3", "1.2.3.", ".1.2.3", "1..2.3", "1.2.3.4.", "1.2.3.4.5", ".1.2.3.4",
	"256.0.0.0", "0.256.0.0", "0.0.256.0", "0.0.0.256", "0.0.0.999", "0.0.0.1000", "1000.0.0.0",
	"01.2.3.4", "1.2.3.04", "00.0.0.0", "0.0.0.00", "1.2.3.000", "-1.2.3.4", "1.2.3.-4", "+1.2.3.4", "1.2.3.+4", "-0.0.0.0",
	" 1.2.3.4", "1.2.3.4 ", "1.2. 3.4", "1,2,3,4", "1.2.3.a", "a.2.3.4", "0x1.2.3.4", "1.2.3.4\n", "1.2.3.4\x00", "1.2.3.1_0",
	"1.2.3.٤", "1.2.3.:", "1.2.3./", "any", "18446744073709551617.0.0.0", "4294967297.0.0.0", "1.2.3.18446744073709551620",
}

func TestParseSyntax(t *testing.T) {
	for _, s := range append([]string{"1.2.3.4/32", "0.0.0.0/0"}, notAddresses...) {
		got, err := Parse(s)
		if got != 0 || plain.Told(err) != api.ErrSyntax {
			t.Errorf("Parse of %q: got %d, %v, want ErrSyntax", s, got, err)
		}
	}
}

// A text with one byte changed is an address only if Print writes it so.
func TestParseOnlyWhatPrintWrites(t *testing.T) {
	for _, s := range []string{"1.2.3.4", "10.0.0.255", "255.255.255.255", "0.0.0.0", "100.20.3.0"} {
		for i := range len(s) {
			for c := range 256 {
				changed := s[:i] + string([]byte{byte(c)}) + s[i+1:]
				a, err := Parse(changed)
				if err != nil {
					if a != 0 || plain.Told(err) != api.ErrSyntax {
						t.Errorf("Parse of %q: got %d, %v", changed, a, err)
					}
					continue
				}
				if back, _ := Print(a); back != changed {
					t.Errorf("Parse of %q: got %d, which is %q", changed, a, back)
				}
			}
		}
	}
}

func TestCheck(t *testing.T) {
	for n := range 33 {
		for _, a := range within {
			p := api.Prefix{Addr: a, Len: n}
			want := api.OK
			for bit := n; bit < 32; bit++ {
				if a>>(31-bit)&1 == 1 {
					want = api.ErrShape
				}
			}
			if got := Check(p); plain.Told(got) != want {
				t.Errorf("Check of %v: got %v, want %v", p, got, want)
			}
		}
	}
	for _, c := range refused {
		if got := Check(c.p); plain.Told(got) != c.how {
			t.Errorf("Check of %v: got %v, want %v", c.p, got, c.how)
		}
	}
	for _, a := range outside {
		if got := Check(api.Prefix{Addr: a, Len: 32}); plain.Told(got) != api.ErrRange {
			t.Errorf("Check of %d/32: got %v, want ErrRange", a, got)
		}
	}
}

func TestPrintPrefix(t *testing.T) {
	for _, c := range []struct {
		p    api.Prefix
		want string
	}{
		{api.Prefix{}, "any"},
		{api.Prefix{Addr: 0, Len: 1}, "0.0.0.0/1"},
		{api.Prefix{Addr: 1 << 31, Len: 1}, "128.0.0.0/1"},
		{api.Prefix{Addr: 0, Len: 32}, "0.0.0.0/32"},
		{api.Prefix{Addr: 10 << 24, Len: 8}, "10.0.0.0/8"},
		{api.Prefix{Addr: 10<<24 | 4, Len: 30}, "10.0.0.4/30"},
		{api.Prefix{Addr: 1<<32 - 1, Len: 32}, "255.255.255.255/32"},
	} {
		got, err := PrintPrefix(c.p)
		if err != nil || got != c.want {
			t.Errorf("PrintPrefix of %v: got %q, %v, want %q", c.p, got, err, c.want)
		}
	}
	for _, c := range refused {
		got, err := PrintPrefix(c.p)
		if got != "" || plain.Told(err) != c.how {
			t.Errorf("PrintPrefix of %v: got %q, %v, want %v", c.p, got, err, c.how)
		}
	}
}

func TestParsePrefix(t *testing.T) {
	for _, c := range []struct {
		s    string
		want api.Prefix
	}{
		{"any", api.Prefix{}},
		{"0.0.0.0", api.Prefix{Addr: 0, Len: 32}},
		{"1.2.3.4", api.Prefix{Addr: 1<<24 | 2<<16 | 3<<8 | 4, Len: 32}},
		{"1.2.3.4/32", api.Prefix{Addr: 1<<24 | 2<<16 | 3<<8 | 4, Len: 32}},
		{"10.0.0.0/8", api.Prefix{Addr: 10 << 24, Len: 8}},
		{"0.0.0.0/1", api.Prefix{Addr: 0, Len: 1}},
		{"128.0.0.0/1", api.Prefix{Addr: 1 << 31, Len: 1}},
		{"255.255.255.255", api.Prefix{Addr: 1<<32 - 1, Len: 32}},
	} {
		got, err := ParsePrefix(c.s)
		if err != nil || got != c.want {
			t.Errorf("ParsePrefix of %q: got %v, %v, want %v", c.s, got, err, c.want)
		}
	}
}

func TestParsePrefixSyntax(t *testing.T) {
	bad := []string{
		"0.0.0.0/0", "1.2.3.4/0", "1.2.3.4/00", "0.0.0.0/01", "10.0.0.0/08", "1.2.3.4/33", "0.0.0.0/33", "1.2.3.4/320", "0.0.0.0/-1", "0.0.0.0/+1",
		"1.2.3.4/29", "1.2.3.5/31", "10.0.0.1/8", "128.0.0.0/0", "255.255.255.255/31", // bits behind
		"1.2.3.4/", "1.2.3.4/ 32", "1.2.3.4/32 ", "1.2.3.4 /32", "1.2.3.4/32/", "1.2.3.4/32/32", "1.2.3.4//32", "/", "/32", "/0", "1.2.3.4/a", "1.2.3.4/any",
		"any/0", "any ", " any", "Any", "ANY", "an", "anyy", "any\n", "any/32", "0.0.0.0/18446744073709551617", "0.0.0.0/4294967297",
	}
	for _, s := range notAddresses {
		if s != "any" {
			bad = append(bad, s, s+"/32", s+"/8")
		}
	}
	for _, s := range bad {
		got, err := ParsePrefix(s)
		if got != (api.Prefix{}) || plain.Told(err) != api.ErrSyntax {
			t.Errorf("ParsePrefix of %q: got %v, %v, want ErrSyntax", s, got, err)
		}
	}
}

func TestParsePrefixIsOfPrintPrefix(t *testing.T) {
	r := rand.New(rand.NewSource(2))
	for range 5000 {
		p := randomPrefix(r)
		s, err := PrintPrefix(p)
		if err != nil {
			t.Fatalf("PrintPrefix of %v: %v", p, err)
		}
		if got, err := ParsePrefix(s); err != nil || got != p {
			t.Errorf("ParsePrefix of %q: got %v, %v, want %v", s, got, err, p)
		}
	}
}

// A2

func TestHasByBits(t *testing.T) {
	r := rand.New(rand.NewSource(3))
	for range 3000 {
		p := randomPrefix(r)
		low, high := p.Addr, p.Addr+1<<(32-p.Len)-1
		for _, a := range append([]int{low - 1, low, low + 1, high - 1, high, high + 1, r.Intn(1 << 32)}, within...) {
			want := a >= 0 && a <= api.MaxAddr && has(p, a)
			if got := Has(p, a); got != want {
				t.Errorf("Has of %v, %d: got %v, want %v", p, a, got, want)
			}
		}
	}
}

func TestHasOfWhatIsNone(t *testing.T) {
	for _, c := range refused {
		for _, a := range append([]int{c.p.Addr}, within...) {
			if Has(c.p, a) {
				t.Errorf("Has of %v, %d: got true", c.p, a)
			}
		}
	}
	for _, a := range outside {
		if Has(api.Prefix{}, a) || Has(api.Prefix{Addr: 0, Len: 1}, a) || Has(api.Prefix{Addr: api.MaxAddr, Len: 32}, a) {
			t.Errorf("Has of %d: got true", a)
		}
	}
}

func TestInside(t *testing.T) {
	for _, c := range []struct {
		p, q string
		want bool
	}{
		{"any", "any", true},
		{"0.0.0.0/1", "any", true},
		{"255.255.255.255", "any", true},
		{"any", "0.0.0.0/1", false},
		{"10.0.0.0/8", "10.0.0.0/8", true},
		{"10.0.0.0/9", "10.0.0.0/8", true},
		{"10.128.0.0/9", "10.0.0.0/8", true},
		{"10.0.0.0/8", "10.0.0.0/9", false},
		{"11.0.0.0/9", "10.0.0.0/8", false},
		{"11.0.0.0/8", "10.0.0.0/8", false},
		{"10.0.0.0/8", "11.0.0.0/8", false},
		{"10.255.255.255", "10.0.0.0/8", true},
		{"11.0.0.0", "10.0.0.0/8", false},
		{"1.2.3.4", "1.2.3.4", true},
		{"1.2.3.4", "1.2.3.5", false},
	} {
		if got := Inside(prefix(t, c.p), prefix(t, c.q)); got != c.want {
			t.Errorf("Inside of %s, %s: got %v, want %v", c.p, c.q, got, c.want)
		}
	}
	for _, c := range refused {
		if Inside(c.p, api.Prefix{}) || Inside(api.Prefix{Addr: 0, Len: 32}, c.p) || Inside(c.p, c.p) {
			t.Errorf("Inside with %v: got true", c.p)
		}
	}
}

// One is inside another one if both its least and its greatest are there: prefixes have no gaps.
func TestInsideByEnds(t *testing.T) {
	r := rand.New(rand.NewSource(4))
	for range 5000 {
		p, q := randomPrefix(r), randomPrefix(r)
		want := has(q, p.Addr) && has(q, p.Addr+1<<(32-p.Len)-1)
		if got := Inside(p, q); got != want {
			t.Errorf("Inside of %v, %v: got %v, want %v", p, q, got, want)
		}
	}
}

func TestEnds(t *testing.T) {
	for _, c := range []struct {
		p         string
		low, high int
	}{
		{"any", 0, api.MaxAddr},
		{"0.0.0.0/1", 0, 1<<31 - 1},
		{"128.0.0.0/1", 1 << 31, api.MaxAddr},
		{"0.0.0.0", 0, 0},
		{"255.255.255.255", api.MaxAddr, api.MaxAddr},
		{"10.0.0.0/8", 10 << 24, 11<<24 - 1},
		{"10.0.0.4/30", 10<<24 + 4, 10<<24 + 7},
	} {
		if low, high := Ends(prefix(t, c.p)); low != c.low || high != c.high {
			t.Errorf("Ends of %s: got %d, %d, want %d, %d", c.p, low, high, c.low, c.high)
		}
	}
	for _, c := range refused {
		if low, high := Ends(c.p); low != 0 || high != 0 {
			t.Errorf("Ends of %v: got %d, %d, want 0, 0", c.p, low, high)
		}
	}
}

func TestRange(t *testing.T) {
	for _, c := range []struct {
		low, high int
		want      string
	}{
		{0, api.MaxAddr, "any"},
		{0, 0, "0.0.0.0"},
		{api.MaxAddr, api.MaxAddr, "255.255.255.255"},
		{0, 1<<31 - 1, "0.0.0.0/1"},
		{1 << 31, api.MaxAddr, "128.0.0.0/1"},
		{1, 2, "0.0.0.1 0.0.0.2"},
		{0, 2, "0.0.0.0/31 0.0.0.2"},
		{1, 8, "0.0.0.1 0.0.0.2/31 0.0.0.4/30 0.0.0.8"},
		{10 << 24, 12<<24 - 1, "10.0.0.0/7"},
		{9 << 24, 11<<24 - 1, "9.0.0.0/8 10.0.0.0/8"},
		{api.MaxAddr - 2, api.MaxAddr, "255.255.255.253 255.255.255.254/31"},
	} {
		got, err := Range(c.low, c.high)
		wantList(t, fmt.Sprint("Range of ", c.low, " to ", c.high), got, err, prefixes(t, c.want))
	}
}

func TestRangeOfNearlyAll(t *testing.T) {
	got, err := Range(1, api.MaxAddr-1)
	if err != nil || len(got) != 62 {
		t.Fatalf("got %v, %v, want 62", got, err)
	}
	next := 1
	for _, p := range got {
		if Check(p) != nil || p.Addr != next {
			t.Errorf("got %v, want one from %d on", p, next)
		}
		next = p.Addr + 1<<(32-p.Len)
	}
	if next != api.MaxAddr {
		t.Errorf("ends ahead of %d, want %d", next, api.MaxAddr)
	}
}

func TestRangeIsTheFewest(t *testing.T) {
	for _, base := range []int{0, 10 << 24, 1<<32 - 64} {
		for low := range 64 {
			for high := low; high < 64; high++ {
				set := make([]bool, 64)
				for i := low; i <= high; i++ {
					set[i] = true
				}
				got, err := Range(base+low, base+high)
				if err != nil {
					t.Fatalf("Range: %v", err)
				}
				wantJust(t, "Range", got, base, set)
			}
		}
	}
}

func TestRangeRange(t *testing.T) {
	for _, bad := range outside {
		for _, good := range within {
			got, err := Range(bad, good)
			wantNoList(t, "Range, low", got, err, api.ErrRange)
			got, err = Range(good, bad)
			wantNoList(t, "Range, high", got, err, api.ErrRange)
		}
		got, err := Range(bad, bad)
		wantNoList(t, "Range, both", got, err, api.ErrRange)
	}
	for _, c := range [][2]int{{1, 0}, {api.MaxAddr, 0}, {api.MaxAddr, api.MaxAddr - 1}, {-1, 1 << 32}} {
		got, err := Range(c[0], c[1])
		wantNoList(t, "Range, that falls", got, err, api.ErrRange)
	}
}

func TestCover(t *testing.T) {
	for _, c := range []struct{ l, want string }{
		{"", ""},
		{"any", "any"},
		{"0.0.0.0/1 128.0.0.0/1", "any"},
		{"128.0.0.0/1 0.0.0.0/1", "any"},
		{"any 1.2.3.4 any", "any"},
		{"1.2.3.4", "1.2.3.4"},
		{"1.2.3.4 1.2.3.4", "1.2.3.4"},
		{"1.2.3.4 1.2.3.5", "1.2.3.4/31"},
		{"1.2.3.5 1.2.3.6", "1.2.3.5 1.2.3.6"},
		{"1.2.3.6 1.2.3.5", "1.2.3.5 1.2.3.6"},
		{"1.2.3.7 1.2.3.5 1.2.3.6 1.2.3.4", "1.2.3.4/30"},
		{"10.0.0.0/8 10.1.0.0/16 11.0.0.0/8", "10.0.0.0/7"},
		{"10.1.0.0/16 10.0.0.0/8 10.0.0.0/24", "10.0.0.0/8"},
		{"9.0.0.0/8 10.0.0.0/8", "9.0.0.0/8 10.0.0.0/8"},
		{"255.255.255.255 0.0.0.0", "0.0.0.0 255.255.255.255"},
		{"10.0.0.0/9 10.128.0.0/10 10.192.0.0/10 12.0.0.0", "10.0.0.0/8 12.0.0.0"},
		{"0.0.0.0/30 0.0.0.4", "0.0.0.0/30 0.0.0.4"},
	} {
		got, err := Cover(prefixes(t, c.l))
		wantList(t, "Cover of "+c.l, got, err, prefixes(t, c.want))
	}
}

func TestCoverIsTheFewest(t *testing.T) {
	r := rand.New(rand.NewSource(5))
	for i := range 3000 {
		base := []int{0, 10 << 24, 1<<32 - 128}[i%3]
		set := make([]bool, 128)
		var l []api.Prefix
		for range r.Intn(60) {
			n := 26 + r.Intn(7)
			if r.Intn(3) > 0 {
				n = 32 - r.Intn(2)
			}
			p := api.Prefix{Addr: base + r.Intn(128)>>(32-n)<<(32-n), Len: n}
			l = append(l, p)
			for a := p.Addr; a < p.Addr+1<<(32-n); a++ {
				set[a-base] = true
			}
		}
		got, err := Cover(l)
		if err != nil {
			t.Fatalf("Cover of %v: %v", l, err)
		}
		wantJust(t, fmt.Sprint("Cover of ", l), got, base, set)
	}
}

func TestCoverErrors(t *testing.T) {
	good := api.Prefix{Addr: 10 << 24, Len: 8}
	for _, c := range refused {
		for _, l := range [][]api.Prefix{{c.p}, {good, c.p}, {c.p, good}, {good, c.p, {Addr: 1, Len: 8}, {Addr: -1}}, slices.Concat(slices.Repeat([]api.Prefix{good}, 300), []api.Prefix{c.p})} {
			got, err := Cover(l)
			wantNoList(t, "Cover", got, err, c.how)
		}
	}
}

func TestCoverFull(t *testing.T) {
	var apart, alike []api.Prefix
	for i := range 201 {
		apart = append(apart, api.Prefix{Addr: 2 * i, Len: 32})
		alike = append(alike, api.Prefix{Addr: 7, Len: 32})
	}
	for _, l := range [][]api.Prefix{apart, alike} {
		got, err := Cover(l)
		wantNoList(t, "Cover of 201", got, err, api.ErrFull)
	}
	got, err := Cover(apart[:200])
	wantList(t, "Cover of 200", got, err, apart[:200])
	got, err = Cover(alike[:200])
	wantList(t, "Cover of 200 alike", got, err, alike[:1])
}

// What is handed in stays as it is, what is answered is fresh, and nothing behind a length is looked at.
func TestCoverLeavesItsListAlone(t *testing.T) {
	memory := prefixes(t, "9.0.0.0/8 1.2.3.4 1.2.3.5 7.0.0.0/8 8.0.0.0/8")
	before := slices.Clone(memory)
	got, err := Cover(memory[:3])
	want := prefixes(t, "1.2.3.4/31 9.0.0.0/8")
	wantList(t, "Cover", got, err, want)
	for i := range got {
		got[i] = api.Prefix{Addr: -1, Len: -1}
	}
	if !slices.Equal(memory, before) {
		t.Errorf("got %v, want %v", memory, before)
	}
	again, err := Cover(memory[:3])
	wantList(t, "Cover", again, err, want)
	one := prefixes(t, "1.2.3.4")
	got, err = Cover(one)
	wantList(t, "Cover", got, err, one)
	got[0].Len = 7
	if one[0].Len != 32 {
		t.Error("Cover: what it answered is what it was given")
	}
}
