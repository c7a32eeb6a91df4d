package rule

import (
	"math/big"
	"math/rand"
	"regexp"
	"slices"
	"strings"
	"testing"

	"portcullis/api"
	"portcullis/plain"
)

// R3

func wantNames(t *testing.T, text string, names, texts []string, how api.Errno) {
	t.Helper()
	n, x, err := Names(text)
	if !slices.Equal(n, names) || !slices.Equal(x, texts) || plain.Told(err) != how {
		t.Errorf("Names of %q: got %q, %q, %v, want %q, %q, %v", text, n, x, err, names, texts, how)
	}
}

func wantExpand(t *testing.T, text, want string, how api.Errno) {
	t.Helper()
	wantText(t, "Expand of "+text, want, how)(Expand(text))
}

func TestNames(t *testing.T) {
	for _, c := range []struct {
		text         string
		names, texts []string
	}{
		{"", nil, nil},
		{"\n", nil, nil},
		{"pass from any to any", nil, nil},
		{"let a = b\n", []string{"a"}, []string{"b"}},
		{"let abcdefgh = b\n", []string{"abcdefgh"}, []string{"b"}},
		{"let z = \x00\n", []string{"z"}, []string{"\x00"}},
		{"let a =  \n", []string{"a"}, []string{" "}},
		{"let a =  b \n", []string{"a"}, []string{" b "}},
		{"let a = b = c\n", []string{"a"}, []string{"b = c"}},
		{"let a =  = \n", []string{"a"}, []string{" = "}},
		{"let a = let b = c\n", []string{"a"}, []string{"let b = c"}},
		{"let a = $a {x|y} }{ $\n", []string{"a"}, []string{"$a {x|y} }{ $"}},
		{"let a = \xff\r\t\n", []string{"a"}, []string{"\xff\r\t"}},
		{"let b = 1\nx\n\nlet a = 2\nlet ab = 1\nlast", []string{"b", "a", "ab"}, []string{"1", "2", "1"}},
		{"let let = let \n", []string{"let"}, []string{"let "}},
		// These do not begin as such a line does.
		{" let a = b\nlet\nLet a = b\nlet\ta = b\nlet", nil, nil},
		{"x let a = b\nlet| a = b\nlett a = b\n", nil, nil},
	} {
		wantNames(t, c.text, c.names, c.texts, api.OK)
	}
}

// noLets begin as lines that give names do, and are none.
var noLets = []string{
	"let ", "let  ", "let a", "let a ", "let a =", "let a = ", "let a=b", "let a= b", "let a =b", "let  a = b", "let a  = b", "let a b = c", "let a : b",
	"let = b", "let  = b", "let A = b", "let aB = b", "let a1 = b", "let a_ = b", "let $a = b", "let a. = b", "let ` = b", "let { = b", "let \xff = b", "let ä = b", "let a\x00 = b",
	"let abcdefghi = b", "let toolongname = b",
}

func TestNamesSyntax(t *testing.T) {
	for _, line := range noLets {
		wantNames(t, line+"\n", nil, nil, api.ErrSyntax)
		wantNames(t, line, nil, nil, api.ErrSyntax)
		wantNames(t, "let ok = x\n"+line+"\nlet z = y\n", nil, nil, api.ErrSyntax)
		wantExpand(t, "let ok = x\n"+line+"\n$nobody {\n", "", api.ErrSyntax)
	}
	wantNames(t, "let a = b", nil, nil, api.ErrSyntax)
	wantNames(t, "let a = b\nlet c = d", nil, nil, api.ErrSyntax)
	wantExpand(t, "x\nlet a = b", "", api.ErrSyntax)
}

func TestNamesClash(t *testing.T) {
	wantNames(t, "let a = b\nlet a = b\n", nil, nil, api.ErrClash)
	wantNames(t, "let a = b\nx\nlet c = d\ny\nlet a = e\n", nil, nil, api.ErrClash)
	wantNames(t, "let a = b\nlet aa = b\nlet aaa = b\n", []string{"a", "aa", "aaa"}, []string{"b", "b", "b"}, api.OK)
	// Line by line.
	wantNames(t, "let a = b\nlet a = c\nlet A = d\n", nil, nil, api.ErrClash)
	wantNames(t, "let a = b\nlet a = c\nlet d = e", nil, nil, api.ErrClash)
	wantNames(t, "let a = b\nlet A = d\nlet a = c\n", nil, nil, api.ErrSyntax)
	wantNames(t, "let a = b\nlet a = \n", nil, nil, api.ErrSyntax)
	wantNames(t, "let a = b\nlet a = c", nil, nil, api.ErrSyntax)
	wantExpand(t, "$b {\nlet a = b\nlet a = b\n", "", api.ErrClash)
}

func TestNamesFull(t *testing.T) {
	long := "let a = " + strings.Repeat("x", 1991) + "\n"
	if len(long) != 2000 {
		t.Fatalf("%d bytes", len(long))
	}
	wantNames(t, long, []string{"a"}, []string{strings.Repeat("x", 1991)}, api.OK)
	wantNames(t, long+"\n", nil, nil, api.ErrFull)
	wantNames(t, long+"let A = b\n", nil, nil, api.ErrFull)
	wantNames(t, long+long, nil, nil, api.ErrFull)
	wantNames(t, strings.Repeat("\n", 2000), nil, nil, api.OK)
	wantNames(t, strings.Repeat("\n", 2001), nil, nil, api.ErrFull)
	wantNames(t, strings.Repeat("let ", 501), nil, nil, api.ErrFull)
	wantExpand(t, strings.Repeat("\n", 2000), strings.Repeat("\n", 2000), api.OK)
	wantExpand(t, strings.Repeat("\n", 2001), "", api.ErrFull)
	wantExpand(t, strings.Repeat("$", 2001), "", api.ErrFull)
	wantExpand(t, strings.Repeat("{", 1<<20), "", api.ErrFull)
}

func TestExpandNames(t *testing.T) {
	for _, c := range []struct{ text, want string }{
		{"", ""},
		{"\n", "\n"},
		{"x", "x"},
		{"a|b\n|\n", "a|b\n|\n"},
		{"let a = b\n", ""},
		{"x\nlet a = b\n", "x\n"},
		{"x\nlet a = b\ny", "x\ny"},
		{"let a = b\n\n\nlet c = d\n\n", "\n\n\n"},
		{"let a = b\n$a", "b"},
		{"$a\nlet a = b\n", "b\n"}, // a name may be told behind
		{"let a = b\n$a$a a $a\n", "bb a b\n"},
		{"let net = N\nlet neta = A\nlet n = 1\n$net $neta $netab $nets $n $ne $nx\n", "N A Ab Ns 1 1e 1x\n"},
		{"let n = 1\nlet neta = A\nlet net = N\n$net $neta $netab $nets $n $ne $nx\n", "N A Ab Ns 1 1e 1x\n"},
		{"let abcdefgh = X\n$abcdefghi\n", "Xi\n"},
		{"let a = b\n$a1 $aA $a$a", "b1 bA bb"},
		// What comes is not looked at again, nor what it makes together with what stands there.
		{"let a = $a\n$a\n", "$a\n"},
		{"let a = $b\nlet b = x\n$a $b\n", "$b x\n"},
		{"let a = $\nlet b = x\n$ab\n", "$b\n"},
		{"let a = let \n$ab = c\n", "let b = c\n"},
		{"let a = $ $zz\n$a$a\n", "$ $zz$ $zz\n"},
	} {
		wantExpand(t, c.text, c.want, api.OK)
	}
}

func TestExpandNone(t *testing.T) {
	for _, text := range []string{
		"$", "$\n", "$a", "let a = b\n$", "let a = b\n$$a", "let a = b\n$ a", "let a = b\n$A", "let ab = b\n$a", "let a = b\n$a $b", "let a = b\n$\na", "$a\nlet ab = b\n", "let a = b\nx {$b}\n",
	} {
		wantExpand(t, text, "", api.ErrNone)
		// It is told ahead of what is wrong with braces, and of there being too much.
		wantExpand(t, "{\n"+text, "", api.ErrNone)
		wantExpand(t, strings.Repeat("{a|b}", 20)+"\n"+text, "", api.ErrNone)
		wantExpand(t, "let long = "+strings.Repeat("x", 900)+"\n$long$long$long\n"+text, "", api.ErrNone)
	}
}

func TestExpandNamesFull(t *testing.T) {
	hundred := "let a = " + strings.Repeat("x", 100) + "\n"
	twenty := strings.Repeat("$a", 20)
	wantExpand(t, hundred+twenty, strings.Repeat("x", 2000), api.OK)
	wantExpand(t, hundred+twenty+"\n", "", api.ErrFull)
	wantExpand(t, hundred+twenty+"$a", "", api.ErrFull)
	wantExpand(t, hundred+"\n\n"+strings.Repeat("$a", 19)+strings.Repeat("y", 98), "\n\n"+strings.Repeat("x", 1900)+strings.Repeat("y", 98), api.OK)
	wantExpand(t, hundred+"\n\n"+strings.Repeat("$a", 19)+strings.Repeat("y", 99), "", api.ErrFull)
	// Ahead of what is wrong with braces.
	wantExpand(t, hundred+twenty+"{", "", api.ErrFull)
	wantExpand(t, "let a = "+strings.Repeat("x", 990)+"\n"+strings.Repeat("$a", 500), "", api.ErrFull)
	// What braces would save comes too late.
	braces := "let a = " + strings.Repeat("{}", 50) + "\n"
	wantExpand(t, braces+twenty, "", api.OK)
	wantExpand(t, braces+twenty+"\n", "", api.ErrFull)
}

func TestExpandBraces(t *testing.T) {
	for _, c := range []struct{ text, want string }{
		{"{}", ""},
		{"{}\n", "\n"},
		{"{a}", "a"},
		{"x{a}y\n", "xay\n"},
		{"{|}", "\n"},
		{"{|}\n", "\n\n"},
		{"{a|b}", "a\nb"},
		{"{a|b}\n", "a\nb\n"},
		{"x{a|b|c}y\n", "xay\nxby\nxcy\n"},
		{"x{a|b|c}y", "xay\nxby\nxcy"},
		{"{a|b}{c|d}\n", "ac\nad\nbc\nbd\n"},
		{"{a|b}-{c|d|}-{e}", "a-c-e\na-d-e\na--e\nb-c-e\nb-d-e\nb--e"},
		{"1\n{a|b}\n2\n{c|d}", "1\na\nb\n2\nc\nd"},
		{"{a|b}\n\n{c|d}\n", "a\nb\n\nc\nd\n"},
		{"|{a|b}|\n", "|a|\n|b|\n"},
		{"{||b}{a|b}\n", "a\nb\na\nb\nba\nbb\n"},
		{"{ a | b }\n", " a \n b \n"},
		{"{\x00|\xff}", "\x00\n\xff"},
		{"{}{}{}{}", ""},
		{"{let |x}a = b\n", "let a = b\nxa = b\n"},
		// Names come first, and may bring braces.
		{"let a = {x|y}\n$a $a\n", "x x\nx y\ny x\ny y\n"},
		{"let a = x|y\n{$a}\n", "x\ny\n"},
		{"let a = {\nlet b = }\n$ax|y$b\n", "x\ny\n"},
		{"let a = 1\n{$a|2}\n", "1\n2\n"},
		{"let a = {x|y}\nz\n", "z\n"},
		{"let a = {\nz\n", "z\n"},
		{"pass from {1.2.3.4/32|any} to any {keep|}", "pass from 1.2.3.4/32 to any keep\npass from 1.2.3.4/32 to any \npass from any to any keep\npass from any to any "},
	} {
		wantExpand(t, c.text, c.want, api.OK)
	}
}

func TestExpandBracesSyntax(t *testing.T) {
	for _, line := range []string{
		"{", "}", "}{", "{{", "}}", "{{}", "{}}", "{{}}", "{{a}}", "{a|{b}}", "{a|{b|c}|d}", "{a}{", "{a}}", "}{a}", "{a}b}", "{a{b}", "{a|b", "a|b}", "x}y{z", "{a}{b}{", "{}{}}{",
	} {
		wantExpand(t, line, "", api.ErrSyntax)
		wantExpand(t, line+"\n", "", api.ErrSyntax)
		wantExpand(t, "x\n{a|b}\n"+line+"\nx\n", "", api.ErrSyntax)
		// Ahead of there being too much.
		wantExpand(t, strings.Repeat("{a|b}", 50)+"\n"+line, "", api.ErrSyntax)
		wantExpand(t, strings.Repeat("{a|b}", 50)+line, "", api.ErrSyntax)
	}
	// Both stand there, but not in one line.
	wantExpand(t, "{\n}", "", api.ErrSyntax)
	wantExpand(t, "{a\n|b}\n", "", api.ErrSyntax)
	wantExpand(t, "let a = {\n$a x\n}\n", "", api.ErrSyntax)
	wantExpand(t, "let a = {x}\n{$a}\n", "", api.ErrSyntax)
}

func TestExpandBracesFull(t *testing.T) {
	// 2 lines of 999 bytes and their ends.
	wantExpand(t, "{a|b}"+strings.Repeat("x", 998)+"\n", "a"+strings.Repeat("x", 998)+"\nb"+strings.Repeat("x", 998)+"\n", api.OK)
	wantExpand(t, "{a|b}"+strings.Repeat("x", 999)+"\n", "", api.ErrFull)
	wantExpand(t, "{a|bb}"+strings.Repeat("x", 998)+"\n", "", api.ErrFull)
	// The last one may have no end.
	wantExpand(t, "{a|bb}"+strings.Repeat("x", 998), "a"+strings.Repeat("x", 998)+"\nbb"+strings.Repeat("x", 998), api.OK)
	wantExpand(t, "{aa|bb}"+strings.Repeat("x", 998), "", api.ErrFull)
	// All lines count.
	wantExpand(t, "{a|b}"+strings.Repeat("x", 998)+"\n\n", "", api.ErrFull)
	wantExpand(t, "\n{a|b}"+strings.Repeat("x", 998)+"\n", "", api.ErrFull)
	wantExpand(t, strings.Repeat("{|}", 10)+"\n", strings.Repeat("\n", 1024), api.OK)
	wantExpand(t, strings.Repeat("{|}", 10)+"\n"+strings.Repeat("x", 976), strings.Repeat("\n", 1024)+strings.Repeat("x", 976), api.OK)
	wantExpand(t, strings.Repeat("{|}", 10)+"\n"+strings.Repeat("x", 977), "", api.ErrFull)
	wantExpand(t, strings.Repeat("{|}", 11)+"\n", "", api.ErrFull)
	wantExpand(t, strings.Repeat("{|}", 11), "", api.ErrFull)
	// More lines than any memory has.
	wantExpand(t, strings.Repeat("{|}", 666), "", api.ErrFull)
	wantExpand(t, strings.Repeat("{a|b}", 400), "", api.ErrFull)
	wantExpand(t, strings.Repeat("{||||||||}", 200), "", api.ErrFull)
	wantExpand(t, strings.Repeat("{}", 600)+strings.Repeat("{|}", 200), "", api.ErrFull)
	// What is there on the way does not count.
	wantExpand(t, strings.Repeat("{|}", 10)+strings.Repeat("{}", 900)+"\n", strings.Repeat("\n", 1024), api.OK)
	wantExpand(t, "{|}"+strings.Repeat("{x}", 600), strings.Repeat("x", 600)+"\n"+strings.Repeat("x", 600), api.OK)
}

var (
	letForm   = regexp.MustCompile(`(?s)^let ([a-z]{1,8}) = ([^\n]+)\n$`)
	braceForm = regexp.MustCompile(`\{([^{}\n]*)\}`)
)

// splitSlowly gives the names with their texts, and the lines that give none.
func splitSlowly(text string) (names, texts []string, rest string, how api.Errno) {
	if len(text) > 2000 {
		return nil, nil, "", api.ErrFull
	}
	for _, line := range strings.SplitAfter(text, "\n") {
		m := letForm.FindStringSubmatch(line)
		switch {
		case m == nil && strings.HasPrefix(line, "let "):
			return nil, nil, "", api.ErrSyntax
		case m == nil:
			rest += line
		case slices.Contains(names, m[1]):
			return nil, nil, "", api.ErrClash
		default:
			names, texts = append(names, m[1]), append(texts, m[2])
		}
	}
	return names, texts, rest, api.OK
}

// fillSlowly goes byte by byte, and tries each length of a name from the greatest on.
func fillSlowly(text string, names, texts []string) (string, api.Errno) {
	out := ""
next:
	for i := 0; i < len(text); i++ {
		if text[i] != '$' {
			out += text[i : i+1]
			continue
		}
		for n := min(8, len(text)-i-1); n > 0; n-- {
			if at := slices.Index(names, text[i+1:i+1+n]); at >= 0 {
				out += texts[at]
				i += n
				continue next
			}
		}
		return "", api.ErrNone
	}
	if len(out) > 2000 {
		return "", api.ErrFull
	}
	return out, api.OK
}

// sizeSlowly tells how many bytes come of the braces of a line with its end, without making them: each alternative stands in as many lines as the other braces make.
func sizeSlowly(line string) *big.Int {
	groups := braceForm.FindAllStringSubmatch(line, -1)
	product := func(but int) *big.Int {
		n := big.NewInt(1)
		for i, g := range groups {
			if i != but {
				n.Mul(n, big.NewInt(int64(strings.Count(g[1], "|")+1)))
			}
		}
		return n
	}
	fixed := big.NewInt(int64(len(braceForm.ReplaceAllString(line, ""))))
	size := fixed.Mul(fixed, product(-1))
	for i, g := range groups {
		bytes := big.NewInt(int64(len(g[1]) - strings.Count(g[1], "|")))
		size.Add(size, bytes.Mul(bytes, product(i)))
	}
	return size
}

// spreadSlowly puts lines in place of the first one that has braces, again and again.
func spreadSlowly(text string) (string, api.Errno) {
	if strings.ContainsAny(braceForm.ReplaceAllString(text, ""), "{}") {
		return "", api.ErrSyntax
	}
	ended := text + "\n"
	size := big.NewInt(-1)
	for _, line := range strings.SplitAfter(ended, "\n") {
		size.Add(size, sizeSlowly(line))
	}
	if size.Cmp(big.NewInt(2000)) > 0 {
		return "", api.ErrFull
	}
	for {
		at := braceForm.FindStringSubmatchIndex(ended)
		if at == nil {
			return strings.TrimSuffix(ended, "\n"), api.OK
		}
		begin := strings.LastIndex(ended[:at[0]], "\n") + 1
		end := at[1] + strings.Index(ended[at[1]:], "\n") + 1
		lines := ""
		for _, one := range strings.Split(ended[at[2]:at[3]], "|") {
			lines += ended[begin:at[0]] + one + ended[at[1]:end]
		}
		ended = ended[:begin] + lines + ended[end:]
	}
}

func expandSlowly(text string) (string, api.Errno) {
	names, texts, rest, how := splitSlowly(text)
	if how == api.OK {
		rest, how = fillSlowly(rest, names, texts)
	}
	if how == api.OK {
		rest, how = spreadSlowly(rest)
	}
	if how != api.OK {
		rest = ""
	}
	return rest, how
}

func wantAsSlowly(t *testing.T, text string) api.Errno {
	t.Helper()
	names, texts, _, how := splitSlowly(text)
	wantNames(t, text, names, texts, how)
	want, how := expandSlowly(text)
	wantExpand(t, text, want, how)
	return how
}

func TestExpandOfRandomTexts(t *testing.T) {
	r := rand.New(rand.NewSource(3))
	lets := []string{"let a = x\n", "let ab = {p|q}\n", "let abc = $a\n", "let b = |\n", "let net = 10.0.0.0/8\n", "let big = " + strings.Repeat("y", 400) + "\n", "let A = x\n", "let a = \n", "let open = {\n", "let shut = }\n"}
	bits := []string{"$a", "$ab", "$abc", "$b", "$net", "{a|b}", "{a|b|}", "{|}", "{}", "{x}", "a", "b", "c", "|", " ", "\n", "\n", "{$a|$b}", "{", "}", "$", "$big", "$open", "$shut", "let ", "pass from any to any"}
	seen := map[api.Errno]int{}
	for range 30000 {
		var text string
		for _, at := range r.Perm(len(lets))[:r.Intn(4)] {
			text += lets[at]
			if r.Intn(60) == 0 {
				text += lets[at]
			}
		}
		most := 5 + r.Intn(len(bits)-4)
		for range r.Intn(48) {
			text += bits[r.Intn(most)]
		}
		seen[wantAsSlowly(t, text)]++
	}
	for _, how := range []api.Errno{api.OK, api.ErrSyntax, api.ErrClash, api.ErrNone, api.ErrFull} {
		if seen[how] < 30 {
			t.Errorf("%v: only %d of 30000", how, seen[how])
		}
	}
}

// Texts of which just as many bytes come as may be, and one less, and one more.
func TestExpandAtTheBound(t *testing.T) {
	r := rand.New(rand.NewSource(4))
	bits := []string{"{a|b}", "{|}", "{}", "{xyz}", "{p||q|}", "u", "v|w", "\n"}
	seen := map[api.Errno]int{}
	for range 3000 {
		var text string
		for range 1 + r.Intn(9) {
			text += bits[r.Intn(len(bits))]
		}
		text += "\n"
		some, how := expandSlowly(text)
		if how != api.OK {
			continue
		}
		pad := 2000 - len(some) + r.Intn(3) - 1
		seen[wantAsSlowly(t, text+strings.Repeat("x", pad))]++
	}
	if seen[api.OK] < 500 || seen[api.ErrFull] < 300 {
		t.Errorf("too few: %v", seen)
	}
}

// What one call answers is not another one's.
func TestNamesAnswersFreshMemory(t *testing.T) {
	text := "let a = x\nlet b = y\nlet c = z\n"
	names, texts, err := Names(text)
	if err != nil || len(names) != 3 || len(texts) != 3 {
		t.Fatalf("got %q, %q, %v", names, texts, err)
	}
	for i := range names {
		names[i] = "n"
	}
	_ = append(names, "n")
	wantNames(t, text, []string{"a", "b", "c"}, []string{"x", "y", "z"}, api.OK)
	if !slices.Equal(texts, []string{"x", "y", "z"}) {
		t.Errorf("got %q", texts)
	}
}

func FuzzExpand(f *testing.F) {
	for _, text := range []string{"", "let a = {x|y}\n$a {1|2}\n", "let a = x\nlet ab = y\n$abc\n", "{a|b}{c|}", "let a = x", "{{a}}\n", "$", "let a = b\nlet a = c\n"} {
		f.Add(text)
	}
	for _, line := range noLets {
		f.Add(line + "\n")
	}
	f.Fuzz(func(t *testing.T, text string) { wantAsSlowly(t, text) })
}
