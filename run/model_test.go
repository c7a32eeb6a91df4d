package run

import (
	"encoding/hex"
	"fmt"
	"math/rand"
	"regexp"
	"strconv"
	"strings"
	"testing"

	"portcullis/addr"
	"portcullis/api"
	"portcullis/heavy"
	"portcullis/judge"
	"portcullis/plain"
	"portcullis/rule"
	"portcullis/span"
	"portcullis/sum"
	"portcullis/trie"
)

// A slow run, as the chapter's words have it: what was put, added and ruled is kept as text, and done anew for each line.

// The forms of words; ADDR, PREFIX and SPANS are whatever stands there.
var (
	nForm   = regexp.MustCompile(`^(0|-?[1-9][0-9]{0,8})$`)
	hexForm = regexp.MustCompile(`^([0-9a-f]{2})*$`)
)

// slowRows are the rows, but for that of rules.
var slowRows = []struct {
	word string
	are  string // of the words behind it: N, HEX, ADDR, PREFIX, SPANS by a letter each
	do   func(past []string, w []string) (string, error)
}{
	{"sum", "h", func(_, w []string) (string, error) {
		b, err := hex.DecodeString(w[0])
		return fmt.Sprint(sum.Sum(b)), err
	}},
	{"has", "pa", func(_, w []string) (string, error) {
		return map[bool]string{true: "yes", false: "no"}[addr.Has(aPrefix(w[0]), anAddr(w[1]))], nil
	}},
	{"range", "aa", func(_, w []string) (string, error) {
		l, err := addr.Range(anAddr(w[0]), anAddr(w[1]))
		answer := ""
		for i, p := range l {
			s, _ := addr.PrintPrefix(p)
			answer += map[bool]string{true: "", false: " "}[i == 0] + s
		}
		return answer, err
	}},
	{"ports", "s", func(_, w []string) (string, error) {
		l, _ := span.Parse(w[0])
		l, _ = span.Not(l)
		return span.Print(l)
	}},
	{"put", "pn", func(past, w []string) (string, error) {
		isNew, err := slowTrie(past).Put(aPrefix(w[0]), aNumber(w[1]))
		return map[bool]string{true: "yes", false: "no"}[isNew], err
	}},
	{"find", "a", func(past, w []string) (string, error) {
		p, err := slowTrie(past).Find(anAddr(w[0]))
		return fmt.Sprint(p.Value), err
	}},
	{"judge", "nanann", func(past, w []string) (string, error) {
		k := api.Key{Kind: aNumber(w[0]), Src: anAddr(w[1]), From: aNumber(w[2]), Dst: anAddr(w[3]), To: aNumber(w[4])}
		pass, keep, n, err := judge.Judge(slowRules(past), k, aNumber(w[5]))
		return map[[2]bool]string{{true, true}: "keep", {true, false}: "pass", {false, false}: "block"}[[2]bool{pass, keep}] + fmt.Sprint(" ", n), err
	}},
	{"add", "nn", func(past, w []string) (string, error) {
		return "ok", slowHeavy(past).Add(aNumber(w[0]), aNumber(w[1]))
	}},
	{"count", "n", func(past, w []string) (string, error) {
		c := slowHeavy(past).Count(aNumber(w[0]))
		return fmt.Sprint(c.Many, " ", c.Less), nil
	}},
}

func aNumber(s string) int {
	n, _ := strconv.Atoi(s)
	return n
}

func anAddr(s string) int {
	a, _ := addr.Parse(s)
	return a
}

func aPrefix(s string) api.Prefix {
	p, _ := addr.ParsePrefix(s)
	return p
}

// slowTrie has what the lines that were taken have put.
func slowTrie(past []string) *trie.Trie {
	t := trie.New()
	for _, line := range past {
		if w := strings.Split(line, " "); w[0] == "put" {
			t.Put(aPrefix(w[1]), aNumber(w[2]))
		}
	}
	return t
}

func slowHeavy(past []string) *heavy.Heavy {
	h, _ := heavy.New(3)
	for _, line := range past {
		if w := strings.Split(line, " "); w[0] == "add" {
			h.Add(aNumber(w[1]), aNumber(w[2]))
		}
	}
	return h
}

func slowText(past []string) string {
	text := ""
	for _, line := range past {
		if s, is := strings.CutPrefix(line, "rule "); is {
			text += s + "\n"
		}
	}
	return text
}

func slowRules(past []string) []api.Rule {
	l, _, err := rule.Parse(slowText(past))
	if err != nil {
		panic(err)
	}
	return l
}

// slowRead tells how a word of a line is answered that cannot be read; "" where it can.
func slowRead(what rune, word string) string {
	var err error
	switch what {
	case 'n':
		return map[bool]string{false: "bad"}[nForm.MatchString(word)]
	case 'h':
		return map[bool]string{false: "bad"}[hexForm.MatchString(word)]
	case 'a':
		_, err = addr.Parse(word)
	case 'p':
		_, err = addr.ParsePrefix(word)
	case 's':
		_, err = span.Parse(word)
	}
	if err == nil {
		return ""
	}
	return plain.Told(err).Error()
}

// slowLine answers a line behind those that were taken, and tells whether it is taken.
func slowLine(past []string, line string) (string, bool) {
	if s, is := strings.CutPrefix(line, "rule "); is {
		// Of all the text the last line is the only one that may be wrong.
		l, _, err := rule.Parse(slowText(past) + s + "\n")
		if _, _, alone := rule.Parse(s + "\n"); alone != nil {
			err = alone
		} else if err == nil {
			err = rule.Check(l)
		}
		if err != nil {
			return plain.Told(err).Error(), false
		}
		return "ok", true
	}
	for _, row := range slowRows {
		rest, is := strings.CutPrefix(line, row.word+" ")
		if !is || strings.Count(rest, " ")+1 != len(row.are) {
			continue
		}
		words := strings.Split(rest, " ")
		for i, what := range row.are {
			if how := slowRead(what, words[i]); how != "" {
				return how, false
			}
		}
		answer, err := row.do(past, words)
		if err != nil {
			return plain.Told(err).Error(), false
		}
		return answer, true
	}
	return "bad", false
}

func slowRun(text string) string {
	if len(text) > 3000 {
		return "too long\n"
	}
	lines := strings.Split(text, "\n")
	if lines[len(lines)-1] == "" {
		lines = lines[:len(lines)-1]
	}
	var past []string
	answers := ""
	for _, line := range lines {
		answer, taken := slowLine(past, line)
		if taken {
			past = append(past, line)
		}
		answers += answer + "\n"
	}
	return answers
}

// Texts at random

func oneOf(r *rand.Rand, words ...string) string { return words[r.Intn(len(words))] }

func randomAddr(r *rand.Rand) string {
	if r.Intn(12) == 0 {
		return oneOf(r, "", "any", "1.2.3", "01.2.3.4", "256.0.0.0", "1.2.3.4.5", "1.2.3.4/32", "x")
	}
	return oneOf(r, "0.0.0.", "10.0.0.", "10.0.0.", "255.255.255.") + strconv.Itoa(r.Intn(12))
}

func randomPrefix(r *rand.Rand) string {
	if r.Intn(12) == 0 {
		return oneOf(r, "", "ANY", "0.0.0.0/0", "10.0.0.1/8", "1.2.3.4/33", "1.2.3.4/", "10.0.0/8", "any/0", "10.0.0.0/08")
	}
	return oneOf(r, "any", "10.0.0.0/8", "10.0.0.0/29", "0.0.0.0/30", "10.0.0.4/31", "0.0.0.0/1", "255.255.255.8/29", "10.0.0."+strconv.Itoa(r.Intn(12)))
}

func randomNumber(r *rand.Rand) string {
	if r.Intn(15) == 0 {
		return oneOf(r, "", "-0", "00", "01", "+1", "1x", "1000000000", "-1000000000", "1_0", "0x1", "--1", "-")
	}
	return oneOf(r, "0", "1", "1", "2", "2", "3", "4", "5", "-1", "7", "80", "256", "65535", "65536", "1000000", "1000001", "999999999", "-999999999")
}

func randomPorts(r *rand.Rand) string {
	return oneOf(r, "-", "0", "0-65535", "1-65535", "80,443", "5-7,9", "65535", "80", "7,5", "5,6", "", "x", "05", "0-65536", "1-5")
}

func randomHex(r *rand.Rand) string {
	word := ""
	for range r.Intn(7) {
		word += fmt.Sprintf("%02x", r.Intn(256))
	}
	if r.Intn(6) == 0 {
		word += oneOf(r, "0", "G0", "FF", "0x", "-1", "f")
	}
	return word
}

func randomRule(r *rand.Rand) string {
	ports := func() string {
		return oneOf(r, "", "", "", " port 80", " port 1-5", " port -", " port 5,6")
	}
	if r.Intn(3) == 0 {
		return oneOf(r, "pass from any to any", "block from any to any", "pass in from any to any keep", "pass quick kind stream from 10.0.0.0/8 to any port 80 keep")
	}
	return oneOf(r, "pass", "pass", "block", "allow") + oneOf(r, "", "", "", " quick") + oneOf(r, "", "", " in", " out") +
		oneOf(r, "", " kind stream", " kind stream", " kind single", " kind echo") + " from " + oneOf(r, "any", "any", "10.0.0.0/8", "0.0.0.0/1", "10.0.0.1") + ports() +
		" to " + oneOf(r, "any", "any", "10.0.0.0/29") + ports() + oneOf(r, "", "", "", " keep", " ")
}

func randomLine(r *rand.Rand) string {
	switch r.Intn(14) {
	case 0:
		return "sum " + randomHex(r)
	case 1:
		return "has " + randomPrefix(r) + " " + randomAddr(r)
	case 2:
		return "range " + randomAddr(r) + " " + randomAddr(r)
	case 3:
		return "ports " + randomPorts(r)
	case 4, 5:
		return "put " + randomPrefix(r) + " " + randomNumber(r)
	case 6:
		return "find " + randomAddr(r)
	case 7, 8:
		return "rule " + randomRule(r)
	case 9, 10:
		return "judge " + oneOf(r, "1", "2", "3", randomNumber(r)) + " " + randomAddr(r) + " " + oneOf(r, "80", "3", randomNumber(r)) + " " + randomAddr(r) + " " +
			oneOf(r, "80", "3", randomNumber(r)) + " " + oneOf(r, "1", "2", randomNumber(r))
	case 11:
		return "add " + oneOf(r, "1", "2", "3", "4", "5") + " " + randomNumber(r)
	case 12:
		return "count " + oneOf(r, "1", "2", "3", "4", "5", randomNumber(r))
	}
	return oneOf(r, "", " ", "fly", "rule", "sum", "find", "put any", "count 1 2", "add 1", "has any", "judge 1 2", "SUM ff", " sum ff")
}

// spoil changes a byte, takes one away, or lays one more in.
func spoil(r *rand.Rand, line string) string {
	if line == "" {
		return line
	}
	at := r.Intn(len(line))
	with := oneOf(r, " ", " ", "0", "1", "a", "-", "\t", "/", ".", "\x00", "\xff", "\n")
	switch r.Intn(3) {
	case 0:
		return line[:at] + line[at+1:]
	case 1:
		return line[:at] + with + line[at:]
	}
	return line[:at] + with + line[at+1:]
}

func randomText(r *rand.Rand, lines int) string {
	text := ""
	for range lines {
		line := randomLine(r)
		if r.Intn(8) == 0 {
			line = spoil(r, line)
		}
		text += line + "\n"
	}
	return text[:len(text)-r.Intn(2)]
}

func TestRandomTexts(t *testing.T) {
	r := rand.New(rand.NewSource(20))
	answers := map[string]int{}
	for range 3000 {
		text := randomText(r, 1+r.Intn(40))
		got := Run(text)
		if want := slowRun(text); got != want {
			t.Fatalf("%q: got %q, want %q", text, got, want)
		}
		for answer := range strings.Lines(got) {
			answers[answer]++
		}
	}
	for _, answer := range []string{"yes", "no", "ok", "bad", "ErrRange", "ErrSyntax", "ErrShape", "ErrNone", "pass -1", "pass 0", "keep 1", "block 0", "0 0"} {
		if answers[answer+"\n"] < 20 {
			t.Errorf("%q comes %d times alone", answer, answers[answer+"\n"])
		}
	}
}

// Z2

// wantBeginnings wants of the first lines of a text the first answers.
func wantBeginnings(t *testing.T, text string) {
	t.Helper()
	all := Run(text)
	lines, answers := strings.SplitAfter(text, "\n"), strings.SplitAfter(all, "\n")
	for n := range lines {
		first, want := strings.Join(lines[:n], ""), strings.Join(answers[:n], "")
		wantText(t, first, want)
		// So, too, where the last of them does not end.
		if n > 0 && lines[n-1] != "\n" {
			wantText(t, strings.TrimSuffix(first, "\n"), want)
		}
	}
}

func TestBeginnings(t *testing.T) {
	r := rand.New(rand.NewSource(21))
	for range 200 {
		wantBeginnings(t, randomText(r, 1+r.Intn(30)))
	}
	wantBeginnings(t, strings.Repeat("sum ff\n", 428))
}

// A text that is too long is answered as a whole; its first lines are not.
func TestBeginningsOfWhatIsTooLong(t *testing.T) {
	text := strings.Repeat("add 1 1\ncount 1\n", 188)
	wantText(t, text, "too long\n")
	if got := Run(text[:3000]); !strings.HasPrefix(got, "ok\n1 0\nok\n2 0\n") || !strings.HasSuffix(got, "ok\n187 0\nok\n") {
		t.Errorf("got %q", got)
	}
}

func FuzzRun(f *testing.F) {
	r := rand.New(rand.NewSource(22))
	for range 20 {
		f.Add(randomText(r, 12))
	}
	f.Fuzz(func(t *testing.T, text string) {
		if got, want := Run(text), slowRun(text); got != want {
			t.Fatalf("%q: got %q, want %q", text, got, want)
		}
		if len(text) <= 3000 {
			wantBeginnings(t, text)
		}
	})
}
