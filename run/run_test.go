package run

import (
	"strconv"
	"strings"
	"testing"
)

// said is a line, and what is answered to it.
type said struct{ line, answer string }

// wantAll wants the answers to lines that come one behind the other in one text.
func wantAll(t *testing.T, all ...said) {
	t.Helper()
	var lines, answers []string
	for _, s := range all {
		lines, answers = append(lines, s.line), append(answers, s.answer)
	}
	got := strings.Split(Run(strings.Join(lines, "\n")+"\n"), "\n")
	if len(got) != len(all)+1 || got[len(all)] != "" {
		t.Fatalf("%d lines are answered by %q", len(all), got)
	}
	for i, answer := range answers {
		if got[i] != answer {
			t.Errorf("line %d, %q: got %q, want %q", i, lines[i], got[i], answer)
		}
	}
}

// wantEach wants the answers to lines each of which is a text of its own.
func wantEach(t *testing.T, all ...said) {
	t.Helper()
	for _, s := range all {
		wantAll(t, s)
	}
}

func wantText(t *testing.T, text, want string) {
	t.Helper()
	if got := Run(text); got != want {
		t.Errorf("%q: got %q, want %q", text, got, want)
	}
}

// good is a line of each row that has a number of words of its own, and what is answered to it alone.
var good = []said{
	{"sum 0102", "65277"},
	{"has 10.0.0.0/8 10.1.2.3", "yes"},
	{"range 0.0.0.1 0.0.0.2", "0.0.0.1/32 0.0.0.2/32"},
	{"ports 1-65535", "0"},
	{"put 10.0.0.0/8 5", "yes"},
	{"find 10.1.2.3", "ErrNone"},
	{"judge 1 0.0.0.1 2 0.0.0.3 4 1", "pass -1"},
	{"add 7 9", "ok"},
	{"count 7", "0 0"},
}

// Z1: a text

func TestTooLong(t *testing.T) {
	wantText(t, strings.Repeat("\n", 3000), strings.Repeat("bad\n", 3000))
	line := "sum " + strings.Repeat("0", 2996)
	wantText(t, line, "65535\n")
	wantText(t, line[:2999]+"\n", "bad\n")
	for _, text := range []string{
		line + "0", line + "\n", "\n" + line,
		strings.Repeat("\n", 3001), strings.Repeat("x", 3001), strings.Repeat("sum ff\n", 429),
		strings.Repeat("\x00\xff", 2000), strings.Repeat("sum ff\n", 100_000),
	} {
		wantText(t, text, "too long\n")
	}
}

// Bytes are counted, and not what they are read as.
func TestTooLongIsOfBytes(t *testing.T) {
	wantText(t, strings.Repeat("\u00e9", 1500), "bad\n")
	wantText(t, strings.Repeat("\u00e9", 1501), "too long\n")
}

func TestLinesOfAText(t *testing.T) {
	for text, want := range map[string]string{
		"":                  "",
		"\n":                "bad\n",
		"\n\n":              "bad\nbad\n",
		"sum ff":            "255\n",
		"sum ff\n":          "255\n",
		"sum ff\n\n":        "255\nbad\n",
		"\nsum ff":          "bad\n255\n",
		"sum ff\nsum 00":    "255\n65535\n",
		"sum ff\r\nsum 00":  "bad\n65535\n",
		"sum ff\rsum 00":    "bad\n",
		"sum ff\vsum 00":    "bad\n",
		"sum ff\x00\n":      "bad\n",
		"sum ff\u2028\n":    "bad\n",
		"sum ff\u0085\n ":   "bad\nbad\n",
		" ":                 "bad\n",
		"rule ":             "ErrSyntax\n",
		"find \n":           "ErrSyntax\n",
		"sum \nsum \n":      "65535\n65535\n",
		"\xff\xfe\nsum ff":  "bad\n255\n",
		"fly\nflee\nsum ff": "bad\nbad\n255\n",
	} {
		wantText(t, text, want)
	}
}

func TestGoodLines(t *testing.T) {
	wantEach(t, good...)
}

// Z1: words

func TestNoSuchLine(t *testing.T) {
	for _, s := range good {
		word, rest, _ := strings.Cut(s.line, " ")
		for _, other := range []string{
			"", " " + word, strings.ToUpper(word), strings.ToUpper(word[:1]) + word[1:], word + "s", word[1:], word[:len(word)-1],
			word + "\t", "\t" + word, "\x00" + word, "fly", word + word,
		} {
			wantEach(t, said{other + " " + rest, "bad"})
		}
	}
	wantEach(t, said{"drop 10.0.0.0/8", "bad"}, said{"top 1", "bad"}, said{"rules pass from any to any", "bad"}, said{"-", "bad"})
}

// A line with a word more or less is bad, whatever its other words are.
func TestAsManyWordsAsTheRowSays(t *testing.T) {
	for _, s := range good {
		words := strings.Split(s.line, " ")
		for many := range 10 {
			for _, fill := range []string{"", "1", "0.0.0.1", "any", "zz", "ff"} {
				line := words[0] + strings.Repeat(" "+fill, many)
				if many != len(words)-1 {
					wantEach(t, said{line, "bad"})
				}
			}
			if many < len(words)-1 {
				wantEach(t, said{strings.Join(words[:many+1], " "), "bad"})
			}
		}
		for i := range len(words) + 1 {
			more := strings.Join(words[:i], " ") + "  " + strings.Join(words[i:], " ")
			wantEach(t, said{more, "bad"})
		}
		wantEach(t, said{s.line + " ", "bad"}, said{" " + s.line, "bad"}, said{strings.ReplaceAll(s.line, " ", "\t"), "bad"})
	}
}

// A word may be empty, and is read as the others are.
func TestEmptyWords(t *testing.T) {
	wantEach(t,
		said{"sum ", "65535"},
		said{"has  1.2.3.4", "ErrSyntax"}, said{"has any ", "ErrSyntax"}, said{"has  ", "ErrSyntax"},
		said{"range  1.2.3.4", "ErrSyntax"}, said{"range 1.2.3.4 ", "ErrSyntax"}, said{"range  ", "ErrSyntax"},
		said{"ports ", "ErrSyntax"},
		said{"put  1", "ErrSyntax"}, said{"put any ", "bad"},
		said{"find ", "ErrSyntax"},
		said{"judge  0.0.0.1 2 0.0.0.3 4 1", "bad"}, said{"judge 1  2 0.0.0.3 4 1", "ErrSyntax"},
		said{"judge 1 0.0.0.1  0.0.0.3 4 1", "bad"}, said{"judge 1 0.0.0.1 2  4 1", "ErrSyntax"},
		said{"judge 1 0.0.0.1 2 0.0.0.3  1", "bad"}, said{"judge 1 0.0.0.1 2 0.0.0.3 4 ", "bad"},
		said{"add  9", "bad"}, said{"add 7 ", "bad"}, said{"add  ", "bad"},
		said{"count ", "bad"},
	)
}

// Of several words that cannot be read the first is told of.
func TestFirstWordThatCannotBeRead(t *testing.T) {
	wantEach(t,
		said{"put 1.2.3 x", "ErrSyntax"},
		said{"put any/0 01", "ErrSyntax"},
		said{"judge x 1.2.3 2 0.0.0.3 4 1", "bad"},
		said{"judge 1 1.2.3 x 0.0.0.3 4 1", "ErrSyntax"},
		said{"judge 1 0.0.0.1 x 0.0.3 4 1", "bad"},
		said{"judge 1 0.0.0.1 2 0.0.3 x 1", "ErrSyntax"},
		said{"judge 1 0.0.0.1 2 0.0.3 4 x", "ErrSyntax"},
	)
}

// What cannot be read is told of also where a word ahead of it is out of its bounds.
func TestUnreadAheadOfOutOfBounds(t *testing.T) {
	wantEach(t,
		said{"judge 16 0.0.0.1 2 0.0.0.3 4 x", "bad"},
		said{"judge -1 0.0.0.1 2 0.0.3 4 1", "ErrSyntax"},
		said{"add 7 00", "bad"},
		said{"add x 0", "bad"},
		said{"range 0.0.0.2 0.0.1", "ErrSyntax"},
	)
}

// N, by Put and Find, which take any.
func TestNumber(t *testing.T) {
	for _, n := range []string{"0", "1", "-1", "9", "10", "-10", "100", "65536", "12345678", "123456789", "-123456789", "999999999", "-999999999", "100000000", "-100000000"} {
		wantAll(t, said{"put any " + n, "yes"}, said{"find 1.2.3.4", n})
		wantEach(t, said{"count " + n, "0 0"})
	}
	for _, n := range []string{
		"", "-", "--1", "+1", "+", "-0", "+0", "00", "01", "-01", "-00", "000000000", "0000000001", "-0000000001",
		"1000000000", "-1000000000", "1234567890", "9999999999", "0999999999", "99999999999999999999999999", "-9223372036854775809",
		"9223372036854775807", "-9223372036854775808", "18446744073709551617", "4294967297",
		"1_0", "0x1", "1e3", "1.0", "1.", "a", "1a", "a1", "1-", "1-2", "1,0", "\t1", "1\r", "\u0661", "1\x00", "\xff", "\u22121", "0b1", "0o7",
	} {
		wantEach(t, said{"put any " + n, "bad"}, said{"count " + n, "bad"}, said{"add " + n + " 1", "bad"}, said{"add 1 " + n, "bad"})
		for i := range 4 {
			words := []string{"1", "1", "1", "1"}
			words[i] = n
			wantEach(t, said{"judge " + words[0] + " 0.0.0.1 " + words[1] + " 0.0.0.1 " + words[2] + " " + words[3], "bad"})
		}
	}
}

// All short words of the bytes that a number may have are numbers just where they are written so.
func TestShortNumbers(t *testing.T) {
	are := map[string]bool{}
	for n := -9999; n <= 9999; n++ {
		are[strconv.Itoa(n)] = true
	}
	for _, word := range wordsOf("01-+9", 4) {
		_, err := number(word)
		if is := err == nil; is != are[word] {
			t.Errorf("%q: a number: %v", word, is)
		}
	}
}

// wordsOf are all words of some bytes, of up to so many.
func wordsOf(bytes string, most int) []string {
	all, last := []string{""}, []string{""}
	for range most {
		var next []string
		for _, word := range last {
			for i := range len(bytes) {
				next = append(next, word+bytes[i:i+1])
			}
		}
		all, last = append(all, next...), next
	}
	return all
}
