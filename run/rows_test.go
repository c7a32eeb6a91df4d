package run

import (
	"strconv"
	"strings"
	"testing"
)

// Z1: sum

func TestSum(t *testing.T) {
	wantEach(t,
		said{"sum ", "65535"}, said{"sum 00", "65535"}, said{"sum ff", "255"}, said{"sum 0001", "65534"}, said{"sum 0100", "65279"},
		said{"sum 01", "65279"}, said{"sum ffff", "0"}, said{"sum 0000ffff", "0"}, said{"sum ffffffff", "0"}, said{"sum 000102", "65022"},
		said{"sum 0123456789abcdef", "25050"}, said{"sum abcdef", "25905"},
	)
}

func TestNoHex(t *testing.T) {
	for _, word := range []string{
		"0", "f", "fff", "00000", "zz", "0g", "g0", "FF", "fF", "Ff", "0A", "0x", "0xff", "-1", "+1", "1_", "0.", "..", "0/", "0:", "0@", "0`",
		"00\t\t", "\u00e9", "ff\xff", "\x00\x00", "f\xff", "\xffff", "00 ", " 00", "0 0",
	} {
		wantEach(t, said{"sum " + word, "bad"})
	}
}

// Every byte there is, and every two bytes that are, or are not, two digits.
func TestHexOfTwo(t *testing.T) {
	for n := range 1 << 16 {
		word := string([]byte{byte(n >> 8), byte(n)})
		want := "bad"
		if strings.Trim(word, "0123456789abcdef") == "" {
			value, err := strconv.ParseUint(word, 16, 8)
			if err != nil {
				t.Fatal(err)
			}
			want = strconv.Itoa(65535 - int(value)<<8)
		}
		if strings.Contains(word, "\n") {
			continue
		}
		wantEach(t, said{"sum " + word, want})
	}
}

// Z1: has

func TestHas(t *testing.T) {
	wantEach(t,
		said{"has any 0.0.0.0", "yes"}, said{"has any 255.255.255.255", "yes"},
		said{"has 10.0.0.0/8 10.255.255.255", "yes"}, said{"has 10.0.0.0/8 11.0.0.0", "no"}, said{"has 10.0.0.0/8 9.255.255.255", "no"},
		said{"has 1.2.3.4 1.2.3.4", "yes"}, said{"has 1.2.3.4 1.2.3.5", "no"}, said{"has 1.2.3.4/32 1.2.3.4", "yes"},
		said{"has 128.0.0.0/1 127.255.255.255", "no"}, said{"has 128.0.0.0/1 128.0.0.0", "yes"},
	)
}

func TestHasRefuses(t *testing.T) {
	wantEach(t,
		said{"has 0.0.0.0/0 1.2.3.4", "ErrSyntax"}, said{"has 1.2.3.5/31 1.2.3.5", "ErrSyntax"}, said{"has 1.2.3.4/33 1.2.3.4", "ErrSyntax"},
		said{"has ANY 1.2.3.4", "ErrSyntax"}, said{"has any any", "ErrSyntax"}, said{"has any 1.2.3.4/32", "ErrSyntax"},
		said{"has any 256.0.0.0", "ErrSyntax"}, said{"has any 01.2.3.4", "ErrSyntax"}, said{"has 1.2.3 1.2.3", "ErrSyntax"},
	)
}

// Z1: range

func TestRange(t *testing.T) {
	wantEach(t,
		said{"range 0.0.0.0 255.255.255.255", "any"},
		said{"range 1.2.3.4 1.2.3.4", "1.2.3.4/32"},
		said{"range 0.0.0.5 0.0.0.33", "0.0.0.5/32 0.0.0.6/31 0.0.0.8/29 0.0.0.16/28 0.0.0.32/31"},
		said{"range 0.0.0.0 127.255.255.255", "0.0.0.0/1"},
		said{"range 255.255.255.254 255.255.255.255", "255.255.255.254/31"},
		said{"range 0.0.0.2 0.0.0.1", "ErrRange"}, said{"range 255.255.255.255 0.0.0.0", "ErrRange"},
		said{"range any 1.2.3.4", "ErrSyntax"}, said{"range 1.2.3.4 any", "ErrSyntax"}, said{"range 0.0.0.0/32 1.2.3.4", "ErrSyntax"}, said{"range 0 1", "ErrSyntax"},
	)
}

func TestRangeOfTheMostPrefixes(t *testing.T) {
	got := Run("range 0.0.0.1 255.255.255.254\n")
	words := strings.Split(strings.TrimSuffix(got, "\n"), " ")
	if len(words) != 62 || words[0] != "0.0.0.1/32" || words[30] != "64.0.0.0/2" || words[31] != "128.0.0.0/2" || words[61] != "255.255.255.254/32" {
		t.Errorf("got %q", got)
	}
}

// Z1: ports

func TestPorts(t *testing.T) {
	wantEach(t,
		said{"ports -", "0-65535"}, said{"ports 0-65535", "-"}, said{"ports 0", "1-65535"}, said{"ports 65535", "0-65534"},
		said{"ports 1-65535", "0"}, said{"ports 0-65534", "65535"}, said{"ports 80,443", "0-79,81-442,444-65535"}, said{"ports 5-7,9", "0-4,8,10-65535"},
	)
	for _, spans := range []string{"any", "7,5", "5,6", "5-5", "7-5", "5-6,7", "05", "65536", "-1", "--", "5-", "-5", ",", "5,", ",5", "5,,7", "5;7", "1-65536"} {
		wantEach(t, said{"ports " + spans, "ErrSyntax"})
	}
}

// lone are as many spans of one port each, with a gap of one between, from 1 on, and those that are none of them.
func lone(n int) (spans, others string) {
	var ones, rest []string
	for i := range n {
		ones, rest = append(ones, strconv.Itoa(2*i+1)), append(rest, strconv.Itoa(2*i))
	}
	return strings.Join(ones, ","), strings.Join(append(rest, strconv.Itoa(2*n)+"-65535"), ",")
}

// The ports of none may be more spans than Print takes.
func TestPortsFull(t *testing.T) {
	spans, others := lone(199)
	wantEach(t, said{"ports " + spans, others})
	spans, others = lone(200)
	wantEach(t, said{"ports " + spans, "ErrFull"})
	wantEach(t, said{"ports 0," + strings.TrimPrefix(spans, "1,"), "1-2," + strings.TrimPrefix(others, "0,2,")})
	spans, _ = lone(201)
	wantEach(t, said{"ports " + spans, "ErrSyntax"})
}

// Z1: put, find

func TestPutAndFind(t *testing.T) {
	wantAll(t,
		said{"find 10.1.2.3", "ErrNone"},
		said{"put 10.0.0.0/8 5", "yes"},
		said{"find 10.1.2.3", "5"}, said{"find 11.0.0.0", "ErrNone"},
		said{"put 10.1.0.0/16 -7", "yes"},
		said{"find 10.1.2.3", "-7"}, said{"find 10.2.0.0", "5"},
		said{"put 10.1.0.0/16 0", "no"},
		said{"find 10.1.2.3", "0"},
		said{"put any 999999999", "yes"},
		said{"find 11.0.0.0", "999999999"}, said{"find 10.1.2.3", "0"},
		said{"put 10.1.2.3 3", "yes"}, said{"put 10.1.2.3/32 4", "no"},
		said{"find 10.1.2.3", "4"}, said{"find 10.1.2.4", "0"},
	)
}

func TestPutAndFindRefuse(t *testing.T) {
	wantAll(t,
		said{"put 10.0.0.1/8 5", "ErrSyntax"}, said{"put 0.0.0.0/0 5", "ErrSyntax"}, said{"put 10.0.0 5", "ErrSyntax"}, said{"put any 5x", "bad"},
		said{"put any 1000000000", "bad"},
		said{"find 10.0.0.1", "ErrNone"}, said{"find any", "ErrSyntax"}, said{"find 10.0.0.1/32", "ErrSyntax"}, said{"find 256.0.0.1", "ErrSyntax"},
		said{"put any 1", "yes"}, said{"put any x", "bad"}, said{"put any", "bad"}, said{"put any 2 3", "bad"},
		said{"find 10.0.0.1", "1"},
	)
}

func TestPutFull(t *testing.T) {
	var all []said
	for i := range 200 {
		all = append(all, said{"put " + strconv.Itoa(i/100) + "." + strconv.Itoa(i/10%10) + ".0." + strconv.Itoa(i%10) + " 0", "yes"})
	}
	wantAll(t, append(all,
		said{"put any 7", "ErrFull"}, said{"find 9.9.9.9", "ErrNone"},
		said{"put 0.0.0.0 8", "no"}, said{"find 0.0.0.0", "8"}, said{"put 1.9.0.9 3", "no"}, said{"find 1.9.0.9", "3"})...)
}

// Z1: rule

// judged is a line that judges a key of Stream that goes in.
const judged = "judge 1 10.0.0.1 5000 10.0.0.2 80 1"

func TestRule(t *testing.T) {
	wantAll(t,
		said{judged, "pass -1"},
		said{"rule block from any to any", "ok"}, said{judged, "block 0"},
		said{"rule pass from any to any", "ok"}, said{judged, "pass 1"},
		said{"rule pass in kind stream from any to 10.0.0.2/32 port 80 keep", "ok"}, said{judged, "keep 2"},
		said{"rule block out from any to any", "ok"}, said{judged, "keep 2"},
		said{"rule block quick in kind stream from 10.0.0.0/8 port 5000-5001,6000 to any", "ok"}, said{judged, "block 4"},
		said{"rule pass from any to any", "ok"}, said{judged, "block 4"},
	)
}

// What chapter 8 does not read is told by its error, and no rule more is there.
func TestRuleRefused(t *testing.T) {
	spans := "1,3,5,7,9,11,13,15,17,19,21"
	for _, s := range []said{
		{"rule ", "ErrSyntax"}, {"rule  ", "ErrSyntax"}, {"rule pass", "ErrSyntax"}, {"rule block", "ErrSyntax"}, {"rule block from any", "ErrSyntax"},
		{"rule block  from any to any", "ErrSyntax"}, {"rule  block from any to any", "ErrSyntax"}, {"rule block from any to any ", "ErrSyntax"},
		{"rule block from any to any\r", "ErrSyntax"}, {"rule rule block from any to any", "ErrSyntax"}, {"rule Block from any to any", "ErrSyntax"},
		{"rule block from 10.0.0.1 to any", "ErrSyntax"}, {"rule block from 10.0.0.1/8 to any", "ErrSyntax"}, {"rule block in out from any to any", "ErrSyntax"},
		{"rule block kind stream from any port - to any", "ErrSyntax"}, {"rule block kind stream from any port 5,4 to any", "ErrSyntax"}, {"rule block from any to any any", "ErrSyntax"},
		{"rule let a = block", "ErrSyntax"}, {"rule block from {any} to any", "ErrSyntax"},
		{"rule block from any to any keep", "ErrShape"}, {"rule block from any port 5 to any", "ErrShape"}, {"rule block kind echo from any to any port 5", "ErrShape"},
		{"rule block kind single from any port " + spans + " to any", "ErrFull"}, {"rule block kind stream from any to any port " + spans, "ErrFull"},
		{"rule", "bad"}, {"rules block from any to any", "bad"}, {"Rule block from any to any", "bad"}, {" rule block from any to any", "bad"}, {"rule\tblock from any to any", "bad"},
	} {
		wantAll(t, s, said{judged, "pass -1"}, said{"rule pass from any to any", "ok"}, s, said{judged, "pass 0"}, said{"rule block from any to any", "ok"}, said{judged, "block 1"})
	}
	wantEach(t, said{"rule block kind stream from any to any port " + strings.TrimSuffix(spans, ",21"), "ok"})
}

func TestRuleFull(t *testing.T) {
	var all []said
	for range 20 {
		all = append(all, said{"rule pass from any to any", "ok"})
	}
	wantAll(t, append(all,
		said{judged, "pass 19"},
		said{"rule block from any to any", "ErrFull"}, said{"rule pass from any to any", "ErrFull"},
		said{"rule block", "ErrSyntax"}, said{"rule block from any to any keep", "ErrShape"},
		said{judged, "pass 19"})...)
}

// Z1: judge

func TestJudge(t *testing.T) {
	wantAll(t,
		said{"rule block kind stream from 10.0.0.1/32 port 7 to 20.0.0.0/8 port 9", "ok"},
		said{"rule pass out kind single from any to any keep", "ok"},
		said{"judge 1 10.0.0.1 7 20.1.1.1 9 1", "block 0"}, said{"judge 1 10.0.0.1 7 20.1.1.1 9 2", "block 0"},
		said{"judge 1 10.0.0.2 7 20.1.1.1 9 1", "pass -1"}, said{"judge 1 10.0.0.1 8 20.1.1.1 9 1", "pass -1"},
		said{"judge 1 10.0.0.1 7 21.1.1.1 9 1", "pass -1"}, said{"judge 1 10.0.0.1 7 20.1.1.1 10 1", "pass -1"},
		said{"judge 1 20.1.1.1 9 10.0.0.1 7 1", "pass -1"}, said{"judge 3 10.0.0.1 7 20.1.1.1 9 1", "pass -1"},
		said{"judge 2 10.0.0.1 7 20.1.1.1 9 2", "keep 1"}, said{"judge 2 10.0.0.1 7 20.1.1.1 9 1", "pass -1"},
		said{"judge 0 0.0.0.0 0 0.0.0.0 0 1", "pass -1"}, said{"judge 15 255.255.255.255 65535 255.255.255.255 65535 2", "pass -1"},
	)
}

func TestJudgeRefuses(t *testing.T) {
	wantEach(t,
		said{"judge -1 0.0.0.1 2 0.0.0.3 4 1", "ErrRange"}, said{"judge 16 0.0.0.1 2 0.0.0.3 4 1", "ErrRange"},
		said{"judge 1 0.0.0.1 -1 0.0.0.3 4 1", "ErrRange"}, said{"judge 1 0.0.0.1 65536 0.0.0.3 4 1", "ErrRange"},
		said{"judge 1 0.0.0.1 2 0.0.0.3 -1 1", "ErrRange"}, said{"judge 1 0.0.0.1 2 0.0.0.3 65536 1", "ErrRange"},
		said{"judge 1 0.0.0.1 2 0.0.0.3 4 0", "ErrRange"}, said{"judge 1 0.0.0.1 2 0.0.0.3 4 3", "ErrRange"}, said{"judge 1 0.0.0.1 2 0.0.0.3 4 -1", "ErrRange"},
		said{"judge 1 any 2 0.0.0.3 4 1", "ErrSyntax"}, said{"judge 1 0.0.0.1 2 0.0.0.3/32 4 1", "ErrSyntax"},
		said{"judge stream 0.0.0.1 2 0.0.0.3 4 1", "bad"}, said{"judge 1 0.0.0.1 2 0.0.0.3 4 in", "bad"}, said{"judge 1 0.0.0.1 2-3 0.0.0.3 4 1", "bad"},
	)
}

// Z1: add, count

// The Heavy keeps three counts; a fourth key takes of all of them.
func TestAddAndCount(t *testing.T) {
	wantAll(t,
		said{"count 1", "0 0"},
		said{"add 1 10", "ok"}, said{"add -2 20", "ok"}, said{"add 999999999 30", "ok"}, said{"add 1 5", "ok"},
		said{"count 1", "15 0"}, said{"count -2", "20 0"}, said{"count 999999999", "30 0"}, said{"count 4", "0 0"},
		said{"add 4 6", "ok"},
		said{"count 1", "9 6"}, said{"count -2", "14 6"}, said{"count 999999999", "24 6"}, said{"count 4", "0 6"},
		said{"add 4 11", "ok"},
		said{"count 1", "0 15"}, said{"count -2", "5 15"}, said{"count 999999999", "15 15"}, said{"count 4", "2 15"},
		said{"add 0 1000000", "ok"}, said{"count 0", "999998 17"}, said{"count 4", "0 17"}, said{"count -2", "3 17"},
	)
}

func TestAddRefuses(t *testing.T) {
	wantAll(t,
		said{"add 1 0", "ErrRange"}, said{"add 1 -1", "ErrRange"}, said{"add 1 1000001", "ErrRange"}, said{"add 1 999999999", "ErrRange"},
		said{"add 1 1000000000", "bad"}, said{"add 1 x", "bad"}, said{"add x 1", "bad"}, said{"add 1", "bad"}, said{"add 1 1 1", "bad"}, said{"add 1 1_0", "bad"},
		said{"count 1", "0 0"},
		said{"add 1 1", "ok"}, said{"add 1 1000000", "ok"}, said{"count 1", "1000001 0"},
	)
}

// The rules, the Trie and the Heavy are one text's: each has its own, and nothing of it is there in the next one.
func TestTextsAreApart(t *testing.T) {
	set := []said{{"rule block from any to any", "ok"}, {"put any 7", "yes"}, {"add 1 5", "ok"}}
	ask := func(judge, find, count string) []said {
		return []said{{judged, judge}, {"find 1.2.3.4", find}, {"count 1", count}}
	}
	for range 3 {
		wantAll(t, ask("pass -1", "ErrNone", "0 0")...)
		wantAll(t, append(set, ask("block 0", "7", "5 0")...)...)
	}
}
