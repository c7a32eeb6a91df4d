package diff

import (
	"math/rand"
	"slices"
	"strconv"
	"strings"
	"testing"

	"portcullis/api"
	"portcullis/plain"
)

// A slow diff, as the chapter's words have it, over lists told as letters.

// within tells whether all of s are in l, in order.
func within(s, l string) bool {
	for i := range len(s) {
		_, behind, is := strings.Cut(l, s[i:i+1])
		if !is {
			return false
		}
		l = behind
	}
	return true
}

// slowCommon tries all that leaving out of a list may bring.
func slowCommon(a, b string) int {
	most := 0
	for chosen := range 1 << len(a) {
		var s []byte
		for i := range len(a) {
			if chosen>>i&1 == 1 {
				s = append(s, a[i])
			}
		}
		if len(s) > most && within(string(s), b) {
			most = len(s)
		}
	}
	return most
}

// slowDiff answers words of edits.
func slowDiff(a, b string) string {
	var words []string
	at := 0
	tell := func(sign, letter string) {
		words = append(words, sign+strconv.Itoa(at)+letter)
	}
	for a != "" || b != "" {
		switch {
		case a != "" && b != "" && a[0] == b[0]:
			a, b = a[1:], b[1:]
			at++
		case a != "" && slowCommon(a[1:], b) == slowCommon(a, b):
			tell("-", a[:1])
			a = a[1:]
		default:
			tell("+", b[:1])
			b = b[1:]
			at++
		}
	}
	return strings.Join(words, " ")
}

// slowApply does edits to a list that may have any length.
func slowApply(l string, edits []api.Edit) (string, api.Errno) {
	if len(edits) > 200 {
		return "", api.ErrFull
	}
	if len(l) > 20 {
		return "", api.ErrFull
	}
	for _, e := range edits {
		if e.At < 0 || e.At > len(l) {
			return "", api.ErrRange
		}
		ahead, behind := l[:e.At], l[e.At:]
		letter := string(rune(e.Rule.Src.Addr))
		switch {
		case e.Put:
			l = ahead + letter + behind
		case behind == "":
			return "", api.ErrRange
		case behind[:1] != letter:
			return "", api.ErrState
		default:
			l = ahead + behind[1:]
		}
	}
	if len(l) > 20 {
		return "", api.ErrFull
	}
	return l, api.OK
}

// short are all lists of up to so many of some letters, the shorter ones first.
func short(of string, most int) []string {
	all := []string{""}
	last := all
	for range most {
		var next []string
		for _, l := range last {
			for i := range len(of) {
				next = append(next, l+of[i:i+1])
			}
		}
		all, last = append(all, next...), next
	}
	return all
}

// some are letters, chosen by chance.
func some(r *rand.Rand, of string, many int) string {
	b := make([]byte, many)
	for i := range b {
		b[i] = of[r.Intn(len(of))]
	}
	return string(b)
}

// wantAsSlow holds Common and Diff against the slow ones, and does and undoes what Diff says.
func wantAsSlow(t *testing.T, a, b string) {
	t.Helper()
	la, lb := rulesOf(a), rulesOf(b)
	what := a + " and " + b
	want := editsOf(slowDiff(a, b))
	wantCommon(t, what, la, lb, slowCommon(a, b))
	wantDiff(t, what, la, lb, want)
	wantApplied(t, what, la, want, lb)
	wantApplied(t, what+", turned", lb, Turn(want), la)
}

func TestAllShort(t *testing.T) {
	lists := append(short("abc", 3), short("ab", 5)...)
	for _, a := range lists {
		for _, b := range lists {
			wantAsSlow(t, a, b)
		}
	}
}

func TestRandomDiffs(t *testing.T) {
	r := rand.New(rand.NewSource(19))
	for range 1500 {
		of := letters[:1+r.Intn(5)]
		wantAsSlow(t, some(r, of, r.Intn(10)), some(r, of, r.Intn(21)))
	}
}

// TestFewest: there is no way by fewer edits, looked for from each list on, over all short ones.
func TestFewest(t *testing.T) {
	const of, most = "ab", 4
	for _, a := range short(of, most) {
		far := map[string]int{a: 0}
		for reached := []string{a}; len(reached) > 0; reached = reached[1:] {
			l := reached[0]
			for _, next := range oneOn(l, of) {
				// No short way goes over lists that have far more than either end.
				if _, known := far[next]; !known && len(next) <= most+2 {
					far[next] = far[l] + 1
					reached = append(reached, next)
				}
			}
		}
		for _, b := range short(of, most) {
			if got, err := Diff(rulesOf(a), rulesOf(b)); len(got) != far[b] || err != nil {
				t.Errorf("Diff of %s and %s: got %d edits, %v, want %d", a, b, len(got), err, far[b])
			}
		}
	}
}

// oneOn are the lists that one edit makes of a list.
func oneOn(l, of string) []string {
	var all []string
	for at := range len(l) + 1 {
		for i := range len(of) {
			all = append(all, l[:at]+of[i:i+1]+l[at:])
		}
		if at < len(l) {
			all = append(all, l[:at]+l[at+1:])
		}
	}
	return all
}

// TestRandomLong: long lists, of which the slow ones would take too long.
func TestRandomLong(t *testing.T) {
	r := rand.New(rand.NewSource(20))
	for range 3000 {
		of := letters[:1+r.Intn(len(letters))]
		a, b := some(r, of, r.Intn(21)), some(r, of, r.Intn(21))
		if r.Intn(2) == 0 {
			b = spoilt(r, a, of)
		}
		la, lb := rulesOf(a), rulesOf(b)
		l, err := Diff(la, lb)
		if err != nil {
			t.Fatalf("Diff of %s and %s: %v", a, b, err)
		}
		wantApplied(t, a+" and "+b, la, l, lb)
		wantApplied(t, a+" and "+b+", turned", lb, Turn(l), la)
		kept := (len(a) + len(b) - len(l)) / 2
		wantCommon(t, a+" and "+b, la, lb, kept)
		wantCommon(t, b+" and "+a, lb, la, kept)
	}
}

// spoilt is a list with some left out, and others put in.
func spoilt(r *rand.Rand, l, of string) string {
	for range r.Intn(6) {
		at := r.Intn(len(l) + 1)
		if r.Intn(2) == 0 && len(l) < api.MaxRules {
			l = l[:at] + some(r, of, 1) + l[at:]
		} else if at < len(l) {
			l = l[:at] + l[at+1:]
		}
	}
	return l
}

// TestRandomEdits: edits that are mostly right, and undone if all of them are.
func TestRandomEdits(t *testing.T) {
	r := rand.New(rand.NewSource(21))
	count := map[api.Errno]int{}
	for range 5000 {
		a := some(r, "abc", r.Intn(22))
		l := randomEdits(r, a)
		want, how := slowApply(a, l)
		count[how]++
		got, err := Apply(rulesOf(a), l)
		if said(got) != said(rulesOf(want)) || plain.Told(err) != how {
			t.Errorf("Apply of %s by %v: got %v, %v, want %s, %v", a, l, got, err, want, how)
		}
		if how == api.OK {
			wantApplied(t, a+", done and turned", got, Turn(l), rulesOf(a))
		}
	}
	for _, how := range []api.Errno{api.OK, api.ErrFull, api.ErrRange, api.ErrState} {
		if count[how] < 100 {
			t.Errorf("only %d of %v", count[how], how)
		}
	}
}

// randomEdits are ones of which now and then one is wrong.
func randomEdits(r *rand.Rand, l string) []api.Edit {
	var edits []api.Edit
	for range r.Intn(12) {
		at, put, letter := r.Intn(len(l)+1), r.Intn(2) == 0, some(r, "abc", 1)
		if !put && at < len(l) && r.Intn(20) > 0 {
			letter = l[at : at+1]
		}
		if r.Intn(40) == 0 {
			at += r.Intn(5) - 2
		}
		e := api.Edit{At: at, Put: put, Rule: ruleOf(letter[0])}
		edits = append(edits, e)
		if now, how := slowApply(l, []api.Edit{e}); how == api.OK {
			l = now
		}
	}
	if r.Intn(30) == 0 {
		edits = slices.Concat(edits, again(95+r.Intn(8)))
	}
	return edits
}
