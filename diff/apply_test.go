package diff

import (
	"fmt"
	"slices"
	"strings"
	"testing"

	"portcullis/api"
)

// D1: Apply

func TestApply(t *testing.T) {
	for _, c := range []struct{ a, edits, want string }{
		{"", "", ""},
		{"abc", "", "abc"},
		{"", "+0a", "a"},
		{"abc", "+0x", "xabc"},
		{"abc", "+1x", "axbc"},
		{"abc", "+2x", "abxc"},
		{"abc", "+3x", "abcx"},
		{"abc", "-0a", "bc"},
		{"abc", "-1b", "ac"},
		{"abc", "-2c", "ab"},
		{"a", "-0a", ""},
		// The second one finds what the first one left.
		{"abc", "-0a -0b", "c"},
		{"abc", "-0a -1c", "b"},
		{"abc", "-2c -1b", "a"},
		{"abc", "+0x +0y", "yxabc"},
		{"abc", "+0x +1y", "xyabc"},
		{"abc", "+3x +4y", "abcxy"},
		{"abc", "+1x -0a", "xbc"},
		{"abc", "+1x -2b", "axc"},
		{"abc", "-1b +1b", "abc"},
		{"abc", "-1b +0b", "bac"},
		{"abc", "+1x -1x", "abc"},
		{"", "+0a -0a +0b +0c -1b +1d", "cd"},
		// They need not be the fewest, nor in order, and rules may be there twice.
		{"aaa", "-1a", "aa"},
		{"aba", "+1a -0a", "aba"},
		{"ab", "+2a +3b -0a -0b", "ab"},
		{letters[:19], "+19t", letters[:20]},
		{letters[:20], "-0a +19u", letters[1:21]},
	} {
		wantApplied(t, c.a+" by "+c.edits, rulesOf(c.a), editsOf(c.edits), rulesOf(c.want))
	}
}

// TestApplyAt: At is from 0 to how many there are, less 1 if it goes.
func TestApplyAt(t *testing.T) {
	for _, there := range []string{"", "a", "aaa", strings.Repeat("a", 20)} {
		a, n := rulesOf(there), len(there)
		for _, ahead := range []string{"", "+0a +0a", "+0a -0a"} {
			before := editsOf(ahead)
			many := n + strings.Count(ahead, "+") - strings.Count(ahead, "-")
			do := func(at int, put bool) []api.Edit {
				return append(slices.Clone(before), api.Edit{At: at, Put: put, Rule: ruleOf('a')})
			}
			for _, at := range outside(0, many) {
				wantNotApplied(t, fmt.Sprint("a put at ", at, " of ", many), a, do(at, true), api.ErrRange)
			}
			for _, at := range outside(0, many-1) {
				wantNotApplied(t, fmt.Sprint("a going at ", at, " of ", many), a, do(at, false), api.ErrRange)
			}
			for at := range many + 1 {
				if many < api.MaxRules {
					wantApplied(t, fmt.Sprint("a put at ", at, " of ", many), a, do(at, true), rulesOf(strings.Repeat("a", many+1)))
				}
				if at < many && many-1 <= api.MaxRules {
					wantApplied(t, fmt.Sprint("a going at ", at, " of ", many), a, do(at, false), rulesOf(strings.Repeat("a", many-1)))
				}
			}
		}
	}
}

// TestApplyState: what goes is Rule.
func TestApplyState(t *testing.T) {
	for _, c := range []struct{ a, edits string }{
		{"a", "-0b"},
		{"abc", "-0b"},
		{"abc", "-0c"},
		{"abc", "-1a"},
		{"abc", "-1c"},
		{"abc", "-2b"},
		{"abc", "-0a -0a"},
		{"abc", "-0a -1b"},
		{"abc", "+0x -0a"},
		{"abc", "+1x -1b"},
		{"abc", "+3x -2x"},
		{"abc", "-1b +1x -1b"},
	} {
		wantNotApplied(t, c.a+" by "+c.edits, rulesOf(c.a), editsOf(c.edits), api.ErrState)
	}
	// No rule at all is one as others are: it is none of those that are there.
	wantNotApplied(t, "going of a zero rule", rulesOf("a"), []api.Edit{{}}, api.ErrState)
	wantApplied(t, "going of a zero rule", []api.Rule{{}}, []api.Edit{{}}, nil)
}

// again is a put and a going, so often, after which all is as before.
func again(often int) []api.Edit {
	return slices.Repeat(editsOf("+1x -1x"), often)
}

// TestApplyFull: at most MaxList edits, whatever they come to.
func TestApplyFull(t *testing.T) {
	a := rulesOf("abc")
	wantApplied(t, "MaxList edits", a, again(api.MaxList/2), a)
	wantApplied(t, "MaxList edits", nil, append(again(0), slices.Repeat(editsOf("+0x -0x"), api.MaxList/2)...), nil)
	most := append(again(api.MaxList/2-1), editsOf("+3d +3e")...)
	wantApplied(t, "MaxList edits that change it", a, most, rulesOf("abced"))
	wantNotApplied(t, "one more", a, append(again(api.MaxList/2), editsOf("+0d")...), api.ErrFull)
	wantNotApplied(t, "one more that is wrong", a, append(again(api.MaxList/2), editsOf("-9d")...), api.ErrFull)
	wantNotApplied(t, "twice as many", a, again(api.MaxList), api.ErrFull)
	wantNotApplied(t, "lots", nil, make([]api.Edit, 100_000), api.ErrFull)
}

// TestApplyResult: Check is of what comes of all edits, not of what is there in between.
func TestApplyResult(t *testing.T) {
	for _, c := range faulty {
		if len(c.l) > api.MaxRules {
			continue
		}
		var puts, goes []api.Edit
		for i, r := range c.l {
			puts = append(puts, api.Edit{At: i, Put: true, Rule: r})
		}
		for i := range c.l {
			goes = append(goes, api.Edit{At: len(c.l) - 1 - i, Rule: c.l[len(c.l)-1-i]})
		}
		wantNotApplied(t, c.what, rulesOf("abc"), puts, c.how)
		wantNotApplied(t, c.what, nil, puts, c.how)
		wantApplied(t, c.what+", which goes", rulesOf("abc"), append(slices.Clone(puts), goes...), rulesOf("abc"))
		wantNotApplied(t, c.what+", and an edit that is wrong", rulesOf("abc"), append(slices.Clone(puts), editsOf("-0z")...), api.ErrState)
	}
	full := rulesOf(letters[:20])
	wantNotApplied(t, "a 21st", full, editsOf("+20u"), api.ErrFull)
	wantNotApplied(t, "a 21st", full, editsOf("-0a +0a +0u"), api.ErrFull)
	wantApplied(t, "a 21st that goes", full, editsOf("+20u -20u"), full)
	wantApplied(t, "a 21st, and another one goes", full, editsOf("+20u -0a"), rulesOf(letters[1:21]))
	var many []api.Edit
	for range api.MaxList {
		many = append(many, editsOf("+0x")...)
	}
	wantNotApplied(t, "many more", full, many, api.ErrFull)
	many = append(many[:api.MaxList/2], slices.Repeat(editsOf("-0x"), api.MaxList/2)...)
	wantApplied(t, "many more that go", full, many, full)
}

// TestApplyOrder: which error is told where several apply.
func TestApplyOrder(t *testing.T) {
	wrongRule := []api.Rule{{Way: -1}}
	shape := []api.Rule{{Keep: true}}
	putShape := []api.Edit{{Put: true, Rule: shape[0]}}
	then := func(ahead []api.Edit, words string) []api.Edit {
		return append(slices.Clone(ahead), editsOf(words)...)
	}
	wantNotApplied(t, "too many edits of wrong rules", wrongRule, again(api.MaxList), api.ErrFull)
	wantNotApplied(t, "wrong rules and a wrong At", shape, editsOf("+9a"), api.ErrShape)
	wantNotApplied(t, "wrong rules and a wrong going", shape, editsOf("-0a"), api.ErrShape)
	wantNotApplied(t, "wrong rules that go", shape, []api.Edit{{Rule: shape[0]}}, api.ErrShape)
	wantNotApplied(t, "wrong rules, and others wrong of what comes", wrongRule, putShape, api.ErrRange)
	wantNotApplied(t, "a wrong At, then a wrong going", rulesOf("abc"), editsOf("-3a -0b"), api.ErrRange)
	wantNotApplied(t, "a wrong going, then a wrong At", rulesOf("abc"), editsOf("-0b -3a"), api.ErrState)
	wantNotApplied(t, "a wrong At, and what comes", nil, then(putShape, "+2a"), api.ErrRange)
	wantNotApplied(t, "a wrong going, and what comes", nil, then(putShape, "-0a"), api.ErrState)
	wantNotApplied(t, "a 21st, and a wrong rule ahead", rulesOf(letters[:20]), putShape, api.ErrFull)
}

// D1: Turn

func TestTurn(t *testing.T) {
	for _, c := range []struct{ edits, want string }{
		{"+0a", "-0a"},
		{"-0a", "+0a"},
		{"+3a", "-3a"},
		{"+0a +1b", "-1b -0a"},
		{"-0a +0b", "-0b +0a"},
		{"-2a -2a +7b -1c", "+1c -7b +2a +2a"},
		// Also of edits that could not be.
		{"-99a +-7b", "--7b +99a"},
	} {
		for _, way := range [][2]string{{c.edits, c.want}, {c.want, c.edits}} {
			if got := Turn(editsOf(way[0])); saidEdits(got) != saidEdits(editsOf(way[1])) {
				t.Errorf("Turn of %s: got %v, want %s", way[0], got, way[1])
			}
		}
	}
}

// TestTurnAny: edits of any rules, and however many, are turned, though Apply may take none of them.
func TestTurnAny(t *testing.T) {
	var l, want []api.Edit
	add := func(at int, put bool, r api.Rule) {
		l = append(l, api.Edit{At: at, Put: put, Rule: r})
		want = append([]api.Edit{{At: at, Put: !put, Rule: r}}, want...)
	}
	for _, at := range outside(0, 0) {
		for _, r := range different() {
			add(at, at%2 == 0, r)
		}
		for _, c := range faulty {
			add(at, at%2 != 0, c.l[len(c.l)-1])
		}
	}
	if len(l) <= api.MaxList {
		t.Fatalf("only %d edits", len(l))
	}
	if got := Turn(l); saidEdits(got) != saidEdits(want) {
		t.Errorf("Turn of %v: got %v, want %v", l, got, want)
	}
	if got := Turn(Turn(l)); saidEdits(got) != saidEdits(l) {
		t.Errorf("Turn of Turn of %v: got %v", l, got)
	}
}

// TestUndone: what Apply takes is undone by its edits turned, also where they are not the fewest.
func TestUndone(t *testing.T) {
	for _, c := range []struct{ a, edits string }{
		{"", ""},
		{"abc", ""},
		{"", "+0a +0b +1c"},
		{"abc", "-0a -0b -0c"},
		{"abc", "+1x -0a +2y -3c +0c"},
		{"aaa", "-1a +0a -2a"},
		{letters[:20], "+20u +0v -5e -20u"},
	} {
		there, err := Apply(rulesOf(c.a), editsOf(c.edits))
		if err != nil {
			t.Fatalf("%s by %s: %v", c.a, c.edits, err)
		}
		wantApplied(t, c.a+" by "+c.edits+" and turned", there, Turn(editsOf(c.edits)), rulesOf(c.a))
	}
}
