package diff

import (
	"testing"

	"portcullis/api"
)

// What holds of every call's memory.

// roomy is a list of rules, and of spans in them, behind whose lengths there is more; intact tells whether all of it is as it was.
func roomy(letters string) (l []api.Rule, intact func() bool) {
	more := append(rulesOf(letters), ruleOf('!'), ruleOf('?'))
	for i, r := range more {
		more[i].From, more[i].To = append(r.From, [2]int{-1, -2})[:len(r.From)], append(r.To, [2]int{-3, -4})[:len(r.To)]
	}
	was := said(whole(more))
	return more[:len(letters)], func() bool { return said(whole(more)) == was }
}

// whole has a look at rules with what is behind the lengths of their spans.
func whole(l []api.Rule) []api.Rule {
	var all []api.Rule
	for _, r := range l {
		r.From, r.To = r.From[:cap(r.From)], r.To[:cap(r.To)]
		all = append(all, r)
	}
	return all
}

// roomyEdits are edits with such lists in them, behind whose length there is more.
func roomyEdits(words string) (l []api.Edit, intact func() bool) {
	more := append(editsOf(words), editsOf("+0! -0?")...)
	var intacts []func() bool
	for i, e := range more {
		rules, intact := roomy(string(rune(e.Rule.Src.Addr)))
		more[i].Rule = rules[0]
		intacts = append(intacts, intact)
	}
	was := saidEdits(more)
	return more[:len(more)-2], func() bool {
		for _, intact := range intacts {
			if !intact() {
				return false
			}
		}
		return saidEdits(more) == was
	}
}

// TestNotWritten: what is handed in is neither written into, nor what lies behind it read or written.
func TestNotWritten(t *testing.T) {
	a, intactA := roomy("axbycz")
	b, intactB := roomy("apbqcr")
	l, intactL := roomyEdits("-1x +1p -3y +3q -5z +5r")
	look := func(what string) {
		t.Helper()
		if !intactA() || !intactB() || !intactL() {
			t.Errorf("%s has written into what was handed in", what)
		}
	}
	wantCommon(t, "lists with room", a, b, 3)
	look("Common")
	wantDiff(t, "lists with room", a, b, editsOf("-1x +1p -3y +3q -5z +5r"))
	look("Diff")
	wantApplied(t, "lists with room", a, l, rulesOf("apbqcr"))
	look("Apply")
	wantNotApplied(t, "lists with room", b, l, api.ErrState)
	look("Apply with an error")
	if got := Turn(l); saidEdits(got) != saidEdits(editsOf("-5r +5z -3q +3y -1p +1x")) {
		t.Errorf("Turn of a list with room: got %v", got)
	}
	look("Turn")
}

// spoilRules writes another thing into each place of each list that came out, and behind it.
func spoilRules(l []api.Rule) {
	for i, r := range l {
		for _, ports := range [][][2]int{r.From, r.To} {
			for j := range ports {
				ports[j] = [2]int{-5, -6}
			}
			_ = append(ports, [2]int{-7, -8})
		}
		l[i] = api.Rule{Way: -9}
	}
	_ = append(l, api.Rule{Way: -10})
}

// spoilEdits does so with edits.
func spoilEdits(l []api.Edit) {
	for i, e := range l {
		spoilRules([]api.Rule{e.Rule})
		l[i] = api.Edit{At: -11}
	}
	_ = append(l, api.Edit{At: -12})
}

// TestFresh: what is done with what came out is not seen in what was handed in, nor by a later call.
func TestFresh(t *testing.T) {
	a, b, l := rulesOf("abcd"), rulesOf("bxdy"), editsOf("-0a -1c +1x +3y")
	look := func(what string) {
		t.Helper()
		if said(a) != said(rulesOf("abcd")) || said(b) != said(rulesOf("bxdy")) || saidEdits(l) != saidEdits(editsOf("-0a -1c +1x +3y")) {
			t.Fatalf("what was handed in to %s is %v, %v, %v now", what, a, b, l)
		}
	}
	for range 2 {
		edits, err := Diff(a, b)
		if saidEdits(edits) != saidEdits(l) || err != nil {
			t.Fatalf("Diff: got %v, %v, want %v", edits, err, l)
		}
		spoilEdits(edits)
		look("Diff")
		rules, err := Apply(a, l)
		if said(rules) != said(b) || err != nil {
			t.Fatalf("Apply: got %v, %v, want %v", rules, err, b)
		}
		spoilRules(rules)
		look("Apply")
		rules, err = Apply(a, nil)
		if said(rules) != said(a) || err != nil {
			t.Fatalf("Apply of no edit: got %v, %v, want %v", rules, err, a)
		}
		spoilRules(rules)
		look("Apply of no edit")
		turned := Turn(l)
		if saidEdits(turned) != saidEdits(editsOf("-3y -1x +1c +0a")) {
			t.Fatalf("Turn: got %v", turned)
		}
		spoilEdits(turned)
		look("Turn")
	}
}

// oneMemory are rules that all share their spans, both sides', too.
func oneMemory(many int) []api.Rule {
	ports := [][2]int{{1, 2}, {4, 5}}
	var l []api.Rule
	for range many {
		l = append(l, api.Rule{Kind: api.Single, From: ports, To: ports})
	}
	return l
}

// apart tells whether no two lists of rules share memory: what is written into each, and behind it, stays.
func apart(l []api.Rule) bool {
	var lists [][][2]int
	for _, r := range l {
		lists = append(lists, r.From, r.To)
	}
	for n, ports := range lists {
		for i := range ports {
			ports[i] = [2]int{n, n}
		}
		_ = append(ports, [2]int{-1, -1})
	}
	for n, ports := range lists {
		for _, p := range ports {
			if p != [2]int{n, n} {
				return false
			}
		}
	}
	return true
}

// TestApart: no two lists of what comes out share memory, though those that were handed in do.
func TestApart(t *testing.T) {
	rulesIn := func(l []api.Edit) []api.Rule {
		var rules []api.Rule
		for _, e := range l {
			rules = append(rules, e.Rule)
		}
		return rules
	}
	shared := oneMemory(3)
	for _, way := range [][2][]api.Rule{{shared, nil}, {nil, shared}} {
		l, err := Diff(way[0], way[1])
		if len(l) != 3 || err != nil || !apart(rulesIn(l)) {
			t.Errorf("Diff of rules that share memory: got %v, %v", l, err)
		}
	}
	put := api.Edit{At: 1, Put: true, Rule: shared[0]}
	l, err := Apply(shared, []api.Edit{put, put})
	if len(l) != 5 || err != nil || !apart(l) {
		t.Errorf("Apply of rules that share memory: got %v, %v", l, err)
	}
	turned := Turn([]api.Edit{put, put, {Rule: shared[1]}})
	if len(turned) != 3 || !apart(rulesIn(turned)) {
		t.Errorf("Turn of rules that share memory: got %v", turned)
	}
	if said(shared) != said(oneMemory(3)) {
		t.Errorf("what was handed in is %v now", shared)
	}
}
