package tests

import (
	"slices"
	"testing"

	"loop.example/loggertree/impl"
)

// Promise 73: valid warnings are valid without the last one, and nothing is shown of what is ignored.
func TestWarningsCanBeCut(t *testing.T) {
	for _, list := range goodWarnings() {
		for n := len(list); n >= 0; n-- {
			if !impl.ValidWarnings(list[:n]) {
				t.Errorf("ValidWarnings(%v) = false", list[:n])
			}
			if got, raised := impl.ShowWarnings([]impl.Rule{rule(impl.AcIgnore)}, list[:n]); raised || len(got) > 0 {
				t.Errorf("ShowWarnings of what is ignored = %v, %v", got, raised)
			}
		}
		for _, rules := range goodRules() {
			shown, _ := impl.ShowWarnings(rules, list)
			for _, i := range shown {
				if at := impl.RuleOf(rules, list[i]); at >= 0 && rules[at].Action == impl.AcIgnore {
					t.Errorf("ShowWarnings(%v, %v) = %v", rules, list, shown)
				}
			}
		}
	}
	for _, b := range badWarningLists() {
		if impl.ValidWarnings(b.list) {
			t.Errorf("ValidWarnings with %s", b.why)
		}
	}
	for n := range 30 {
		if impl.ValidWarnings(slices.Repeat([]impl.Warning{{Line: 1}}, n)) != (n <= 12) {
			t.Errorf("ValidWarnings of %d = %v", n, n > 12)
		}
	}
	for _, name := range goodNames() {
		for _, text := range goodTexts() {
			if !impl.ValidWarnings([]impl.Warning{{Text: text, Module: name, Line: 999}}) {
				t.Errorf("ValidWarnings of %q, %q = false", text, name)
			}
		}
	}
}

func TestWarningsThatAreNotValid(t *testing.T) {
	for _, b := range badWarningLists() {
		for _, action := range allActions() {
			if got, raised := impl.ShowWarnings([]impl.Rule{rule(action)}, b.list); raised || len(got) > 0 {
				t.Errorf("ShowWarnings with %s = %v, %v", b.why, got, raised)
			}
			if got := impl.CaptureWarnings(bare(), []impl.Rule{rule(action)}, b.list); len(got) > 0 {
				t.Errorf("CaptureWarnings with %s = %v", b.why, got)
			}
		}
	}
	for _, b := range badWarnings() {
		for _, rules := range [][]impl.Rule{nil, {{}}, {{Word: "x"}, {Module: "a"}, {}}} {
			if got := impl.RuleOf(rules, b.warning); got != -1 {
				t.Errorf("RuleOf %s = %d", b.why, got)
			}
		}
	}
	w := []impl.Warning{{Text: "x", Line: 1}}
	for _, b := range badTrees() {
		for _, action := range allActions() {
			if got := impl.CaptureWarnings(b.tree, []impl.Rule{rule(action)}, w); len(got) > 0 {
				t.Errorf("CaptureWarnings with %s = %v", b.why, got)
			}
		}
	}
}

// Promise 75: indices of ShowWarnings ascend, and of the first warnings they are the beginning of those of all.
func TestWhatIsShownAscends(t *testing.T) {
	raises, ends := 0, 0
	for _, rules := range goodRules() {
		for _, list := range goodWarnings() {
			got, raised := impl.ShowWarnings(rules, list)
			want, may := wantShown(rules, list)
			if raised != may || !slices.Equal(got, want) {
				t.Fatalf("ShowWarnings(%v, %v) = %v, %v, not %v, %v", rules, list, got, raised, want, may)
			}
			for i := 1; i < len(got); i++ {
				if got[i-1] >= got[i] {
					t.Errorf("ShowWarnings(%v, %v) = %v", rules, list, got)
				}
			}
			for n := range list {
				first, early := impl.ShowWarnings(rules, list[:n])
				if len(first) > len(got) || !slices.Equal(first, got[:len(first)]) || early && !raised {
					t.Errorf("ShowWarnings(%v, %v) = %v, %v", rules, list[:n], first, early)
				}
			}
			if raised {
				raises++
				if got[len(got)-1] < len(list)-1 {
					ends++
				}
			}
		}
	}
	if raises < 1000 || ends < 1000 {
		t.Errorf("only %d are raised, and %d of these are not the last ones", raises, ends)
	}
}

// Promise 76: with one rule for all AcOnce shows no more than AcModule, this no more than AcPlace, and this no more than AcAlways, and each first one of a text is shown.
func TestOnceIsSeldom(t *testing.T) {
	more := [4]int{}
	for _, list := range goodWarnings() {
		var before []int
		for k, action := range []int{impl.AcOnce, impl.AcModule, impl.AcPlace, impl.AcAlways} {
			got, raised := impl.ShowWarnings([]impl.Rule{rule(action)}, list)
			if raised || len(got) < len(before) {
				t.Errorf("ShowWarnings of %d and %v = %v, %v", action, list, got, raised)
			}
			for _, i := range before {
				if !slices.Contains(got, i) {
					t.Errorf("ShowWarnings of %d and %v = %v without %d", action, list, got, i)
				}
			}
			more[k] += len(got) - len(before)
			before = got
			seen := map[string]bool{}
			for i, w := range list {
				if !seen[w.Text] && !slices.Contains(got, i) {
					t.Errorf("ShowWarnings of %d and %v = %v without the first %q", action, list, got, w.Text)
				}
				seen[w.Text] = true
			}
		}
		if len(before) != len(list) {
			t.Errorf("ShowWarnings of all of %v = %v", list, before)
		}
		// Without a rule, it is AcPlace.
		alone, _ := impl.ShowWarnings(nil, list)
		place, _ := impl.ShowWarnings([]impl.Rule{rule(impl.AcPlace)}, list)
		if !slices.Equal(alone, place) {
			t.Errorf("ShowWarnings of no rules and %v = %v", list, alone)
		}
	}
	for k, n := range more {
		if n < 50 {
			t.Errorf("only %d more are shown by action %d of these", n, k)
		}
	}
}

// shows is what is shown by rules of some warnings.
type shows struct {
	why    string
	rules  []impl.Rule
	list   []impl.Warning
	want   []int
	raised bool
}

// mixedShows are cases in which several actions meet.
func mixedShows() []shows {
	w := func(text, module string, line int) impl.Warning {
		return impl.Warning{Text: text, Module: module, Line: line}
	}
	at := func(action, line int) impl.Rule { return impl.Rule{Action: action, Line: line} }
	places := []impl.Warning{w("x", "a", 1), w("x", "a", 2), w("x", "b", 1), w("x", "", 1), w("y", "a", 1), w("x", "a", 1), w("x", "", 2)}
	lines := []impl.Rule{at(impl.AcOnce, 1), at(impl.AcModule, 2), at(impl.AcPlace, 3), at(impl.AcAlways, 4), at(impl.AcIgnore, 5), at(impl.AcRaise, 6)}
	return []shows{
		{"nothing", nil, nil, nil, false},
		{"no rules", nil, places, []int{0, 1, 2, 3, 4, 6}, false},
		{"place", []impl.Rule{rule(impl.AcPlace)}, places, []int{0, 1, 2, 3, 4, 6}, false},
		{"module", []impl.Rule{rule(impl.AcModule)}, places, []int{0, 2, 3, 4}, false},
		{"once", []impl.Rule{rule(impl.AcOnce)}, places, []int{0, 4}, false},
		{"always", []impl.Rule{rule(impl.AcAlways)}, places, []int{0, 1, 2, 3, 4, 5, 6}, false},
		{"ignore", []impl.Rule{rule(impl.AcIgnore)}, places, nil, false},
		{"raise", []impl.Rule{rule(impl.AcRaise)}, places, []int{0}, true},
		{"raise of none", []impl.Rule{{Action: impl.AcRaise, Word: "z"}}, places, []int{0, 1, 2, 3, 4, 6}, false},
		{"raise at the end", []impl.Rule{{Action: impl.AcRaise, Line: 9}}, []impl.Warning{w("x", "a", 1), w("x", "a", 9)}, []int{0, 1}, true},
		{"raise behind another rule", []impl.Rule{{Action: impl.AcIgnore, Module: "a"}, rule(impl.AcRaise)}, places, []int{2}, true},
		{"once behind a place", lines, []impl.Warning{w("x", "a", 3), w("x", "b", 1)}, []int{0}, false},
		{"once behind a module", lines, []impl.Warning{w("x", "a", 2), w("x", "b", 1)}, []int{0}, false},
		{"a module behind once", lines, []impl.Warning{w("x", "a", 1), w("x", "a", 2), w("x", "b", 2)}, []int{0, 2}, false},
		{"a module behind a place", lines, []impl.Warning{w("x", "a", 3), w("x", "a", 2), w("x", "b", 2)}, []int{0, 2}, false},
		{"the module of the root behind once", lines, []impl.Warning{w("x", "a", 1), w("x", "", 2)}, []int{0, 1}, false},
		{"the module of the root behind a place", lines, []impl.Warning{w("x", "a", 3), w("x", "", 2), w("x", "", 2)}, []int{0, 1}, false},
		{"the module of the root behind once of it", lines, []impl.Warning{w("x", "", 1), w("x", "", 2)}, []int{0}, false},
		{"a place behind once and a module", lines, []impl.Warning{w("x", "a", 1), w("x", "b", 2), w("x", "a", 3), w("x", "b", 3)}, []int{0, 1, 2, 3}, false},
		{"once behind always", lines, []impl.Warning{w("x", "a", 4), w("x", "a", 1), w("x", "a", 4)}, []int{0, 1, 2}, false},
		{"once behind ignore", lines, []impl.Warning{w("x", "a", 5), w("x", "a", 1)}, []int{1}, false},
		{"always behind once", lines, []impl.Warning{w("x", "a", 1), w("x", "a", 4)}, []int{0, 1}, false},
		{"what is not shown does not count", lines, []impl.Warning{w("x", "a", 1), w("x", "b", 1), w("x", "b", 2)}, []int{0, 2}, false},
		{"once behind raise", lines, []impl.Warning{w("x", "a", 4), w("x", "a", 6), w("y", "a", 1), w("x", "a", 6)}, []int{0, 1}, true},
		{"texts of the same words", []impl.Rule{rule(impl.AcOnce)}, []impl.Warning{w("x", "", 1), w("x ", "", 1), w(" x", "", 1), w("", "", 1), w(" ", "", 1), w("", "a", 2)}, []int{0, 1, 2, 3, 4}, false},
		{"a word of some", []impl.Rule{{Action: impl.AcOnce, Word: "old"}}, []impl.Warning{w("old x", "a", 1), w("old y", "b", 1), w("old x", "b", 1), w("x", "b", 1), w("x", "c", 1), w("olds", "a", 2), w("olds", "a", 3)}, []int{0, 1, 3, 4, 5, 6}, false},
		{"another rule ahead", []impl.Rule{{Action: impl.AcAlways, Module: "a.b"}, {Action: impl.AcIgnore, Module: "a"}}, []impl.Warning{w("x", "a", 1), w("x", "a.b.c", 1), w("x", "a.b.c", 1), w("x", "a.bc", 1), w("x", "ab", 1), w("x", "ab", 1)}, []int{1, 2, 4}, false},
	}
}

func TestShowWarnings(t *testing.T) {
	for _, c := range mixedShows() {
		if got, raised := impl.ShowWarnings(c.rules, c.list); raised != c.raised || !slices.Equal(got, c.want) {
			t.Errorf("%s: ShowWarnings = %v, %v", c.why, got, raised)
		}
	}
}

// Promise 79: CaptureWarnings of what is ignored is nothing, and of what is always shown it is RunRecords of all.
func TestCapturedWarningsAreRecords(t *testing.T) {
	captured := 0
	trees := append([]impl.Tree{bare(), house(), post()}, routeTrees()[40:60]...)
	choices := goodRules()
	for i, list := range goodWarnings() {
		for _, x := range trees {
			if got := impl.CaptureWarnings(x, []impl.Rule{rule(impl.AcIgnore)}, list); len(got) > 0 {
				t.Errorf("CaptureWarnings of what is ignored = %v", got)
			}
			var all []int
			for n := range list {
				all = append(all, n)
			}
			records := recordsFor(list, all)
			if got := impl.CaptureWarnings(x, []impl.Rule{rule(impl.AcAlways)}, list); !slices.Equal(got, impl.RunRecords(x, records)) {
				t.Errorf("CaptureWarnings of all of %v = %v", list, got)
			}
			for k := range 10 {
				rules := choices[(10*i+k)%len(choices)]
				shown, _ := wantShown(rules, list)
				var want []impl.Sent
				for _, r := range recordsFor(list, shown) {
					sent, _ := wantRoute(x, r)
					want = append(want, sent...)
				}
				got := impl.CaptureWarnings(x, rules, list)
				if !slices.Equal(got, want) {
					t.Fatalf("CaptureWarnings(%v, %v, %v) = %v", x, rules, list, got)
				}
				captured += len(got)
			}
		}
	}
	if captured < 10000 {
		t.Errorf("only %d are sent", captured)
	}
}

func TestCaptureWarnings(t *testing.T) {
	list := []impl.Warning{{Text: "old x", Module: "b.y", Line: 999}, {Text: "old x", Module: "b.y", Line: 1}, {Text: "y", Line: 1}, {Text: "z", Module: "a.b", Line: 7}, {Text: "z", Module: "a.b", Line: 8}}
	rules := []impl.Rule{{Action: impl.AcRaise, Module: "a"}, {Action: impl.AcOnce}}
	// The second one is the same text, and the last one is behind the raised one. The record of the root is raised by its filter, and is too great for out then.
	want := []impl.Sent{
		{Logger: "b", Handler: "h", Record: impl.Record{Name: "b.y", Level: 30, Text: "old x", Seq: 999}},
		{Logger: "a.b", Handler: "h", Record: impl.Record{Name: "a.b", Level: 30, Text: "z", Seq: 7}},
	}
	if got := impl.CaptureWarnings(house(), rules, list); !slices.Equal(got, want) {
		t.Errorf("CaptureWarnings = %v", got)
	}
	want = nil
	for _, i := range []int{0, 2, 3} {
		want = append(want, impl.Sent{Handler: "last", Record: impl.Record{Name: list[i].Module, Level: 30, Text: list[i].Text, Seq: list[i].Line}})
	}
	if got := impl.CaptureWarnings(bare(), rules, list); !slices.Equal(got, want) {
		t.Errorf("CaptureWarnings = %v", got)
	}
	if got := impl.CaptureWarnings(bare(), nil, nil); len(got) > 0 {
		t.Errorf("CaptureWarnings of nothing = %v", got)
	}
}
