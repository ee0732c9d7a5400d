package tests

import (
	"fmt"
	"math/rand"
	"slices"
	"testing"

	"loop.example/loggertree/impl"
)

// Promise 72: valid rules are valid without the last one.
func TestRulesCanBeCut(t *testing.T) {
	for _, list := range goodRules() {
		for n := len(list); n >= 0; n-- {
			if !impl.ValidRules(list[:n]) {
				t.Errorf("ValidRules(%v) = false", list[:n])
			}
		}
	}
	for _, b := range badRuleLists() {
		if impl.ValidRules(b.list) {
			t.Errorf("ValidRules with %s", b.why)
		}
	}
	for n := range 10 {
		if impl.ValidRules(slices.Repeat([]impl.Rule{{}}, n)) != (n <= 6) {
			t.Errorf("ValidRules of %d = %v", n, n > 6)
		}
		for _, x := range []impl.Rule{{Action: n - 2}, {Action: n - 2, Word: "x", Module: "a", Line: 1}} {
			if impl.ValidRules([]impl.Rule{x}) != (n >= 2 && n <= 7) {
				t.Errorf("ValidRules of action %d", n-2)
			}
		}
	}
	for _, name := range goodNames() {
		if !impl.ValidRules([]impl.Rule{{Module: name}}) {
			t.Errorf("ValidRules of %q = false", name)
		}
	}
	for _, word := range append(goodWords(), "") {
		if !impl.ValidRules([]impl.Rule{{Word: word}}) {
			t.Errorf("ValidRules of %q = false", word)
		}
	}
	for _, line := range []int{0, 1, 30, 998, 999} {
		if !impl.ValidRules([]impl.Rule{{Line: line}}) {
			t.Errorf("ValidRules of line %d = false", line)
		}
	}
}

// someWarnings are warnings that fall under many rules.
func someWarnings() []impl.Warning {
	var list []impl.Warning
	for _, text := range []string{"", "x", "old", "old x", "x  old", "olds x", "oldx"} {
		for _, module := range []string{"", "a", "a.b", "a.b.c", "a.bc", "ab", "b"} {
			for _, line := range []int{1, 2, 999} {
				list = append(list, impl.Warning{Text: text, Module: module, Line: line})
			}
		}
	}
	return list
}

// Promise 74: RuleOf is the first one of the rules that alone has the warning, and rules behind it do not matter.
func TestTheFirstRuleTells(t *testing.T) {
	found, none := 0, 0
	r := rand.New(rand.NewSource(26))
	for _, list := range goodRules() {
		for _, w := range someWarnings() {
			at := impl.RuleOf(list, w)
			want := slices.IndexFunc(list, func(x impl.Rule) bool { return impl.RuleOf([]impl.Rule{x}, w) == 0 })
			if at != want || at != slices.IndexFunc(list, func(x impl.Rule) bool { return has(x, w) }) {
				t.Fatalf("RuleOf(%v, %v) = %d", list, w, at)
			}
			if at < 0 {
				none++
				continue
			}
			found++
			others := append(slices.Clone(list[:at+1]), grownRules(r, r.Intn(impl.MaxRules-at))...)
			if impl.RuleOf(list[:at+1], w) != at || impl.RuleOf(others, w) != at {
				t.Errorf("RuleOf(%v, %v) = %d", others, w, impl.RuleOf(others, w))
			}
		}
	}
	if found < 10000 || none < 5000 {
		t.Errorf("only %d have a rule, and %d have none", found, none)
	}
}

func TestRuleOf(t *testing.T) {
	w := impl.Warning{Text: "old x", Module: "a.b", Line: 7}
	yes := []impl.Rule{
		{}, {Action: impl.AcRaise}, {Word: "old"}, {Word: "x"}, {Module: "a"}, {Module: "a.b"}, {Line: 7}, {Word: "old", Module: "a", Line: 7}, {Word: "x", Module: "a.b", Line: 7},
	}
	no := []impl.Rule{
		{Word: "ol"}, {Word: "oldx"}, {Word: "a"}, {Word: "l"}, {Module: "b"}, {Module: "a.b.c"}, {Module: "a.bc"}, {Module: "ab"}, {Line: 6}, {Line: 8}, {Line: 77}, {Line: 999},
		{Word: "no", Module: "a", Line: 7}, {Word: "old", Module: "b", Line: 7}, {Word: "old", Module: "a", Line: 1},
	}
	for _, x := range yes {
		if got := impl.RuleOf([]impl.Rule{x}, w); got != 0 {
			t.Errorf("RuleOf(%v) = %d", x, got)
		}
		if got := impl.RuleOf(append(slices.Clone(no[:5]), x), w); got != 5 {
			t.Errorf("RuleOf of no and %v = %d", x, got)
		}
		if got := impl.RuleOf([]impl.Rule{no[0], x, x, yes[0]}, w); got != 1 {
			t.Errorf("RuleOf of %v twice = %d", x, got)
		}
	}
	for _, x := range no {
		if got := impl.RuleOf([]impl.Rule{x}, w); got != -1 {
			t.Errorf("RuleOf(%v) = %d", x, got)
		}
	}
	if got := impl.RuleOf(nil, w); got != -1 {
		t.Errorf("RuleOf of no rules = %d", got)
	}
	if got := impl.RuleOf([]impl.Rule{{Module: "a"}, {Module: ""}}, impl.Warning{Line: 1}); got != 1 {
		t.Errorf("RuleOf of the root = %d", got)
	}
	for _, text := range []string{"", " ", "   "} { // spaces are no words
		if got := impl.RuleOf([]impl.Rule{{Word: "x"}, {Word: ""}}, impl.Warning{Text: text, Line: 1}); got != 1 {
			t.Errorf("RuleOf of %q = %d", text, got)
		}
	}
}

func TestRulesThatAreNotValid(t *testing.T) {
	w := impl.Warning{Text: "old x", Module: "a.b", Line: 7}
	for _, b := range badRuleLists() {
		if got := impl.RuleOf(b.list, w); got != -1 {
			t.Errorf("RuleOf with %s = %d", b.why, got)
		}
		if got, raised := impl.ShowWarnings(b.list, []impl.Warning{w}); raised || len(got) > 0 {
			t.Errorf("ShowWarnings with %s = %v, %v", b.why, got, raised)
		}
		for _, front := range []bool{true, false} {
			for _, x := range []impl.Rule{{}, {Action: impl.AcAlways}, b.list[0]} {
				if got, ok := impl.AddRule(b.list, x, front); ok || len(got) > 0 {
					t.Errorf("AddRule with %s = %v, %v", b.why, got, ok)
				}
			}
		}
		if got := impl.DropCovered(b.list); len(got) > 0 {
			t.Errorf("DropCovered with %s = %v", b.why, got)
		}
		if got := impl.CaptureWarnings(bare(), b.list, []impl.Warning{w}); len(got) > 0 {
			t.Errorf("CaptureWarnings with %s = %v", b.why, got)
		}
	}
	for _, b := range badRules() {
		for _, list := range [][]impl.Rule{nil, {{}}, slices.Repeat([]impl.Rule{{}}, impl.MaxRules)} {
			for _, front := range []bool{true, false} {
				if got, ok := impl.AddRule(list, b.rule, front); ok || len(got) > 0 {
					t.Errorf("AddRule of %s = %v, %v", b.why, got, ok)
				}
			}
		}
	}
}

// wantAdded returns AddRule of a valid list and rule, told in another way than the program.
func wantAdded(list []impl.Rule, x impl.Rule, front bool) ([]impl.Rule, bool) {
	var others []impl.Rule
	for _, old := range list {
		if fmt.Sprint(old) != fmt.Sprint(x) {
			others = append(others, old)
		}
	}
	if len(others) > 5 {
		return nil, false
	}
	if front {
		return slices.Concat([]impl.Rule{x}, others), true
	}
	return append(others, x), true
}

// Promise 77: AddRule has the rule once, at its end, and all other rules in order; added once more it is the same.
func TestAddedRulesAreAtTheirEnd(t *testing.T) {
	added, there, failed := 0, 0, 0
	for _, list := range goodRules() {
		all := append(slices.Clone(list), impl.Rule{}, impl.Rule{Action: 1, Word: "new", Module: "z.z", Line: 3})
		for _, x := range all {
			for _, front := range []bool{true, false} {
				got, ok := impl.AddRule(list, x, front)
				want, may := wantAdded(list, x, front)
				if ok != may || !slices.Equal(got, want) {
					t.Fatalf("AddRule(%v, %v, %v) = %v, %v", list, x, front, got, ok)
				}
				if !ok {
					failed++
					continue
				}
				added++
				if slices.Contains(list, x) {
					there++
				}
				end, others := got[len(got)-1], got[:len(got)-1]
				if front {
					end, others = got[0], got[1:]
				}
				old := slices.DeleteFunc(slices.Clone(list), func(y impl.Rule) bool { return y == x })
				if end != x || !slices.Equal(others, old) || !impl.ValidRules(got) {
					t.Errorf("AddRule(%v, %v, %v) = %v", list, x, front, got)
				}
				if again, ok := impl.AddRule(got, x, front); !ok || !slices.Equal(again, got) {
					t.Errorf("AddRule(%v, %v, %v) = %v, %v", got, x, front, again, ok)
				}
			}
		}
	}
	if added < 1000 || there < 1000 || failed < 100 {
		t.Errorf("only %d rules are added, %d are there already, %d fail", added, there, failed)
	}
}

func TestAddRule(t *testing.T) {
	a, b, c := impl.Rule{Action: impl.AcOnce, Word: "old"}, impl.Rule{}, impl.Rule{Action: impl.AcRaise, Module: "b", Line: 2}
	for _, k := range []struct {
		list       []impl.Rule
		x          impl.Rule
		head, tail []impl.Rule
	}{
		{nil, a, []impl.Rule{a}, []impl.Rule{a}},
		{[]impl.Rule{a}, b, []impl.Rule{b, a}, []impl.Rule{a, b}},
		{[]impl.Rule{a, b, c}, b, []impl.Rule{b, a, c}, []impl.Rule{a, c, b}},
		{[]impl.Rule{a, b, a, c, a}, a, []impl.Rule{a, b, c}, []impl.Rule{b, c, a}},
		{[]impl.Rule{b, b, a, a}, c, []impl.Rule{c, b, b, a, a}, []impl.Rule{b, b, a, a, c}}, // others stay, however often they are there
		{[]impl.Rule{a, a, a, a, a, a}, a, []impl.Rule{a}, []impl.Rule{a}},
		{[]impl.Rule{a, a, b, b, b, c}, a, []impl.Rule{a, b, b, b, c}, []impl.Rule{b, b, b, c, a}},
		{[]impl.Rule{a, a, a, a, b, c}, b, []impl.Rule{b, a, a, a, a, c}, []impl.Rule{a, a, a, a, c, b}},
		{[]impl.Rule{a, a, a, a, a, a}, b, nil, nil},
		{[]impl.Rule{a, a, a, a, a}, b, []impl.Rule{b, a, a, a, a, a}, []impl.Rule{a, a, a, a, a, b}},
	} {
		for _, front := range []bool{true, false} {
			want := k.tail
			if front {
				want = k.head
			}
			if got, ok := impl.AddRule(k.list, k.x, front); ok != (want != nil) || !slices.Equal(got, want) {
				t.Errorf("AddRule(%v, %v, %v) = %v, %v", k.list, k.x, front, got, ok)
			}
		}
	}
	base := impl.Rule{Action: 1, Word: "x", Module: "a", Line: 1}
	for _, x := range []impl.Rule{{Action: 2, Word: "x", Module: "a", Line: 1}, {Action: 1, Word: "y", Module: "a", Line: 1}, {Action: 1, Word: "x", Module: "b", Line: 1}, {Action: 1, Word: "x", Module: "a", Line: 2}} {
		if got, ok := impl.AddRule([]impl.Rule{base}, x, false); !ok || !slices.Equal(got, []impl.Rule{base, x}) { // one thing is different
			t.Errorf("AddRule(%v, %v) = %v, %v", base, x, got, ok)
		}
	}
}

// isCovered reports whether all that falls under b falls under a, told in another way than the program: by the warnings that just fall under b.
func isCovered(a, b impl.Rule) bool {
	lines := []int{b.Line}
	if b.Line == 0 {
		lines = []int{1, 2, 3, 998, 999}
	}
	for _, line := range lines {
		if !has(a, impl.Warning{Text: b.Word, Module: b.Module, Line: line}) {
			return false
		}
	}
	return true
}

// Promise 78: after DropCovered every warning is shown as before, and dropped once more it is the same.
func TestCoveredRulesNeverCount(t *testing.T) {
	dropped := 0
	for _, list := range goodRules() {
		got := impl.DropCovered(list)
		var want []impl.Rule
		for i, b := range list {
			if !slices.ContainsFunc(list[:i], func(a impl.Rule) bool { return isCovered(a, b) }) {
				want = append(want, b)
			}
		}
		if !slices.Equal(got, want) || !impl.ValidRules(got) {
			t.Fatalf("DropCovered(%v) = %v", list, got)
		}
		if again := impl.DropCovered(got); !slices.Equal(again, got) {
			t.Errorf("DropCovered(%v) = %v", got, again)
		}
		dropped += len(list) - len(got)
		for _, w := range someWarnings() {
			a, b := impl.RuleOf(list, w), impl.RuleOf(got, w)
			if (a < 0) != (b < 0) || a >= 0 && list[a] != got[b] {
				t.Errorf("RuleOf(%v, %v) = %d after DropCovered(%v)", got, w, b, list)
			}
		}
		for _, warnings := range goodWarnings() {
			a, raisedA := impl.ShowWarnings(list, warnings)
			b, raisedB := impl.ShowWarnings(got, warnings)
			if raisedA != raisedB || !slices.Equal(a, b) {
				t.Errorf("ShowWarnings(%v, %v) = %v after DropCovered(%v)", got, warnings, b, list)
			}
		}
	}
	if dropped < 200 {
		t.Errorf("only %d are dropped", dropped)
	}
}

func TestDropCovered(t *testing.T) {
	for _, c := range []struct {
		why     string
		a, b    impl.Rule
		covered bool
	}{
		{"the same", impl.Rule{Action: 2, Word: "x", Module: "a", Line: 3}, impl.Rule{Action: 2, Word: "x", Module: "a", Line: 3}, true},
		{"another action", impl.Rule{Action: 2, Word: "x", Module: "a", Line: 3}, impl.Rule{Action: 5, Word: "x", Module: "a", Line: 3}, true},
		{"all", impl.Rule{}, impl.Rule{Action: 2, Word: "x", Module: "a", Line: 3}, true},
		{"all twice", impl.Rule{}, impl.Rule{Action: 1}, true},
		{"all behind", impl.Rule{Word: "x", Module: "a", Line: 3}, impl.Rule{}, false},
		{"any word", impl.Rule{Module: "a", Line: 3}, impl.Rule{Word: "x", Module: "a", Line: 3}, true},
		{"a word alone", impl.Rule{Word: "x", Module: "a", Line: 3}, impl.Rule{Module: "a", Line: 3}, false},
		{"another word", impl.Rule{Word: "x"}, impl.Rule{Word: "y"}, false},
		{"part of a word", impl.Rule{Word: "x"}, impl.Rule{Word: "xx"}, false},
		{"a module above", impl.Rule{Module: "a"}, impl.Rule{Module: "a.b.c"}, true},
		{"a module below", impl.Rule{Module: "a.b"}, impl.Rule{Module: "a"}, false},
		{"another module", impl.Rule{Module: "a"}, impl.Rule{Module: "ab"}, false},
		{"any line", impl.Rule{Word: "x", Module: "a"}, impl.Rule{Word: "x", Module: "a", Line: 3}, true},
		{"a line alone", impl.Rule{Line: 3}, impl.Rule{}, false},
		{"another line", impl.Rule{Line: 3}, impl.Rule{Line: 4}, false},
		{"word, but not line", impl.Rule{Line: 3}, impl.Rule{Word: "x", Module: "a", Line: 4}, false},
		{"line, but not module", impl.Rule{Module: "a"}, impl.Rule{Word: "x", Module: "b", Line: 4}, false},
	} {
		want := []impl.Rule{c.a, c.b}
		if c.covered {
			want = want[:1]
		}
		if got := impl.DropCovered([]impl.Rule{c.a, c.b}); !slices.Equal(got, want) {
			t.Errorf("%s: DropCovered = %v", c.why, got)
		}
	}
	// Each one but the last is covered by one right ahead or further ahead, or it is not; two of them together cover nothing.
	a, b, all := impl.Rule{Action: 1, Module: "a"}, impl.Rule{Action: 2, Module: "b"}, impl.Rule{Action: 3}
	list := []impl.Rule{a, b, {Action: 4, Module: "a.b"}, {Action: 0, Module: "b", Word: "x"}, all, a}
	if got := impl.DropCovered(list); !slices.Equal(got, []impl.Rule{a, b, all}) {
		t.Errorf("DropCovered(%v) = %v", list, got)
	}
	if got := impl.DropCovered(nil); len(got) > 0 {
		t.Errorf("DropCovered of none = %v", got)
	}
}
