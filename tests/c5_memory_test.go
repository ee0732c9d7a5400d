package tests

import (
	"slices"
	"testing"

	"loop.example/loggertree/impl"
)

// roomyFields returns a copy of lists of fields, all of which have spare capacity.
func roomyFields(stack [][]impl.Field) [][]impl.Field {
	stack = roomyList(stack, []impl.Field{{Key: "left", Value: "left"}})
	for i := range stack {
		stack[i] = roomyList(stack[i], impl.Field{Key: "left", Value: "left"})
	}
	return stack
}

func TestWarningFieldsShareNothing(t *testing.T) {
	lists := goodFields()[2:30]
	for _, b := range badFieldLists()[:40] {
		lists = append(lists, b.list)
	}
	for _, list := range lists {
		for n := range impl.MaxStack + 2 {
			stack := [][]impl.Field{list}
			for range n {
				stack = append(stack, []impl.Field{{Key: "id", Value: "x"}, {Key: "new", Value: "y"}})
			}
			stack = roomyFields(stack)
			before := wholeLists(stack)
			first, second := impl.FlatFields(stack), impl.FlatFields(stack)
			impl.ValidFields(stack[0])
			impl.FieldsText(stack[0])
			checkSame(t, "FlatFields", before, wholeLists(stack))
			if !slices.Equal(first, second) {
				t.Errorf("FlatFields differs the second time: %v, %v", first, second)
			}
			p := places{}
			addPlaces(t, p, stack, "the lists of FlatFields")
			for _, list := range stack { // the spare lists are one
				addPlaces(t, p, list, "the fields of FlatFields")
			}
			addPlaces(t, p, first, "the result of FlatFields")
			addPlaces(t, p, second, "the second result of FlatFields")
		}
	}
	for _, s := range []string{"", "id=a", "id=a user=b", "id"} {
		first, ok := impl.ParseFields(s)
		second, again := impl.ParseFields(s)
		p := places{}
		addPlaces(t, p, first, "the result of ParseFields")
		addPlaces(t, p, second, "the second result of ParseFields")
		if ok != again || !slices.Equal(first, second) {
			t.Errorf("ParseFields(%q) differs the second time: %v, %v", s, first, second)
		}
	}
}

// ruleCalls are calls of all functions of the chapter that return rules.
func ruleCalls() map[string]func(list []impl.Rule) []impl.Rule {
	add := func(x impl.Rule, front bool) func(list []impl.Rule) []impl.Rule {
		return func(list []impl.Rule) []impl.Rule {
			rules, _ := impl.AddRule(list, x, front)
			return rules
		}
	}
	own := func(front bool) func(list []impl.Rule) []impl.Rule {
		return func(list []impl.Rule) []impl.Rule { return add(list[0], front)(list) }
	}
	return map[string]func(list []impl.Rule) []impl.Rule{
		"AddRule to the front":       add(impl.Rule{Word: "new"}, true),
		"AddRule to the end":         add(impl.Rule{Word: "new"}, false),
		"AddRule to the front of no": add(impl.Rule{Action: -1}, true),
		"AddRule to the end of no":   add(impl.Rule{Action: -1}, false),
		"AddRule of its own":         own(true),
		"AddRule of its own first":   own(false),
		"DropCovered":                impl.DropCovered,
	}
}

func TestRulesShareNothing(t *testing.T) {
	lists := goodRules()[2:]
	for _, b := range badRuleLists() {
		lists = append(lists, b.list)
	}
	for what, call := range ruleCalls() {
		for _, given := range lists {
			if len(given) == 0 {
				continue
			}
			list := roomyList(given, impl.Rule{Word: "left"})
			before := slices.Clone(wholeList(list))
			first, second := call(list), call(list)
			checkSame(t, what, before, wholeList(list))
			if !slices.Equal(first, second) {
				t.Errorf("%s differs the second time: %v, %v", what, first, second)
			}
			p := places{}
			addPlaces(t, p, list, "the rules of "+what)
			addPlaces(t, p, first, "the result of "+what)
			addPlaces(t, p, second, "the second result of "+what)
		}
	}
}

func TestWarningsShareNothing(t *testing.T) {
	warnings := [][]impl.Warning{nil, {{Text: "x", Module: "a", Line: 1}, {Text: "x", Module: "b", Line: 1}, {Text: "y", Line: 7}}}
	for _, b := range badWarningLists() {
		warnings = append(warnings, b.list)
	}
	rules := append([][]impl.Rule{{{Action: impl.AcRaise, Module: "b"}}, {{Action: impl.AcAlways}}, {{Action: -1}}}, goodRules()[:30]...)
	for _, given := range warnings {
		for _, all := range rules {
			list, some := roomyList(given, impl.Warning{Text: "left"}), roomyList(all, impl.Rule{Word: "left"})
			listBefore, someBefore := slices.Clone(wholeList(list)), slices.Clone(wholeList(some))
			x := roomy(house())
			p := places{}
			checkKept(t, "CaptureWarnings", x, func() {
				a, b := impl.CaptureWarnings(x, some, list), impl.CaptureWarnings(x, some, list)
				if !slices.Equal(a, b) {
					t.Errorf("CaptureWarnings differs the second time: %v, %v", a, b)
				}
				addPlaces(t, p, a, "the result of CaptureWarnings")
				addPlaces(t, p, b, "the second result of CaptureWarnings")
			})
			a, raisedA := impl.ShowWarnings(some, list)
			b, raisedB := impl.ShowWarnings(some, list)
			if raisedA != raisedB || !slices.Equal(a, b) {
				t.Errorf("ShowWarnings differs the second time: %v, %v", a, b)
			}
			addPlaces(t, p, a, "the result of ShowWarnings")
			addPlaces(t, p, b, "the second result of ShowWarnings")
			impl.ValidWarnings(list)
			impl.ValidRules(some)
			for _, w := range given {
				impl.RuleOf(some, w)
			}
			checkSame(t, "ShowWarnings", listBefore, slices.Clone(wholeList(list)))
			checkSame(t, "ShowWarnings", someBefore, slices.Clone(wholeList(some)))
		}
	}
}

func TestDesksChangeNothing(t *testing.T) {
	for _, text := range []string{houseText, "x"} {
		for _, n := range []int{0, 1, impl.MaxDesk, impl.MaxDesk + 1} {
			lines := roomyList(slices.Repeat([]string{"send a.b error", "", "path a"}, n)[:n], "left")
			before := slices.Clone(wholeList(lines))
			if first, second := impl.RunDesk(text, lines), impl.RunDesk(text, lines); first != second {
				t.Errorf("RunDesk differs the second time: %q, %q", first, second)
			}
			checkSame(t, "RunDesk", before, wholeList(lines))
		}
	}
}
