package tests

import (
	"fmt"
	"math/rand"
	"regexp"
	"slices"
	"strings"

	"loop.example/loggertree/impl"
)

// goodWords are words, ones of the least and of the greatest length among them.
func goodWords() []string {
	return []string{"a", "b", "z", "id", "user", "job", "abcd", "root", "last"}
}

// noWords are texts that are no words.
func noWords() []string {
	return append(badNames(), "", "a.b", "a.b.c.d", "a=b", "=", "a=", "=a")
}

// grownFields returns valid fields of different keys.
func grownFields(r *rand.Rand, n int) []impl.Field {
	var list []impl.Field
	words := goodWords()
	for _, i := range r.Perm(len(words))[:n] {
		list = append(list, impl.Field{Key: words[i], Value: words[r.Intn(len(words))]})
	}
	return list
}

// goodFields are lists of valid fields: given ones and grown ones.
func goodFields() [][]impl.Field {
	list := [][]impl.Field{
		nil, {}, {{Key: "id", Value: "a"}}, {{Key: "a", Value: "a"}, {Key: "aa", Value: "a"}},
		{{Key: "abcd", Value: "abcd"}, {Key: "zzzz", Value: "zzzz"}, {Key: "a", Value: "zzzz"}, {Key: "z", Value: "zzzz"}, {Key: "last", Value: "root"}},
	}
	r := rand.New(rand.NewSource(21))
	for i := range 120 {
		list = append(list, grownFields(r, i%(impl.MaxFields+1)))
	}
	return list
}

// badFieldList is a list of fields that is not valid, and why.
type badFieldList struct {
	why  string
	list []impl.Field
}

// badFieldLists are lists of fields with one thing each that is not valid.
func badFieldLists() []badFieldList {
	three := func() []impl.Field {
		return []impl.Field{{Key: "id", Value: "a"}, {Key: "user", Value: "b"}, {Key: "job", Value: "a"}}
	}
	var many []impl.Field
	for _, key := range goodWords()[:impl.MaxFields+1] {
		many = append(many, impl.Field{Key: key, Value: "a"})
	}
	list := []badFieldList{{"too many fields", many}, {"far too many fields", slices.Repeat(three(), 1000)}}
	for _, c := range [][2]int{{0, 1}, {0, 2}, {1, 2}} {
		twice := three()
		twice[c[1]].Key = twice[c[0]].Key
		list = append(list, badFieldList{fmt.Sprint("one key at ", c), twice})
		twice[c[1]].Value = twice[c[0]].Value
		list = append(list, badFieldList{fmt.Sprint("one field at ", c), slices.Clone(twice)})
	}
	for i := range three() {
		for _, s := range noWords() {
			key, value := three(), three()
			key[i].Key, value[i].Value = s, s
			list = append(list, badFieldList{fmt.Sprintf("key %q at %d", s, i), key}, badFieldList{fmt.Sprintf("value %q at %d", s, i), value})
		}
	}
	return list
}

// fieldsShape is the shape of the text of fields.
var fieldsShape = regexp.MustCompile(`\A(?:[a-z]{1,4}=[a-z]{1,4}(?: [a-z]{1,4}=[a-z]{1,4}){0,4})?\z`)

// wantFields returns ParseFields of a text, told in another way than the program: by shapes.
func wantFields(s string) ([]impl.Field, bool) {
	if !fieldsShape.MatchString(s) {
		return nil, false
	}
	var list []impl.Field
	keys := map[string]bool{}
	for _, text := range strings.Fields(s) {
		parts := strings.Split(text, "=")
		list = append(list, impl.Field{Key: parts[0], Value: parts[1]})
		keys[parts[0]] = true
	}
	if len(keys) < len(list) {
		return nil, false
	}
	return list, true
}

// rule returns the rule of an action for all warnings.
func rule(action int) impl.Rule {
	return impl.Rule{Action: action}
}

// allActions are the actions, from the one that shows least to the one that shows most, and then the one that raises.
func allActions() []int {
	return []int{impl.AcIgnore, impl.AcOnce, impl.AcModule, impl.AcPlace, impl.AcAlways, impl.AcRaise}
}

// grownRules returns valid rules, many of which cover others.
func grownRules(r *rand.Rand, n int) []impl.Rule {
	var list []impl.Rule
	for range n {
		list = append(list, impl.Rule{
			Action: []int{0, 1, 2, 2, 3, 3, 4, 4, 5}[r.Intn(9)],
			Word:   []string{"", "", "old", "x"}[r.Intn(4)],
			Module: []string{"", "", "a", "a.b", "ab", "b"}[r.Intn(6)],
			Line:   []int{0, 0, 0, 1, 2}[r.Intn(5)],
		})
	}
	return list
}

// goodRules are lists of valid rules: given ones and grown ones.
func goodRules() [][]impl.Rule {
	list := [][]impl.Rule{nil, {}, slices.Repeat([]impl.Rule{{}}, impl.MaxRules), {{Action: impl.AcRaise, Word: "abcd", Module: "abcd.abcd.abcd.abcd", Line: impl.MaxSeq}}}
	for _, action := range allActions() {
		list = append(list, []impl.Rule{rule(action)}, []impl.Rule{{Action: action, Word: "x", Module: "a", Line: 1}})
	}
	r := rand.New(rand.NewSource(22))
	for i := range 300 {
		list = append(list, grownRules(r, i%(impl.MaxRules+1)))
	}
	return list
}

// badRule is a rule that is not valid, and why.
type badRule struct {
	why  string
	rule impl.Rule
}

// badRules are rules with one thing each that is not valid.
func badRules() []badRule {
	var list []badRule
	add := func(why string, change func(x *impl.Rule)) {
		x := impl.Rule{Action: impl.AcOnce, Word: "x", Module: "a.b", Line: 7}
		change(&x)
		list = append(list, badRule{why, x})
	}
	for _, n := range append(badNumbers(), impl.AcRaise+1) {
		add(fmt.Sprint("action ", n), func(x *impl.Rule) { x.Action = n })
	}
	for _, n := range append(badNumbers(), impl.MaxSeq+1) {
		add(fmt.Sprint("line ", n), func(x *impl.Rule) { x.Line = n })
	}
	for _, s := range append(badNames(), "a.b", "a.b.c.d", "x ", "old x") {
		add(fmt.Sprintf("word %q", s), func(x *impl.Rule) { x.Word = s })
	}
	for _, s := range badNames() {
		add(fmt.Sprintf("module %q", s), func(x *impl.Rule) { x.Module = s })
	}
	return list
}

// badRuleList is a list of rules that is not valid, and why.
type badRuleList struct {
	why  string
	list []impl.Rule
}

// badRuleLists are lists of rules with one thing each that is not valid.
func badRuleLists() []badRuleList {
	ok := impl.Rule{Action: impl.AcAlways}
	list := []badRuleList{{"too many rules", slices.Repeat([]impl.Rule{ok}, impl.MaxRules+1)}, {"far too many rules", slices.Repeat([]impl.Rule{ok}, 1000)}}
	for _, b := range badRules() {
		list = append(list, badRuleList{b.why, []impl.Rule{b.rule}}, badRuleList{b.why + " first", []impl.Rule{b.rule, ok, ok}}, badRuleList{b.why + " last", []impl.Rule{ok, ok, b.rule}})
	}
	return list
}

// grownWarnings returns valid warnings, many of which are alike.
func grownWarnings(r *rand.Rand, n int) []impl.Warning {
	var list []impl.Warning
	for range n {
		list = append(list, impl.Warning{
			Text:   []string{"", "x", "x", "old x", "old"}[r.Intn(5)],
			Module: []string{"", "a", "a", "a.b", "ab"}[r.Intn(5)],
			Line:   1 + r.Intn(3),
		})
	}
	return list
}

// goodWarnings are lists of valid warnings: given ones and grown ones.
func goodWarnings() [][]impl.Warning {
	list := [][]impl.Warning{nil, {}, slices.Repeat([]impl.Warning{{Line: 1}}, impl.MaxRecords), {{Text: "abcdefghijkl", Module: "abcd.abcd.abcd.abcd", Line: impl.MaxSeq}}}
	for _, text := range goodTexts() {
		list = append(list, []impl.Warning{{Text: text, Line: 1}, {Text: text, Module: "a", Line: 1}, {Text: text, Line: 1}})
	}
	r := rand.New(rand.NewSource(23))
	for i := range 150 {
		list = append(list, grownWarnings(r, i%(impl.MaxRecords+1)))
	}
	return list
}

// badWarning is a warning that is not valid, and why.
type badWarning struct {
	why     string
	warning impl.Warning
}

// badWarnings are warnings with one thing each that is not valid.
func badWarnings() []badWarning {
	list := []badWarning{{"nothing at all", impl.Warning{}}}
	add := func(why string, change func(w *impl.Warning)) {
		w := impl.Warning{Text: "old x", Module: "a.b", Line: 7}
		change(&w)
		list = append(list, badWarning{why, w})
	}
	for _, n := range append(badNumbers(), 0, impl.MaxSeq+1) {
		add(fmt.Sprint("line ", n), func(w *impl.Warning) { w.Line = n })
	}
	for _, s := range badTexts() {
		add(fmt.Sprintf("text %q", s), func(w *impl.Warning) { w.Text = s })
	}
	for _, s := range badNames() {
		add(fmt.Sprintf("module %q", s), func(w *impl.Warning) { w.Module = s })
	}
	return list
}

// badWarningList is a list of warnings that is not valid, and why.
type badWarningList struct {
	why  string
	list []impl.Warning
}

// badWarningLists are lists of warnings with one thing each that is not valid.
func badWarningLists() []badWarningList {
	ok := impl.Warning{Text: "x", Line: 1}
	list := []badWarningList{{"too many warnings", slices.Repeat([]impl.Warning{ok}, impl.MaxRecords+1)}, {"far too many warnings", slices.Repeat([]impl.Warning{ok}, 1000)}}
	for _, b := range badWarnings() {
		list = append(list, badWarningList{b.why, []impl.Warning{b.warning}}, badWarningList{b.why + " first", []impl.Warning{b.warning, ok, ok}}, badWarningList{b.why + " last", []impl.Warning{ok, ok, b.warning}})
	}
	return list
}

// has reports whether a rule has a warning, told in another way than the program.
func has(x impl.Rule, w impl.Warning) bool {
	word := x.Word == "" || strings.Contains(" "+w.Text+" ", " "+x.Word+" ")
	return word && lies(w.Module, x.Module) && x.Line*(x.Line-w.Line) == 0
}

// wantShown returns ShowWarnings of valid arguments, told in another way than the program: by all that was shown ahead.
func wantShown(rules []impl.Rule, list []impl.Warning) ([]int, bool) {
	var shown []int
	var counted []impl.Warning
	for i, w := range list {
		action := impl.AcPlace
		for _, x := range slices.Backward(rules) {
			if has(x, w) {
				action = x.Action
			}
		}
		texts, modules, places := 0, 0, 0
		for _, old := range counted {
			if old.Text == w.Text {
				texts++
				if old.Module == w.Module {
					modules++
					if old.Line == w.Line {
						places++
					}
				}
			}
		}
		again, three := map[int]int{impl.AcOnce: texts, impl.AcModule: modules, impl.AcPlace: places}[action]
		if three && again == 0 {
			counted = append(counted, w)
		}
		if action == impl.AcAlways || action == impl.AcRaise || three && again == 0 {
			shown = append(shown, i)
		}
		if action == impl.AcRaise {
			return shown, true
		}
	}
	return shown, false
}

// recordsFor returns the records of those of some warnings that are shown.
func recordsFor(list []impl.Warning, shown []int) []impl.Record {
	var records []impl.Record
	for _, i := range shown {
		records = append(records, impl.Record{Name: list[i].Module, Level: 30, Text: list[i].Text, Seq: list[i].Line})
	}
	return records
}
