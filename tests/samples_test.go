package tests

import (
	"fmt"
	"math/rand"
	"reflect"
	"slices"
	"strings"
	"testing"

	"loop.example/loggertree/impl"
)

// goodNames are names, many of which begin alike.
func goodNames() []string {
	return []string{
		"", "a", "aa", "ab", "abc", "abcd", "b", "z", "root", "last",
		"a.a", "a.b", "a.bc", "a.c", "aa.b", "ab.c", "abcd.e", "b.a", "b.x", "b.xy", "z.z",
		"a.b.a", "a.b.c", "a.b.cd", "a.bc.d", "a.c.b", "ab.c.d", "b.a.b", "b.x.y",
		"a.b.a.b", "a.b.c.d", "a.b.c.de", "a.b.cd.e", "a.bc.d.e", "b.x.y.z", "abcd.abcd.abcd.abcd",
	}
}

// badNames are texts that are no names.
func badNames() []string {
	return []string{
		".", "..", "a.", ".a", "a..b", "a.b.", ".a.b", "A", "aB", "a.B", "abcde", "a.abcde", "abcde.a",
		"a.b.c.d.e", "a.b.c.d.", "a b", " ", " a", "a ", "a.b ", "1", "a1", "a-b", "a/b", "`", "{", "a`", "a{",
		"\x00", "a\x00", "a\n", "é", "aé", "\xff", "a.\xc3", "a,b", "ａ", strings.Repeat("a.", 1000), strings.Repeat("a", 1000),
	}
}

// house returns a tree in which a.b and ab begin alike, a is no logger, and b stops.
func house() impl.Tree {
	return impl.Tree{
		Quiet: 5,
		Handlers: []impl.Handler{
			{Name: "out", Level: 40, Filters: []impl.Filter{{Kind: impl.FiMost, N: 50}}},
			{Name: "h"},
			{Name: "a", Level: impl.MaxLevel, Filters: []impl.Filter{{Kind: impl.FiWord, Name: "last"}, {Kind: impl.FiRaise, N: 1}, {Kind: impl.FiName, Name: "a.b"}}},
		},
		Loggers: []impl.Logger{
			{Level: 30, Handlers: []string{"out"}, Filters: []impl.Filter{{Kind: impl.FiRaise, N: impl.MaxLevel}}},
			{Name: "b.x"},
			{Name: "a.b", Level: 10, Handlers: []string{"a", "h", "out"}},
			{Name: "ab", Level: 50, Filters: []impl.Filter{{Kind: impl.FiWord, Name: "no"}}},
			{Name: "a.b.c.d", Off: true},
			{Name: "b", Level: 20, Handlers: []string{"h"}, Stop: true},
			{Name: "a.bc", Stop: true, Off: true},
		},
	}
}

// full returns a valid tree at all limits.
func full() impl.Tree {
	three := []impl.Filter{{Kind: impl.FiMost, N: impl.MaxLevel}, {Kind: impl.FiRaise, N: 1}, {Kind: impl.FiName, Name: "abcd.abcd.abcd.abcd"}}
	t := impl.Tree{Quiet: impl.MaxLevel}
	var names []string
	for _, name := range []string{"abcd", "b", "c", "d", "e", "las"} {
		names = append(names, name)
		t.Handlers = append(t.Handlers, impl.Handler{Name: name, Level: impl.MaxLevel, Filters: slices.Clone(three)})
	}
	for _, name := range []string{"", "last", "abcd", "a", "a.b", "a.b.c", "a.b.c.d", "abcd.abcd.abcd.abcd"} {
		t.Loggers = append(t.Loggers, impl.Logger{Name: name, Level: impl.MaxLevel, Handlers: slices.Clone(names), Filters: slices.Clone(three), Stop: true, Off: true})
	}
	return t
}

// bare returns the tree of a root alone.
func bare() impl.Tree {
	return impl.Tree{Loggers: []impl.Logger{{}}}
}

// grown returns a valid tree made by a source of numbers that are the same in each run.
func grown(r *rand.Rand) impl.Tree {
	words := []string{"a", "b", "out", "h", "las", "abcd"}
	r.Shuffle(len(words), func(i, j int) { words[i], words[j] = words[j], words[i] })
	t := impl.Tree{Quiet: r.Intn(3) * 10}
	for _, name := range words[:r.Intn(impl.MaxHandlers+1)] {
		t.Handlers = append(t.Handlers, impl.Handler{Name: name, Level: r.Intn(impl.MaxLevel + 1), Filters: grownFilters(r)})
	}
	names := goodNames()[1:]
	r.Shuffle(len(names), func(i, j int) { names[i], names[j] = names[j], names[i] })
	for i := range 1 + r.Intn(impl.MaxLoggers) {
		l := impl.Logger{Level: max(0, r.Intn(2*impl.MaxLevel)-impl.MaxLevel), Filters: grownFilters(r), Stop: r.Intn(3) == 0, Off: r.Intn(3) == 0}
		if i > 0 {
			l.Name = names[i]
		}
		for _, h := range r.Perm(len(t.Handlers)) {
			if r.Intn(2) == 0 {
				l.Handlers = append(l.Handlers, t.Handlers[h].Name)
			}
		}
		t.Loggers = append(t.Loggers, l)
	}
	return t
}

// grownFilters returns valid filters.
func grownFilters(r *rand.Rand) []impl.Filter {
	all := []impl.Filter{{Kind: impl.FiName, Name: "a.b"}, {Kind: impl.FiMost, N: 50}, {Kind: impl.FiWord, Name: "no"}, {Kind: impl.FiRaise, N: 20}}
	var list []impl.Filter
	for range r.Intn(impl.MaxFilters + 1) {
		list = append(list, all[r.Intn(len(all))])
	}
	return list
}

// goodTrees are valid trees: given ones and grown ones.
func goodTrees() []impl.Tree {
	list := []impl.Tree{bare(), house(), full()}
	r := rand.New(rand.NewSource(1))
	for range 200 {
		list = append(list, grown(r))
	}
	return list
}

// badTree is a tree that is not valid, and why.
type badTree struct {
	why  string
	tree impl.Tree
}

// badTrees are trees with one thing each that is not valid.
func badTrees() []badTree {
	list := []badTree{{"nothing at all", impl.Tree{}}}
	add := func(why string, change func(t *impl.Tree)) {
		t := house()
		change(&t)
		list = append(list, badTree{why, t})
	}
	for _, n := range []int{-1, impl.MaxLevel + 1, -1 << 63, 1<<63 - 1} {
		add(fmt.Sprint("Quiet ", n), func(t *impl.Tree) { t.Quiet = n })
		add(fmt.Sprint("root of level ", n), func(t *impl.Tree) { t.Loggers[0].Level = n })
		add(fmt.Sprint("logger of level ", n), func(t *impl.Tree) { t.Loggers[6].Level = n })
		add(fmt.Sprint("first handler of level ", n), func(t *impl.Tree) { t.Handlers[0].Level = n })
		add(fmt.Sprint("last handler of level ", n), func(t *impl.Tree) { t.Handlers[2].Level = n })
	}
	for _, name := range badNames() {
		add(fmt.Sprintf("logger %q", name), func(t *impl.Tree) { t.Loggers[2].Name = name })
		add(fmt.Sprintf("handler %q", name), func(t *impl.Tree) {
			t.Handlers = append(t.Handlers, impl.Handler{Name: name})
		})
	}
	for _, name := range []string{"", "a.b", "a.b.c.d", impl.LastName, "a", "out"} {
		add(fmt.Sprintf("handler %q", name), func(t *impl.Tree) {
			t.Handlers = append(t.Handlers, impl.Handler{Name: name})
		})
	}
	for _, name := range []string{"", "b", "out.h", impl.LastName, "ou", "outs", "Out"} {
		add(fmt.Sprintf("root with handler %q", name), func(t *impl.Tree) { t.Loggers[0].Handlers = []string{"out", name} })
		add(fmt.Sprintf("logger with handler %q", name), func(t *impl.Tree) { t.Loggers[6].Handlers = []string{name} })
	}
	add("handler twice in a logger", func(t *impl.Tree) { t.Loggers[2].Handlers = []string{"h", "out", "h"} })
	add("no loggers", func(t *impl.Tree) { t.Loggers = nil })
	add("root behind others", func(t *impl.Tree) { t.Loggers[0], t.Loggers[1] = t.Loggers[1], t.Loggers[0] })
	add("no root", func(t *impl.Tree) { t.Loggers = t.Loggers[1:] })
	add("root twice", func(t *impl.Tree) { t.Loggers[3].Name = "" })
	add("logger twice", func(t *impl.Tree) { t.Loggers[6].Name = "b.x" })
	add("loggers one behind the other twice", func(t *impl.Tree) { t.Loggers[2].Name = "b.x" })
	add("too many loggers", func(t *impl.Tree) { t.Loggers = append(t.Loggers, impl.Logger{Name: "x"}, impl.Logger{Name: "y"}) })
	add("too many handlers", func(t *impl.Tree) {
		for _, name := range []string{"b", "c", "d", "e"} {
			t.Handlers = append(t.Handlers, impl.Handler{Name: name})
		}
	})
	for i, f := range badFilters() {
		add(fmt.Sprint("filters of the root ", i), func(t *impl.Tree) { t.Loggers[0].Filters = f })
		add(fmt.Sprint("filters of a logger ", i), func(t *impl.Tree) { t.Loggers[6].Filters = f })
		add(fmt.Sprint("filters of the first handler ", i), func(t *impl.Tree) { t.Handlers[0].Filters = f })
		add(fmt.Sprint("filters of the last handler ", i), func(t *impl.Tree) { t.Handlers[2].Filters = f })
	}
	return list
}

// badFilters are lists of filters that are not valid.
func badFilters() [][]impl.Filter {
	ok := impl.Filter{Kind: impl.FiMost, N: 30}
	list := [][]impl.Filter{
		{ok, ok, ok, ok},
		{{Kind: impl.FiName}}, {{Kind: impl.FiName, Name: "a", N: 1}}, {{Kind: impl.FiName, Name: "a", N: -1}},
		{{Kind: impl.FiWord}}, {{Kind: impl.FiWord, Name: "a.b"}}, {{Kind: impl.FiWord, Name: "a", N: 1}}, {{Kind: impl.FiWord, Name: "a", N: -1}},
		{{Kind: impl.FiMost, Name: "a", N: 30}}, {{Kind: impl.FiRaise, Name: "a", N: 30}},
		{{Kind: -1, N: 1}}, {{Kind: 4, N: 1}}, {{Kind: -1, Name: "a"}}, {{Kind: 4, Name: "a"}}, {{Kind: 4}},
		{ok, {Kind: impl.FiName}}, {ok, ok, {Kind: impl.FiWord}}, {{Kind: 4}, ok},
	}
	for _, n := range []int{0, -1, impl.MaxLevel + 1, -1 << 63, 1<<63 - 1} {
		list = append(list, []impl.Filter{{Kind: impl.FiMost, N: n}}, []impl.Filter{{Kind: impl.FiRaise, N: n}}, []impl.Filter{ok, {Kind: impl.FiMost, N: n}})
	}
	for _, name := range badNames() {
		list = append(list, []impl.Filter{{Kind: impl.FiName, Name: name}}, []impl.Filter{{Kind: impl.FiWord, Name: name}})
	}
	return list
}

// plain returns a tree in which all lists without elements are nil, in memory of its own.
func plain(t impl.Tree) impl.Tree {
	t.Loggers = append([]impl.Logger(nil), t.Loggers...)
	for i := range t.Loggers {
		t.Loggers[i].Handlers = append([]string(nil), t.Loggers[i].Handlers...)
		t.Loggers[i].Filters = append([]impl.Filter(nil), t.Loggers[i].Filters...)
	}
	t.Handlers = append([]impl.Handler(nil), t.Handlers...)
	for i := range t.Handlers {
		t.Handlers[i].Filters = append([]impl.Filter(nil), t.Handlers[i].Filters...)
	}
	return t
}

// sameTree reports whether two trees are the same, where nil and no elements are one.
func sameTree(a, b impl.Tree) bool {
	return reflect.DeepEqual(plain(a), plain(b))
}

// namesOf returns the names of the loggers of a tree.
func namesOf(t impl.Tree) []string {
	var list []string
	for _, l := range t.Loggers {
		list = append(list, l.Name)
	}
	return list
}

// cutName returns a name without its last word.
func cutName(name string) string {
	words := strings.Split(name, ".")
	return strings.Join(words[:len(words)-1], ".")
}

// mustTree returns the tree of two results, the second one of which must be true.
func mustTree(t *testing.T, what string) func(x impl.Tree, ok bool) impl.Tree {
	t.Helper()
	return func(x impl.Tree, ok bool) impl.Tree {
		t.Helper()
		if !ok || !impl.ValidTree(x) {
			t.Fatalf("%s = %v, %v", what, x, ok)
		}
		return x
	}
}

// mustFail checks that two results are the zero value and false.
func mustFail(t *testing.T, what string) func(x impl.Tree, ok bool) {
	t.Helper()
	return func(x impl.Tree, ok bool) {
		t.Helper()
		if ok || !sameTree(x, impl.Tree{}) {
			t.Errorf("%s = %v, %v", what, x, ok)
		}
	}
}
