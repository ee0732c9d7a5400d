package tests

import (
	"slices"
	"testing"

	"loop.example/loggertree/impl"
)

// Promise 5: a valid tree has a logger of no name, and is valid with it alone.
func TestTreesHaveARoot(t *testing.T) {
	for _, x := range goodTrees() {
		if !impl.ValidTree(x) {
			t.Fatalf("ValidTree(%v) = false", x)
		}
		if impl.LoggerAt(x, "") != 0 || x.Loggers[0].Name != "" {
			t.Errorf("root of %v at %d", x, impl.LoggerAt(x, ""))
		}
		x.Loggers = x.Loggers[:1]
		if !impl.ValidTree(x) {
			t.Errorf("ValidTree(%v) = false", x)
		}
	}
}

func TestTreesThatAreNotValid(t *testing.T) {
	for _, b := range badTrees() {
		if impl.ValidTree(b.tree) {
			t.Errorf("ValidTree with %s", b.why)
		}
	}
}

func TestTreesAtTheirLimits(t *testing.T) {
	check := func(why string, change func(x *impl.Tree)) {
		x := house()
		change(&x)
		if !impl.ValidTree(x) {
			t.Errorf("ValidTree(%v) = false with %s", x, why)
		}
	}
	check("nothing changed", func(x *impl.Tree) {})
	check("the greatest Quiet", func(x *impl.Tree) { x.Quiet = impl.MaxLevel })
	check("no Quiet", func(x *impl.Tree) { x.Quiet = 0 })
	check("the greatest level of the root", func(x *impl.Tree) { x.Loggers[0].Level = impl.MaxLevel })
	check("the greatest level of a handler", func(x *impl.Tree) { x.Handlers[0].Level = impl.MaxLevel })
	check("a logger of the name of the last resort", func(x *impl.Tree) { x.Loggers[1].Name = impl.LastName })
	check("a handler with a name that begins like that of the last resort", func(x *impl.Tree) { x.Handlers[2].Name, x.Loggers[2].Handlers = "las", []string{"las"} })
	check("eight loggers", func(x *impl.Tree) { x.Loggers = append(x.Loggers, impl.Logger{Name: "a.b.c.e"}) })
	check("six handlers", func(x *impl.Tree) {
		x.Handlers = append(x.Handlers, impl.Handler{Name: "b"}, impl.Handler{Name: "c"}, impl.Handler{Name: "abcd"})
	})
	check("one handler in several loggers", func(x *impl.Tree) {
		for i := range x.Loggers {
			x.Loggers[i].Handlers = []string{"h", "out"}
		}
	})
	check("empty lists", func(x *impl.Tree) {
		x.Handlers = []impl.Handler{}
		for i := range x.Loggers {
			x.Loggers[i].Handlers, x.Loggers[i].Filters = []string{}, []impl.Filter{}
		}
	})
	check("no handlers", func(x *impl.Tree) {
		x.Handlers = nil
		for i := range x.Loggers {
			x.Loggers[i].Handlers = nil
		}
	})
}

// filterLists are valid filters.
func filterLists() [][]impl.Filter {
	list := [][]impl.Filter{nil, {}}
	for _, n := range []int{1, 30, impl.MaxLevel} {
		list = append(list, []impl.Filter{{Kind: impl.FiMost, N: n}}, []impl.Filter{{Kind: impl.FiRaise, N: n}})
	}
	for _, name := range goodNames()[1:] {
		f := impl.Filter{Kind: impl.FiName, Name: name}
		list = append(list, []impl.Filter{f}, []impl.Filter{f, f, f}, []impl.Filter{{Kind: impl.FiMost, N: 1}, f})
		if len(impl.PartsOf(name)) == 1 {
			list = append(list, []impl.Filter{{Kind: impl.FiWord, Name: name}, {Kind: impl.FiRaise, N: 60}, f})
		}
	}
	return list
}

// Promise 6: valid filters are valid without the last one.
func TestFiltersCanBeCut(t *testing.T) {
	for _, list := range filterLists() {
		for n := len(list); n >= 0; n-- {
			if !impl.ValidFilters(list[:n]) {
				t.Errorf("ValidFilters(%v) = false", list[:n])
			}
		}
	}
	for _, list := range badFilters() {
		if impl.ValidFilters(list) {
			t.Errorf("ValidFilters(%v) = true", list)
		}
	}
	ok := impl.Filter{Kind: impl.FiRaise, N: 1}
	for n := range 10 {
		if impl.ValidFilters(slices.Repeat([]impl.Filter{ok}, n)) != (n <= 3) {
			t.Errorf("ValidFilters of %d", n)
		}
	}
	for _, f := range badFilters()[1:] { // each place of a list counts
		if len(f) == 1 && (impl.ValidFilters([]impl.Filter{f[0], ok}) || impl.ValidFilters([]impl.Filter{ok, f[0], ok}) || impl.ValidFilters([]impl.Filter{ok, ok, f[0]})) {
			t.Errorf("ValidFilters with %v", f)
		}
	}
}
