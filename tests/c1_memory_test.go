package tests

import (
	"reflect"
	"testing"

	"loop.example/loggertree/impl"
)

// roomyList returns a copy of a list with spare capacity that holds something.
func roomyList[T any](list []T, spare T) []T {
	out := append(append(make([]T, 0, len(list)+2), list...), spare, spare)
	return out[:len(list)]
}

// roomy returns a copy of a tree, all lists of which have spare capacity.
func roomy(x impl.Tree) impl.Tree {
	x.Loggers = roomyList(x.Loggers, impl.Logger{Name: "left"})
	for i := range x.Loggers {
		l := &x.Loggers[i]
		l.Handlers = roomyList(l.Handlers, "left")
		l.Filters = roomyList(l.Filters, impl.Filter{Name: "left"})
	}
	x.Handlers = roomyList(x.Handlers, impl.Handler{Name: "left"})
	for i := range x.Handlers {
		h := &x.Handlers[i]
		h.Filters = roomyList(h.Filters, impl.Filter{Name: "left"})
	}
	return x
}

// wholeList returns a list with its spare capacity.
func wholeList[T any](list []T) []T {
	return list[:cap(list)]
}

// whole returns a copy of a tree in which all spare capacity is part of its list.
func whole(x impl.Tree) impl.Tree {
	x.Loggers = append([]impl.Logger(nil), wholeList(x.Loggers)...)
	x.Handlers = append([]impl.Handler(nil), wholeList(x.Handlers)...)
	for i := range x.Loggers {
		l := &x.Loggers[i]
		l.Handlers, l.Filters = wholeList(l.Handlers), wholeList(l.Filters)
	}
	for i := range x.Handlers {
		x.Handlers[i].Filters = wholeList(x.Handlers[i].Filters)
	}
	return plain(x)
}

// places are the addresses of elements of lists, spare ones too, and whose they are.
type places map[any]string

// addPlaces adds the addresses of a list to places, and reports each one that is there already.
func addPlaces[T any](t *testing.T, p places, list []T, whose string) {
	t.Helper()
	list = wholeList(list)
	for i := range list {
		if old, ok := p[&list[i]]; ok {
			t.Errorf("%s shares memory with %s", whose, old)
		}
		p[&list[i]] = whose
	}
}

// addTree adds the addresses of all lists of a tree to places.
func addTree(t *testing.T, p places, x impl.Tree, whose string) {
	t.Helper()
	addPlaces(t, p, x.Loggers, whose)
	for _, l := range wholeList(x.Loggers) {
		addPlaces(t, p, l.Handlers, whose)
		addPlaces(t, p, l.Filters, whose)
	}
	addPlaces(t, p, x.Handlers, whose)
	for _, h := range wholeList(x.Handlers) {
		addPlaces(t, p, h.Filters, whose)
	}
}

// editCalls are calls of all functions of the chapter that return a tree.
func editCalls() map[string]func(x impl.Tree) (impl.Tree, bool) {
	return map[string]func(x impl.Tree) (impl.Tree, bool){
		"AddLogger":               func(x impl.Tree) (impl.Tree, bool) { return impl.AddLogger(x, "new") },
		"AddLogger of a logger":   func(x impl.Tree) (impl.Tree, bool) { return impl.AddLogger(x, "a.b") },
		"AddLogger of the root":   func(x impl.Tree) (impl.Tree, bool) { return impl.AddLogger(x, "") },
		"AddLogger of no name":    func(x impl.Tree) (impl.Tree, bool) { return impl.AddLogger(x, "a..b") },
		"DropLogger":              func(x impl.Tree) (impl.Tree, bool) { return impl.DropLogger(x, "a.b") },
		"DropLogger of the last":  func(x impl.Tree) (impl.Tree, bool) { return impl.DropLogger(x, "a.bc") },
		"DropLogger of the root":  func(x impl.Tree) (impl.Tree, bool) { return impl.DropLogger(x, "") },
		"SetLevel":                func(x impl.Tree) (impl.Tree, bool) { return impl.SetLevel(x, "a.b", 59) },
		"SetLevel of the root":    func(x impl.Tree) (impl.Tree, bool) { return impl.SetLevel(x, "", 0) },
		"SetLevel as before":      func(x impl.Tree) (impl.Tree, bool) { return impl.SetLevel(x, "a.b", 10) },
		"SetLevel out of range":   func(x impl.Tree) (impl.Tree, bool) { return impl.SetLevel(x, "a.b", 61) },
		"SetStop":                 func(x impl.Tree) (impl.Tree, bool) { return impl.SetStop(x, "a.b", true) },
		"SetStop as before":       func(x impl.Tree) (impl.Tree, bool) { return impl.SetStop(x, "a.b", false) },
		"SetOff":                  func(x impl.Tree) (impl.Tree, bool) { return impl.SetOff(x, "a.b", true) },
		"SetOff as before":        func(x impl.Tree) (impl.Tree, bool) { return impl.SetOff(x, "a.b", false) },
		"SetQuiet":                func(x impl.Tree) (impl.Tree, bool) { return impl.SetQuiet(x, 59) },
		"SetQuiet as before":      func(x impl.Tree) (impl.Tree, bool) { return impl.SetQuiet(x, 5) },
		"SetQuiet out of range":   func(x impl.Tree) (impl.Tree, bool) { return impl.SetQuiet(x, 61) },
		"MoveBranch":              func(x impl.Tree) (impl.Tree, bool) { return impl.MoveBranch(x, "a.b", "z") },
		"MoveBranch to the place": func(x impl.Tree) (impl.Tree, bool) { return impl.MoveBranch(x, "a.b", "a.b") },
		"MoveBranch to a logger":  func(x impl.Tree) (impl.Tree, bool) { return impl.MoveBranch(x, "a.b", "ab") },
		"MoveBranch too deep":     func(x impl.Tree) (impl.Tree, bool) { return impl.MoveBranch(x, "a.b", "a.b.c") },
	}
}

// listCalls are calls of all functions of the chapter that return a list.
func listCalls() map[string]func(x impl.Tree) []string {
	return map[string]func(x impl.Tree) []string{
		"PartsOf":                  func(x impl.Tree) []string { return impl.PartsOf(x.Loggers[4].Name) },
		"PartsOf one word":         func(x impl.Tree) []string { return impl.PartsOf("a") },
		"PathOf":                   func(x impl.Tree) []string { return impl.PathOf(x, "a.b.c.d") },
		"PathOf the root":          func(x impl.Tree) []string { return impl.PathOf(x, "") },
		"ChildrenOf":               func(x impl.Tree) []string { return impl.ChildrenOf(x, "") },
		"ChildrenOf one with none": func(x impl.Tree) []string { return impl.ChildrenOf(x, "ab") },
		"BranchOf":                 func(x impl.Tree) []string { return impl.BranchOf(x, "a") },
		"BranchOf the root":        func(x impl.Tree) []string { return impl.BranchOf(x, "") },
		"BranchOf none":            func(x impl.Tree) []string { return impl.BranchOf(x, "zz") },
	}
}

// lookCalls are calls of all functions of the chapter that return neither a tree nor a list.
func lookCalls() map[string]func(x impl.Tree) {
	return map[string]func(x impl.Tree){
		"ValidTree": func(x impl.Tree) { impl.ValidTree(x) },
		"ValidFilters": func(x impl.Tree) {
			impl.ValidFilters(x.Handlers[2].Filters)
			impl.ValidFilters(x.Handlers[1].Filters)
		},
		"LoggerAt":       func(x impl.Tree) { impl.LoggerAt(x, "b") },
		"NearestTo":      func(x impl.Tree) { impl.NearestTo(x, "a.b.c") },
		"ParentOf":       func(x impl.Tree) { impl.ParentOf(x, "a.b.c.d") },
		"EffectiveLevel": func(x impl.Tree) { impl.EffectiveLevel(x, "a.b.c.d") },
		"IsEnabled":      func(x impl.Tree) { impl.IsEnabled(x, "a.b", 30) },
	}
}

// checkKept checks that a call leaves a tree as it is, spare capacity and all.
func checkKept(t *testing.T, what string, x impl.Tree, call func()) {
	t.Helper()
	before := whole(x)
	call()
	if !reflect.DeepEqual(before, whole(x)) {
		t.Errorf("%s makes %v of %v", what, whole(x), before)
	}
}

func TestEditsShareNothing(t *testing.T) {
	for what, call := range editCalls() {
		for _, x := range []impl.Tree{roomy(house()), house()} {
			var y, z impl.Tree
			checkKept(t, what, x, func() { y, _ = call(x) })
			checkKept(t, what, x, func() { z, _ = call(x) })
			if !sameTree(y, z) {
				t.Errorf("%s differs the second time: %v, %v", what, y, z)
			}
			p := places{}
			addTree(t, p, x, "the argument of "+what)
			addTree(t, p, y, "the result of "+what)
			addTree(t, p, z, "the second result of "+what)
		}
	}
}

func TestListsShareNothing(t *testing.T) {
	for what, call := range listCalls() {
		x := roomy(house())
		var a, b []string
		checkKept(t, what, x, func() { a = call(x) })
		checkKept(t, what, x, func() { b = call(x) })
		if len(a) != len(b) || len(a) > 0 && !reflect.DeepEqual(a, b) {
			t.Errorf("%s differs the second time: %q, %q", what, a, b)
		}
		p := places{}
		addTree(t, p, x, "the argument of "+what)
		addPlaces(t, p, a, "the result of "+what)
		addPlaces(t, p, b, "the second result of "+what)
		for _, bad := range badTrees() {
			if len(bad.tree.Loggers) > 4 {
				x := roomy(bad.tree)
				checkKept(t, what+" with "+bad.why, x, func() { call(x) })
			}
		}
	}
}

func TestLooksChangeNothing(t *testing.T) {
	for what, call := range lookCalls() {
		x := roomy(house())
		checkKept(t, what, x, func() { call(x) })
		for _, b := range badTrees() {
			if len(b.tree.Handlers) < 3 {
				continue
			}
			x := roomy(b.tree)
			checkKept(t, what+" with "+b.why, x, func() { call(x) })
		}
	}
}

func TestEditsOfWhatIsNotValidChangeNothing(t *testing.T) {
	for what, call := range editCalls() {
		for _, b := range badTrees() {
			x := roomy(b.tree)
			checkKept(t, what+" with "+b.why, x, func() { call(x) })
		}
	}
}

// TestResultsAreNotKept checks that what a caller does with results changes no later ones.
func TestResultsAreNotKept(t *testing.T) {
	for what, call := range editCalls() {
		x := house()
		y, ok := call(x)
		if !ok {
			continue
		}
		want := plain(y)
		for i := range y.Loggers {
			l := &y.Loggers[i]
			for j := range l.Handlers {
				l.Handlers[j] = "spoilt"
			}
			for j := range l.Filters {
				l.Filters[j].N = -9
			}
			l.Name, l.Level = "spoilt", -9
		}
		if !sameTree(x, house()) {
			t.Errorf("the result of %s spoils its argument", what)
		}
		if again, _ := call(x); !sameTree(again, want) {
			t.Errorf("the result of %s spoils the next one", what)
		}
	}
}
