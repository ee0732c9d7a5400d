package tests

import (
	"reflect"
	"testing"

	"loop.example/loggertree/impl"
)

// settingCalls are calls of all functions of the chapter that return a tree, with two trees and a handler.
func settingCalls() map[string]func(a, b impl.Tree, h impl.Handler) (impl.Tree, bool) {
	attach := func(name, handler string) func(a, b impl.Tree, h impl.Handler) (impl.Tree, bool) {
		return func(a, b impl.Tree, h impl.Handler) (impl.Tree, bool) { return impl.AttachHandler(a, name, handler) }
	}
	detach := func(name, handler string) func(a, b impl.Tree, h impl.Handler) (impl.Tree, bool) {
		return func(a, b impl.Tree, h impl.Handler) (impl.Tree, bool) { return impl.DetachHandler(a, name, handler) }
	}
	drop := func(name string) func(a, b impl.Tree, h impl.Handler) (impl.Tree, bool) {
		return func(a, b impl.Tree, h impl.Handler) (impl.Tree, bool) { return impl.DropHandler(a, name) }
	}
	rename := func(name, to string) func(a, b impl.Tree, h impl.Handler) (impl.Tree, bool) {
		return func(a, b impl.Tree, h impl.Handler) (impl.Tree, bool) { return impl.NameHandler(a, name, to) }
	}
	read := func(text string) func(a, b impl.Tree, h impl.Handler) (impl.Tree, bool) {
		return func(a, b impl.Tree, h impl.Handler) (impl.Tree, bool) { return impl.ParseTree(text) }
	}
	return map[string]func(a, b impl.Tree, h impl.Handler) (impl.Tree, bool){
		"ParseTree":                 read(houseText),
		"ParseTree of the office":   read(officeText),
		"ParseTree of no tree":      read(houseText + "\n"),
		"ApplyTree":                 func(a, b impl.Tree, h impl.Handler) (impl.Tree, bool) { return impl.ApplyTree(a, b) },
		"ApplyTree of itself":       func(a, b impl.Tree, h impl.Handler) (impl.Tree, bool) { return impl.ApplyTree(a, a) },
		"PatchTree":                 func(a, b impl.Tree, h impl.Handler) (impl.Tree, bool) { return impl.PatchTree(a, b), true },
		"PatchTree of itself":       func(a, b impl.Tree, h impl.Handler) (impl.Tree, bool) { return impl.PatchTree(a, a), true },
		"AddHandler":                func(a, b impl.Tree, h impl.Handler) (impl.Tree, bool) { return impl.AddHandler(a, h) },
		"AddHandler of its own":     func(a, b impl.Tree, h impl.Handler) (impl.Tree, bool) { return impl.AddHandler(a, a.Handlers[0]) },
		"DropHandler":               drop("out"),
		"DropHandler of the last":   drop("a"),
		"DropHandler of none":       drop("new"),
		"NameHandler":               rename("out", "new"),
		"NameHandler as before":     rename("out", "out"),
		"NameHandler to another":    rename("out", "h"),
		"AttachHandler":             attach("b", "out"),
		"AttachHandler of the same": attach("b", "h"),
		"AttachHandler of none":     attach("b", "new"),
		"DetachHandler":             detach("a.b", "h"),
		"DetachHandler of the last": detach("b", "h"),
		"DetachHandler of none":     detach("b", "out"),
		"DropPlain":                 func(a, b impl.Tree, h impl.Handler) (impl.Tree, bool) { return impl.DropPlain(a), true },
	}
}

// patch returns a valid tree that can be applied and patched to the house.
func patch() impl.Tree {
	return impl.Tree{Handlers: []impl.Handler{{Name: "h", Level: 7, Filters: []impl.Filter{{Kind: impl.FiMost, N: 20}}}}, Loggers: []impl.Logger{
		{Level: 1, Handlers: []string{"h"}, Filters: []impl.Filter{{Kind: impl.FiRaise, N: 20}}}, {Name: "a", Stop: true},
	}}
}

func TestSettingsShareNothing(t *testing.T) {
	trees := []impl.Tree{house(), patch(), full()}
	for _, b := range badTrees() {
		if len(b.tree.Handlers) > 0 {
			trees = append(trees, b.tree)
		}
	}
	for what, call := range settingCalls() {
		for _, given := range trees {
			checkShared(t, what, given, patch(), call)
			checkShared(t, what+" back", patch(), given, call)
		}
	}
}

// checkShared checks that a call changes no argument, that its results share no memory with these or with each other, and that it tells the same twice.
func checkShared(t *testing.T, what string, a, b impl.Tree, call func(a, b impl.Tree, h impl.Handler) (impl.Tree, bool)) {
	t.Helper()
	a, b = roomy(a), roomy(b)
	h := impl.Handler{Name: "new", Filters: roomyList([]impl.Filter{{Kind: impl.FiMost, N: 30}}, impl.Filter{Name: "left"})}
	before := append([]impl.Filter(nil), wholeList(h.Filters)...)
	var y, z impl.Tree
	checkKept(t, what, a, func() {
		checkKept(t, what, b, func() {
			y, _ = call(a, b, h)
			z, _ = call(a, b, h)
		})
	})
	checkSame(t, what, before, wholeList(h.Filters))
	if !sameTree(y, z) {
		t.Errorf("%s differs the second time: %v, %v", what, y, z)
	}
	p := places{}
	addTree(t, p, a, "the first tree of "+what)
	addTree(t, p, b, "the second tree of "+what)
	addPlaces(t, p, h.Filters, "the handler of "+what)
	addTree(t, p, y, "the result of "+what)
	addTree(t, p, z, "the second result of "+what)
}

func TestHandlerListsShareNothing(t *testing.T) {
	trees := []impl.Tree{house(), office(), full()}
	for _, b := range badTrees() {
		trees = append(trees, b.tree)
	}
	for what, call := range map[string]func(x impl.Tree) []string{
		"UsedHandlers":    impl.UsedHandlers,
		"UsersOf":         func(x impl.Tree) []string { return impl.UsersOf(x, "h") },
		"UsersOf one":     func(x impl.Tree) []string { return impl.UsersOf(x, "a") },
		"UsersOf nothing": func(x impl.Tree) []string { return impl.UsersOf(x, "") },
		"TreeText":        func(x impl.Tree) []string { return []string{impl.TreeText(x)} },
	} {
		for _, given := range trees {
			x := roomy(given)
			var a, b []string
			checkKept(t, what, x, func() { a, b = call(x), call(x) })
			if len(a) != len(b) || len(a) > 0 && !reflect.DeepEqual(a, b) {
				t.Errorf("%s differs the second time: %q, %q", what, a, b)
			}
			p := places{}
			addTree(t, p, x, "the tree of "+what)
			addPlaces(t, p, a, "the result of "+what)
			addPlaces(t, p, b, "the second result of "+what)
		}
	}
}
