package tests

import (
	"slices"
	"testing"

	"loop.example/loggertree/impl"
)

// isBelowOne reports whether a name is, or is below, that of a logger other than the root.
func isBelowOne(x impl.Tree, name string) bool {
	return slices.ContainsFunc(x.Loggers[1:], func(l impl.Logger) bool { return lies(name, l.Name) })
}

// wantApplied returns ApplyTree of valid trees, told in another way than the program.
func wantApplied(a, b impl.Tree) (impl.Tree, bool) {
	x := plain(b)
	for _, name := range namesOf(a) {
		if slices.Contains(namesOf(b), name) {
			continue
		}
		x.Loggers = append(x.Loggers, impl.Logger{Name: name, Off: !isBelowOne(b, name)})
	}
	if len(x.Loggers) > 8 {
		return impl.Tree{}, false
	}
	return x, true
}

// Promise 58: after ApplyTree each logger of the new tree sends as there, and each old one that is below none of these is off.
func TestAppliedTreesTellWhatTheyTell(t *testing.T) {
	applied, failed, off, on := 0, 0, 0, 0
	for _, pair := range treePairs() {
		a, b := pair[0], pair[1]
		want, ok := wantApplied(a, b)
		if !ok {
			failed++
			mustFail(t, "ApplyTree")(impl.ApplyTree(a, b))
			continue
		}
		applied++
		x := mustTree(t, "ApplyTree")(impl.ApplyTree(a, b))
		if !sameTree(x, want) {
			t.Fatalf("ApplyTree(%v, %v) = %v", a, b, x)
		}
		for _, l := range b.Loggers {
			for _, level := range []int{1, 25, 30, impl.MaxLevel} {
				r := impl.Record{Name: l.Name, Level: level, Text: "no", Seq: 1}
				if !slices.Equal(impl.SendRecord(x, r), impl.SendRecord(b, r)) || !slices.Equal(impl.ExplainRecord(x, r), impl.ExplainRecord(b, r)) {
					t.Errorf("SendRecord(%v) = %v after ApplyTree(%v, %v)", r, impl.SendRecord(x, r), a, b)
				}
			}
		}
		for _, name := range namesOf(a) {
			if slices.Contains(namesOf(b), name) {
				continue
			}
			if isBelowOne(b, name) {
				on++
			} else {
				off++
				if l, _ := loggerOf(x, name); !l.Off || impl.IsEnabled(x, name, impl.MaxLevel) {
					t.Errorf("%q is on after ApplyTree(%v, %v)", name, a, b)
				}
			}
		}
	}
	if applied < 400 || failed < 50 || off < 200 || on < 200 {
		t.Errorf("only %d trees, %d failures, %d loggers off, %d on", applied, failed, off, on)
	}
}

func TestApplyTree(t *testing.T) {
	a := impl.Tree{Quiet: 30, Handlers: []impl.Handler{{Name: "old", Level: 40}}, Loggers: []impl.Logger{
		{Level: 50, Handlers: []string{"old"}, Off: true},
		{Name: "c", Level: 10, Handlers: []string{"old"}, Filters: []impl.Filter{{Kind: impl.FiMost, N: 30}}, Stop: true},
		{Name: "a.b.c", Level: 10, Handlers: []string{"old"}, Filters: []impl.Filter{{Kind: impl.FiMost, N: 30}}, Stop: true, Off: true},
		{Name: "a.b", Level: 20, Handlers: []string{"old"}, Off: true},
		{Name: "a", Off: true},
		{Name: "a.bc"},
	}}
	b := impl.Tree{Quiet: 5, Handlers: []impl.Handler{{Name: "new"}, {Name: "idle"}}, Loggers: []impl.Logger{{Handlers: []string{"new"}, Stop: true}, {Name: "b", Off: true}, {Name: "a.b", Level: 30, Handlers: []string{"new"}}}}
	want := plain(b)
	// a.b.c is below a.b, though it was off; c, a and a.bc are below the root alone.
	want.Loggers = append(want.Loggers, impl.Logger{Name: "c", Off: true}, impl.Logger{Name: "a.b.c"}, impl.Logger{Name: "a", Off: true}, impl.Logger{Name: "a.bc", Off: true})
	if x := mustTree(t, "ApplyTree")(impl.ApplyTree(a, b)); !sameTree(x, want) {
		t.Errorf("ApplyTree = %v", x)
	}
	if x := mustTree(t, "ApplyTree of the root alone")(impl.ApplyTree(bare(), b)); !sameTree(x, b) {
		t.Errorf("ApplyTree = %v", x)
	}
	want = impl.Tree{Loggers: []impl.Logger{{}, {Name: "c", Off: true}, {Name: "a.b.c", Off: true}, {Name: "a.b", Off: true}, {Name: "a", Off: true}, {Name: "a.bc", Off: true}}}
	if x := mustTree(t, "ApplyTree over the root alone")(impl.ApplyTree(a, bare())); !sameTree(x, want) {
		t.Errorf("ApplyTree = %v", x)
	}
	for n := range impl.MaxLoggers {
		y := bare()
		for i := range n {
			y.Loggers = append(y.Loggers, impl.Logger{Name: "xyzuvwst"[i : i+1]})
		}
		if n+len(a.Loggers) <= impl.MaxLoggers {
			mustTree(t, "ApplyTree of some")(impl.ApplyTree(a, y))
		} else {
			mustFail(t, "ApplyTree of too many")(impl.ApplyTree(a, y))
		}
		if x := mustTree(t, "ApplyTree of itself")(impl.ApplyTree(y, y)); !sameTree(x, y) {
			t.Errorf("ApplyTree of itself = %v", x)
		}
	}
}

// wantPatched returns PatchTree of valid trees, told in another way than the program.
func wantPatched(a, b impl.Tree) impl.Tree {
	x := plain(a)
	x.Quiet = b.Quiet
	for _, l := range b.Loggers {
		for i := range x.Loggers {
			if x.Loggers[i].Name == l.Name {
				x.Loggers[i].Level = l.Level
				x.Loggers[i].Stop = l.Stop
			}
		}
	}
	for _, h := range b.Handlers {
		for i := range x.Handlers {
			if x.Handlers[i].Name == h.Name {
				x.Handlers[i].Level = h.Level
			}
		}
	}
	return x
}

// handlersOf returns the names of the handlers of a tree.
func handlersOf(x impl.Tree) []string {
	var list []string
	for _, h := range x.Handlers {
		list = append(list, h.Name)
	}
	return list
}

// Promise 59: PatchTree has the same names and handlers, the levels of the second tree where it has some, and patched twice it is as once.
func TestPatchedTreesKeepTheirLoggers(t *testing.T) {
	changed := 0
	for _, pair := range treePairs() {
		a, b := pair[0], pair[1]
		x := impl.PatchTree(a, b)
		if !impl.ValidTree(x) || !sameTree(x, wantPatched(a, b)) {
			t.Fatalf("PatchTree(%v, %v) = %v", a, b, x)
		}
		if !sameTree(x, a) {
			changed++
		}
		if !slices.Equal(namesOf(x), namesOf(a)) || !slices.Equal(handlersOf(x), handlersOf(a)) {
			t.Errorf("PatchTree(%v, %v) = %v", a, b, x)
		}
		for i, l := range x.Loggers {
			if !slices.Equal(l.Handlers, a.Loggers[i].Handlers) {
				t.Errorf("handlers of %q after PatchTree(%v, %v) = %q", l.Name, a, b, l.Handlers)
			}
			if other, ok := loggerOf(b, l.Name); ok && l.Level != other.Level {
				t.Errorf("level of %q after PatchTree(%v, %v) = %d", l.Name, a, b, l.Level)
			}
		}
		for _, h := range x.Handlers {
			if slices.Contains(handlersOf(b), h.Name) && h.Level != handlerOf(b, h.Name).Level {
				t.Errorf("level of the handler %q after PatchTree(%v, %v) = %d", h.Name, a, b, h.Level)
			}
		}
		if twice := impl.PatchTree(x, b); !sameTree(twice, x) {
			t.Errorf("PatchTree(%v, %v) = %v", x, b, twice)
		}
	}
	if changed < 400 {
		t.Errorf("only %d trees change", changed)
	}
}

func TestPatchTree(t *testing.T) {
	b := impl.Tree{Quiet: 0, Handlers: []impl.Handler{{Name: "new", Level: 9}, {Name: "a", Level: 0, Filters: []impl.Filter{{Kind: impl.FiMost, N: 1}}}, {Name: "h", Level: 55}}, Loggers: []impl.Logger{
		{Stop: true, Handlers: []string{"new"}, Off: true},
		{Name: "new", Level: 7},
		{Name: "b", Level: 60, Filters: []impl.Filter{{Kind: impl.FiMost, N: 1}}},
		{Name: "a.b.c.d", Stop: true},
		{Name: "a.b"},
	}}
	want := house()
	want.Quiet = 0
	want.Handlers[1].Level, want.Handlers[2].Level = 55, 0
	want.Loggers[0].Level, want.Loggers[0].Stop = 0, true
	want.Loggers[2].Level = 0
	want.Loggers[4].Stop = true
	want.Loggers[5].Level, want.Loggers[5].Stop = 60, false
	if x := impl.PatchTree(house(), b); !sameTree(x, want) {
		t.Errorf("PatchTree = %v", x)
	}
	if x := impl.PatchTree(house(), house()); !sameTree(x, house()) {
		t.Errorf("PatchTree of itself = %v", x)
	}
	// A logger that is off stays so, and a handler that no logger has gets its level.
	want = office()
	want.Quiet = 60
	want.Handlers[0].Level = 1
	if x := impl.PatchTree(office(), impl.Tree{Quiet: 60, Handlers: []impl.Handler{{Name: "idle", Level: 1}}, Loggers: []impl.Logger{{}, {Name: "a"}}}); !sameTree(x, want) {
		t.Errorf("PatchTree = %v", x)
	}
}

func TestTreesThatAreNotValidAreNotApplied(t *testing.T) {
	for _, b := range badTrees() {
		for _, x := range []impl.Tree{bare(), house(), b.tree} {
			mustFail(t, "ApplyTree of a tree with "+b.why)(impl.ApplyTree(b.tree, x))
			mustFail(t, "ApplyTree to a tree with "+b.why)(impl.ApplyTree(x, b.tree))
			if got := impl.PatchTree(b.tree, x); !sameTree(got, impl.Tree{}) {
				t.Errorf("PatchTree of a tree with %s = %v", b.why, got)
			}
			if got := impl.PatchTree(x, b.tree); !sameTree(got, impl.Tree{}) {
				t.Errorf("PatchTree by a tree with %s = %v", b.why, got)
			}
		}
	}
}
