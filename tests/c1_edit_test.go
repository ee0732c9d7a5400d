package tests

import (
	"slices"
	"strings"
	"testing"

	"loop.example/loggertree/impl"
)

// levelsOf returns EffectiveLevel of each of the good names.
func levelsOf(x impl.Tree) map[string]int {
	levels := map[string]int{}
	for _, name := range goodNames() {
		levels[name] = impl.EffectiveLevel(x, name)
	}
	return levels
}

// parentsOf returns ParentOf each logger but the root.
func parentsOf(x impl.Tree) map[string]string {
	parents := map[string]string{}
	for _, l := range x.Loggers[1:] {
		parents[l.Name], _ = impl.ParentOf(x, l.Name)
	}
	return parents
}

// withLogger returns a copy of a tree in which the logger of an index is changed.
func withLogger(x impl.Tree, at int, change func(l *impl.Logger)) impl.Tree {
	x = plain(x)
	change(&x.Loggers[at])
	return x
}

func TestAddLogger(t *testing.T) {
	for _, x := range goodTrees() {
		for _, name := range goodNames() {
			if slices.Contains(namesOf(x), name) {
				if y := mustTree(t, "AddLogger of a logger")(impl.AddLogger(x, name)); !sameTree(x, y) {
					t.Errorf("AddLogger(%v, %q) = %v", x, name, y)
				}
				continue
			}
			if len(x.Loggers) == impl.MaxLoggers {
				mustFail(t, "AddLogger to a full tree")(impl.AddLogger(x, name))
				continue
			}
			y := mustTree(t, "AddLogger")(impl.AddLogger(x, name))
			want := plain(x)
			want.Loggers = append(want.Loggers, impl.Logger{Name: name})
			if !sameTree(y, want) || impl.LoggerAt(y, name) != len(x.Loggers) {
				t.Errorf("AddLogger(%v, %q) = %v", x, name, y)
			}
			for n, level := range levelsOf(x) {
				if impl.EffectiveLevel(y, n) != level {
					t.Errorf("EffectiveLevel(%v, %q) = %d", y, n, impl.EffectiveLevel(y, n))
				}
			}
		}
		for _, name := range badNames() {
			mustFail(t, "AddLogger of no name")(impl.AddLogger(x, name))
		}
	}
}

// Promise 16: there is no LoggerAt after DropLogger, its children have its parent, and all others theirs.
func TestDroppedLoggersAreGone(t *testing.T) {
	for _, x := range goodTrees() {
		before := parentsOf(x)
		for i, l := range x.Loggers {
			if i == 0 {
				mustFail(t, "DropLogger of the root")(impl.DropLogger(x, l.Name))
				continue
			}
			y := mustTree(t, "DropLogger")(impl.DropLogger(x, l.Name))
			want := plain(x)
			want.Loggers = slices.Delete(want.Loggers, i, i+1)
			if !sameTree(y, want) || impl.LoggerAt(y, l.Name) != -1 {
				t.Errorf("DropLogger(%v, %q) = %v", x, l.Name, y)
			}
			for name, up := range parentsOf(y) {
				old := before[name]
				if old == l.Name {
					old = before[l.Name]
				}
				if up != old {
					t.Errorf("ParentOf(%v, %q) = %q", y, name, up)
				}
			}
		}
		for _, name := range append(goodNames(), badNames()...) {
			if !slices.Contains(namesOf(x), name) {
				mustFail(t, "DropLogger of none")(impl.DropLogger(x, name))
			}
		}
	}
}

// Promise 17: EffectiveLevel after SetLevel is as before for all loggers that are not below, and set back the tree is as before.
func TestSetLevelsCountForABranch(t *testing.T) {
	for _, x := range goodTrees() {
		before := levelsOf(x)
		for i, l := range x.Loggers {
			for _, level := range []int{0, 1, 30, impl.MaxLevel} {
				y := mustTree(t, "SetLevel")(impl.SetLevel(x, l.Name, level))
				if !sameTree(y, withLogger(x, i, func(l *impl.Logger) { l.Level = level })) {
					t.Errorf("SetLevel(%v, %q, %d) = %v", x, l.Name, level, y)
				}
				if level > 0 && impl.EffectiveLevel(y, l.Name) != level {
					t.Errorf("EffectiveLevel(%v, %q) = %d", y, l.Name, impl.EffectiveLevel(y, l.Name))
				}
				for name, old := range before {
					if !lies(name, l.Name) && impl.EffectiveLevel(y, name) != old {
						t.Errorf("EffectiveLevel(%v, %q) = %d", y, name, impl.EffectiveLevel(y, name))
					}
				}
				if z := mustTree(t, "SetLevel")(impl.SetLevel(y, l.Name, l.Level)); !sameTree(x, z) {
					t.Errorf("SetLevel(%v, %q, %d) = %v", y, l.Name, l.Level, z)
				}
			}
			for _, level := range []int{-1, -30, impl.MaxLevel + 1, -1 << 63, 1<<63 - 1} {
				mustFail(t, "SetLevel out of range")(impl.SetLevel(x, l.Name, level))
			}
		}
	}
	y := mustTree(t, "SetLevel")(impl.SetLevel(house(), "b", 0))
	if impl.EffectiveLevel(y, "b.x.y") != 30 || impl.EffectiveLevel(y, "a.b.c") != 10 {
		t.Errorf("levels of %v", y)
	}
}

func TestSetStop(t *testing.T) {
	for _, x := range goodTrees() {
		for i, l := range x.Loggers {
			for _, stop := range []bool{false, true} {
				y := mustTree(t, "SetStop")(impl.SetStop(x, l.Name, stop))
				if !sameTree(y, withLogger(x, i, func(l *impl.Logger) { l.Stop = stop })) {
					t.Errorf("SetStop(%v, %q, %v) = %v", x, l.Name, stop, y)
				}
			}
		}
	}
}

// Promise 19: IsEnabled after SetOff holds of nothing if it is off, and all other loggers are as before.
func TestOffLoggersTakeNothing(t *testing.T) {
	for _, x := range goodTrees()[:80] {
		for i, l := range x.Loggers {
			for _, off := range []bool{true, false} {
				y := mustTree(t, "SetOff")(impl.SetOff(x, l.Name, off))
				if !sameTree(y, withLogger(x, i, func(l *impl.Logger) { l.Off = off })) {
					t.Errorf("SetOff(%v, %q, %v) = %v", x, l.Name, off, y)
				}
				for _, name := range goodNames() {
					for _, level := range []int{1, 10, 11, 20, 21, 30, 45, impl.MaxLevel} {
						want := impl.IsEnabled(x, name, level)
						if name == l.Name {
							want = !off && level > x.Quiet && level >= impl.EffectiveLevel(x, name)
						}
						if impl.IsEnabled(y, name, level) != want {
							t.Errorf("IsEnabled(%v, %q, %d) = %v", y, name, level, !want)
						}
					}
				}
			}
		}
	}
}

// Promise 20: after SetQuiet no logger IsEnabled for the level, and with 0 all are as their levels tell.
func TestQuietTreesTakeNothingOfLesserLevels(t *testing.T) {
	for _, x := range goodTrees()[:80] {
		for quiet := 0; quiet <= impl.MaxLevel; quiet += 5 {
			y := mustTree(t, "SetQuiet")(impl.SetQuiet(x, quiet))
			want := plain(x)
			want.Quiet = quiet
			if !sameTree(y, want) {
				t.Errorf("SetQuiet(%v, %d) = %v", x, quiet, y)
			}
			for _, name := range append(namesOf(x), "a", "q.q") {
				at := impl.LoggerAt(x, name)
				for _, level := range []int{1, quiet - 1, quiet, quiet + 1, impl.MaxLevel} {
					want := level > quiet && level <= impl.MaxLevel && level >= impl.EffectiveLevel(x, name) && (at < 0 || !x.Loggers[at].Off)
					if impl.IsEnabled(y, name, level) != want {
						t.Errorf("IsEnabled(%v, %q, %d) = %v", y, name, level, !want)
					}
				}
			}
		}
		for _, quiet := range []int{-1, impl.MaxLevel + 1, -1 << 63, 1<<63 - 1} {
			mustFail(t, "SetQuiet out of range")(impl.SetQuiet(x, quiet))
		}
	}
}

// TestSetNothing checks that loggers that are not there are not set.
func TestSetNothing(t *testing.T) {
	for _, x := range goodTrees() {
		for _, name := range append(goodNames(), badNames()...) {
			if slices.Contains(namesOf(x), name) {
				continue
			}
			mustFail(t, "SetLevel of none")(impl.SetLevel(x, name, 10))
			mustFail(t, "SetStop of none")(impl.SetStop(x, name, true))
			mustFail(t, "SetStop of none")(impl.SetStop(x, name, false))
			mustFail(t, "SetOff of none")(impl.SetOff(x, name, true))
			mustFail(t, "SetOff of none")(impl.SetOff(x, name, false))
		}
	}
}

// wantMoved returns what MoveBranch of two names other than the root returns, told in another way than the program, and how many loggers are moved.
func wantMoved(x impl.Tree, from, to string) (impl.Tree, int, bool) {
	x = plain(x)
	n := 0
	seen := map[string]bool{}
	ok := true
	for i, l := range x.Loggers {
		if lies(l.Name, from) {
			words := strings.Split(l.Name, ".")[strings.Count(from, ".")+1:]
			x.Loggers[i].Name = strings.Join(append([]string{to}, words...), ".")
			n++
		}
		name := x.Loggers[i].Name
		ok = ok && nameShape.MatchString(name) && !seen[name]
		seen[name] = true
	}
	return x, n, ok && n > 0
}

// Promise 21: MoveBranch back is the tree, where nothing was at the new name, and the branch has as many loggers.
func TestMovedBranchesAreMovedBack(t *testing.T) {
	moves := 0
	for _, x := range goodTrees()[:60] {
		for _, from := range goodNames()[1:] {
			for _, to := range goodNames()[1:] {
				want, n, ok := wantMoved(x, from, to)
				if !ok {
					mustFail(t, "MoveBranch from "+from+" to "+to)(impl.MoveBranch(x, from, to))
					continue
				}
				y := mustTree(t, "MoveBranch from "+from+" to "+to)(impl.MoveBranch(x, from, to))
				if !sameTree(y, want) {
					t.Errorf("MoveBranch(%v, %q, %q) = %v", x, from, to, y)
				}
				if len(impl.BranchOf(x, to)) > 0 {
					continue
				}
				moves++
				if len(impl.BranchOf(y, to)) != n {
					t.Errorf("MoveBranch(%v, %q, %q) = %v moves %d", x, from, to, y, n)
				}
				if z := mustTree(t, "MoveBranch back")(impl.MoveBranch(y, to, from)); !sameTree(x, z) {
					t.Errorf("MoveBranch(%v, %q, %q) = %v", y, to, from, z)
				}
			}
		}
	}
	if moves < 1000 {
		t.Errorf("only %d moves", moves)
	}
}

func TestMoveBranch(t *testing.T) {
	x := house()
	for _, c := range []struct {
		from, to string
		moved    string // the names of all loggers then, "" if it fails
	}{
		{"a.b", "z", " b.x z ab z.c.d b a.bc"},
		{"a", "z", " b.x z.b ab z.b.c.d b z.bc"},
		{"ab", "a", " b.x a.b a a.b.c.d b a.bc"},
		{"b", "c.d.e", " c.d.e.x a.b ab a.b.c.d c.d.e a.bc"},
		{"b", "b.y", " b.y.x a.b ab a.b.c.d b.y a.bc"},
		{"b", "b.x", " b.x.x a.b ab a.b.c.d b.x a.bc"},
		{"b", "b", " b.x a.b ab a.b.c.d b a.bc"},
		{"a.b.c", "b", " b.x a.b ab b.d b a.bc"},
		{"a.b.c.d", "root", " b.x a.b ab root b a.bc"},
		{"b.x", "a", " a a.b ab a.b.c.d b a.bc"},
		{"b.x", "ab", ""},       // there is such a logger
		{"ab", "b", ""},         // this too
		{"a.b", "a.b.c", ""},    // five words
		{"a", "b.y", ""},        // this too
		{"a.b.c.d", "a.b", ""},  // there is such a logger
		{"", "z", ""},           // the root is not moved
		{"a.b", "", ""},         // nothing is moved to it
		{"", "", ""},            // both
		{"c", "z", ""},          // no logger
		{"abc", "z", ""},        // only one that begins alike
		{"a.b.cc", "z", ""},     // this too
		{"b.x.y", "z", ""},      // only ones above it
		{"a.b", "abcde", ""},    // a word of too many letters
		{"a.b", "a.", ""},       // no name
		{"a.", "z", ""},         // no name, though some names begin with it
		{"a.b", ".z", ""},       // no name
		{"a.b.c.d", "a..b", ""}, // no name
		{"a.b.c.d", "A", ""},    // no name
	} {
		if c.moved == "" {
			mustFail(t, "MoveBranch from "+c.from+" to "+c.to)(impl.MoveBranch(x, c.from, c.to))
			continue
		}
		y := mustTree(t, "MoveBranch from "+c.from+" to "+c.to)(impl.MoveBranch(x, c.from, c.to))
		if got := strings.Join(namesOf(y), " "); got != c.moved {
			t.Errorf("MoveBranch(%q, %q) has %q", c.from, c.to, got)
		}
	}
	for _, s := range badNames() {
		for _, name := range goodNames() {
			mustFail(t, "MoveBranch to no name")(impl.MoveBranch(x, name, s))
			mustFail(t, "MoveBranch from no name")(impl.MoveBranch(x, s, name))
		}
	}
}

// TestEditsOfWhatIsNotValid checks that no tree that is not valid is changed, not even into a valid one.
func TestEditsOfWhatIsNotValid(t *testing.T) {
	for _, b := range badTrees() {
		for _, name := range append(namesOf(b.tree), "", "a", "new", "a..b") {
			mustFail(t, "AddLogger with "+b.why)(impl.AddLogger(b.tree, name))
			mustFail(t, "DropLogger with "+b.why)(impl.DropLogger(b.tree, name))
			mustFail(t, "SetLevel with "+b.why)(impl.SetLevel(b.tree, name, 10))
			mustFail(t, "SetLevel with "+b.why)(impl.SetLevel(b.tree, name, -1))
			mustFail(t, "SetStop with "+b.why)(impl.SetStop(b.tree, name, true))
			mustFail(t, "SetOff with "+b.why)(impl.SetOff(b.tree, name, true))
			mustFail(t, "MoveBranch with "+b.why)(impl.MoveBranch(b.tree, name, "new"))
			mustFail(t, "MoveBranch with "+b.why)(impl.MoveBranch(b.tree, name, name))
		}
		for _, level := range []int{-1, 0, 10, impl.MaxLevel} {
			mustFail(t, "SetQuiet with "+b.why)(impl.SetQuiet(b.tree, level))
		}
	}
}
