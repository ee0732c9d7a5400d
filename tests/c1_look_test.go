package tests

import (
	"slices"
	"testing"

	"loop.example/loggertree/impl"
)

// wantPath returns PathOf a name in a tree, told in another way than the program: by sorting what is above the name.
func wantPath(x impl.Tree, name string) []string {
	var path []string
	for _, l := range x.Loggers {
		if lies(name, l.Name) {
			path = append(path, l.Name)
		}
	}
	slices.SortFunc(path, func(a, b string) int { return len(b) - len(a) })
	return path
}

// ownLevel returns the Level of a logger.
func ownLevel(x impl.Tree, name string) int {
	return x.Loggers[slices.Index(namesOf(x), name)].Level
}

func TestLooksAtTheHouse(t *testing.T) {
	x := house()
	for _, c := range []struct {
		name     string
		at       int
		path     []string
		children []string
		branch   []string
		level    int
	}{
		{"", 0, []string{""}, []string{"a.b", "ab", "b", "a.bc"}, namesOf(x), 30},
		{"a", -1, []string{""}, nil, []string{"a.b", "a.b.c.d", "a.bc"}, 30},
		{"a.b", 2, []string{"a.b", ""}, []string{"a.b.c.d"}, []string{"a.b", "a.b.c.d"}, 10},
		{"a.b.c", -1, []string{"a.b", ""}, nil, []string{"a.b.c.d"}, 10},
		{"a.b.c.d", 4, []string{"a.b.c.d", "a.b", ""}, nil, []string{"a.b.c.d"}, 10},
		{"a.b.c.de", -1, []string{"a.b", ""}, nil, nil, 10},
		{"a.bc", 6, []string{"a.bc", ""}, nil, []string{"a.bc"}, 30},
		{"a.bc.d", -1, []string{"a.bc", ""}, nil, nil, 30},
		{"a.bcd", -1, []string{""}, nil, nil, 30},
		{"ab", 3, []string{"ab", ""}, nil, []string{"ab"}, 50},
		{"ab.c", -1, []string{"ab", ""}, nil, nil, 50},
		{"abc", -1, []string{""}, nil, nil, 30},
		{"b", 5, []string{"b", ""}, []string{"b.x"}, []string{"b.x", "b"}, 20},
		{"b.x", 1, []string{"b.x", "b", ""}, nil, []string{"b.x"}, 20},
		{"b.x.y.z", -1, []string{"b.x", "b", ""}, nil, nil, 20},
		{"root", -1, []string{""}, nil, nil, 30},
	} {
		if impl.LoggerAt(x, c.name) != c.at {
			t.Errorf("LoggerAt(%q) = %d", c.name, impl.LoggerAt(x, c.name))
		}
		if impl.NearestTo(x, c.name) != c.path[0] {
			t.Errorf("NearestTo(%q) = %q", c.name, impl.NearestTo(x, c.name))
		}
		if !slices.Equal(impl.PathOf(x, c.name), c.path) {
			t.Errorf("PathOf(%q) = %q", c.name, impl.PathOf(x, c.name))
		}
		if !slices.Equal(impl.ChildrenOf(x, c.name), c.children) {
			t.Errorf("ChildrenOf(%q) = %q", c.name, impl.ChildrenOf(x, c.name))
		}
		if !slices.Equal(impl.BranchOf(x, c.name), c.branch) {
			t.Errorf("BranchOf(%q) = %q", c.name, impl.BranchOf(x, c.name))
		}
		if impl.EffectiveLevel(x, c.name) != c.level {
			t.Errorf("EffectiveLevel(%q) = %d", c.name, impl.EffectiveLevel(x, c.name))
		}
		up, ok := impl.ParentOf(x, c.name)
		if want := c.at > 0; ok != want || want && up != c.path[1] || !want && up != "" {
			t.Errorf("ParentOf(%q) = %q, %v", c.name, up, ok)
		}
	}
}

// Promise 7: LoggerAt of the name of each logger is its index.
func TestLoggersHaveOnePlace(t *testing.T) {
	for _, x := range goodTrees() {
		for i, l := range x.Loggers {
			if impl.LoggerAt(x, l.Name) != i {
				t.Errorf("LoggerAt(%v, %q) = %d", x, l.Name, impl.LoggerAt(x, l.Name))
			}
		}
		for _, name := range append(goodNames(), badNames()...) {
			if impl.LoggerAt(x, name) != slices.Index(namesOf(x), name) {
				t.Errorf("LoggerAt(%v, %q) = %d", x, name, impl.LoggerAt(x, name))
			}
		}
	}
}

// Promise 8: NearestTo has the name below it, and so has no longer logger.
func TestTheNearestLoggerIsTheLongestOneAbove(t *testing.T) {
	for _, x := range goodTrees() {
		for _, name := range goodNames() {
			near := impl.NearestTo(x, name)
			if !impl.IsBelow(name, near) || impl.LoggerAt(x, near) < 0 {
				t.Errorf("NearestTo(%v, %q) = %q", x, name, near)
			}
			for _, l := range x.Loggers {
				if len(impl.PartsOf(l.Name)) > len(impl.PartsOf(near)) && impl.IsBelow(name, l.Name) {
					t.Errorf("NearestTo(%v, %q) = %q, not %q", x, name, near, l.Name)
				}
			}
		}
	}
}

// Promise 9: PathOf begins with NearestTo, ends with the root, each one is below the next one, and all loggers above the name are on it.
func TestPathsLeadToTheRoot(t *testing.T) {
	for _, x := range goodTrees() {
		for _, name := range goodNames() {
			path := impl.PathOf(x, name)
			if !slices.Equal(path, wantPath(x, name)) {
				t.Fatalf("PathOf(%v, %q) = %q", x, name, path)
			}
			if path[0] != impl.NearestTo(x, name) || path[len(path)-1] != "" {
				t.Errorf("PathOf(%v, %q) = %q", x, name, path)
			}
			for i := 1; i < len(path); i++ {
				if path[i] == path[i-1] || !impl.IsBelow(path[i-1], path[i]) {
					t.Errorf("PathOf(%v, %q) = %q", x, name, path)
				}
			}
			for _, l := range x.Loggers {
				if impl.IsBelow(name, l.Name) != slices.Contains(path, l.Name) {
					t.Errorf("PathOf(%v, %q) = %q, and %q", x, name, path, l.Name)
				}
			}
		}
	}
}

// Promise 10: PathOf a logger is itself and then PathOf its parent.
func TestParentsAreTheNextOnesOnThePath(t *testing.T) {
	for _, x := range goodTrees() {
		for _, name := range append(goodNames(), badNames()...) {
			up, ok := impl.ParentOf(x, name)
			if ok != (name != "" && slices.Contains(namesOf(x), name)) {
				t.Errorf("ParentOf(%v, %q) = %q, %v", x, name, up, ok)
			}
			if !ok && up != "" {
				t.Errorf("ParentOf(%v, %q) = %q, false", x, name, up)
			}
			if ok && !slices.Equal(impl.PathOf(x, name), append([]string{name}, impl.PathOf(x, up)...)) {
				t.Errorf("PathOf(%v, %q) = %q, and ParentOf it %q", x, name, impl.PathOf(x, name), up)
			}
		}
	}
}

// Promise 11: each of ChildrenOf has the name as ParentOf, and all loggers but the root are a child of one.
func TestChildrenHaveParents(t *testing.T) {
	for _, x := range goodTrees() {
		parents := map[string]int{}
		for _, l := range x.Loggers {
			at := -1
			for _, child := range impl.ChildrenOf(x, l.Name) {
				if up, ok := impl.ParentOf(x, child); !ok || up != l.Name {
					t.Errorf("ParentOf(%v, %q) = %q, %v", x, child, up, ok)
				}
				if next := impl.LoggerAt(x, child); next <= at {
					t.Errorf("ChildrenOf(%v, %q) = %q", x, l.Name, impl.ChildrenOf(x, l.Name))
				} else {
					at = next
				}
				parents[child]++
			}
		}
		for _, l := range x.Loggers {
			if n := parents[l.Name]; l.Name == "" && n != 0 || l.Name != "" && n != 1 {
				t.Errorf("%q in %v is a child %d times", l.Name, x, n)
			}
		}
		for _, name := range append(goodNames(), badNames()...) {
			if list := impl.ChildrenOf(x, name); len(list) > 0 && impl.LoggerAt(x, name) < 0 {
				t.Errorf("ChildrenOf(%v, %q) = %q", x, name, list)
			}
		}
	}
}

// Promise 12: BranchOf a logger is itself and the branches of its children.
func TestBranchesAreWhatHasTheNameOnItsPath(t *testing.T) {
	for _, x := range goodTrees() {
		for _, l := range x.Loggers {
			all := []string{l.Name}
			for _, child := range impl.ChildrenOf(x, l.Name) {
				all = append(all, impl.BranchOf(x, child)...)
			}
			branch := impl.BranchOf(x, l.Name)
			slices.Sort(all)
			slices.Sort(branch)
			if !slices.Equal(all, branch) {
				t.Errorf("BranchOf(%v, %q) = %q, not %q", x, l.Name, branch, all)
			}
		}
		for _, name := range goodNames() {
			var want []string
			for _, l := range x.Loggers {
				if lies(l.Name, name) {
					want = append(want, l.Name)
				}
			}
			if got := impl.BranchOf(x, name); !slices.Equal(got, want) {
				t.Errorf("BranchOf(%v, %q) = %q", x, name, got)
			}
		}
	}
}

// Promise 13: EffectiveLevel is the own level, if there is one, and otherwise that of the parent.
func TestLevelsAreInherited(t *testing.T) {
	for _, x := range goodTrees() {
		for _, l := range x.Loggers {
			want := l.Level
			if up, ok := impl.ParentOf(x, l.Name); ok && want == 0 {
				want = impl.EffectiveLevel(x, up)
			}
			if got := impl.EffectiveLevel(x, l.Name); got != want {
				t.Errorf("EffectiveLevel(%v, %q) = %d", x, l.Name, got)
			}
		}
		for _, name := range goodNames() {
			want := 0
			for _, up := range wantPath(x, name) {
				if want == 0 {
					want = ownLevel(x, up)
				}
			}
			if got := impl.EffectiveLevel(x, name); got != want {
				t.Errorf("EffectiveLevel(%v, %q) = %d, not %d", x, name, got, want)
			}
		}
	}
	if impl.EffectiveLevel(bare(), "a") != 0 || impl.EffectiveLevel(bare(), "") != 0 {
		t.Error("EffectiveLevel without levels")
	}
}

// Promise 14: where IsEnabled holds of a level it holds of each greater one, and never of one that is not greater than Quiet.
func TestGreaterLevelsAreEnabledToo(t *testing.T) {
	for _, x := range goodTrees()[:80] {
		for _, name := range goodNames() {
			at := slices.Index(namesOf(x), name)
			off := at >= 0 && x.Loggers[at].Off
			for level := 1; level <= impl.MaxLevel; level++ {
				got := impl.IsEnabled(x, name, level)
				if got && level < impl.MaxLevel && !impl.IsEnabled(x, name, level+1) || got && level <= x.Quiet {
					t.Errorf("IsEnabled(%v, %q, %d)", x, name, level)
				}
				if got != (!off && level > x.Quiet && level >= impl.EffectiveLevel(x, name)) {
					t.Errorf("IsEnabled(%v, %q, %d) = %v", x, name, level, got)
				}
			}
		}
	}
}

func TestLevelsThatAreEnabled(t *testing.T) {
	x := house() // Quiet is 5
	for _, c := range []struct {
		name  string
		least int // 61 for none
	}{{"", 30}, {"a", 30}, {"a.b", 10}, {"a.b.c", 10}, {"a.b.c.d", 61}, {"a.bc", 61}, {"a.bc.d", 30}, {"ab", 50}, {"ab.c", 50}, {"b.x", 20}, {"z", 30}} {
		for level := -1; level <= impl.MaxLevel+1; level++ {
			if got := impl.IsEnabled(x, c.name, level); got != (level >= c.least && level <= impl.MaxLevel) {
				t.Errorf("IsEnabled(%q, %d) = %v", c.name, level, got)
			}
		}
	}
	for _, level := range []int{0, -1, -10, 61, 100, -1 << 63, 1<<63 - 1} {
		for _, name := range goodNames() {
			if impl.IsEnabled(x, name, level) || impl.IsEnabled(bare(), name, level) {
				t.Errorf("IsEnabled(%q, %d)", name, level)
			}
		}
	}
	if !impl.IsEnabled(bare(), "", 1) || !impl.IsEnabled(bare(), "a.b", impl.MaxLevel) {
		t.Error("IsEnabled without levels")
	}
}

// checkNoLook checks that everything that looks at a tree and a name returns what it returns for arguments that are not valid.
func checkNoLook(t *testing.T, why string, x impl.Tree, name string) {
	t.Helper()
	up, ok := impl.ParentOf(x, name)
	if up != "" || ok {
		t.Errorf("%s: ParentOf(%q) = %q, %v", why, name, up, ok)
	}
	if impl.LoggerAt(x, name) != -1 || impl.NearestTo(x, name) != "" || impl.EffectiveLevel(x, name) != -1 {
		t.Errorf("%s: %q at %d, nearest %q, level %d", why, name, impl.LoggerAt(x, name), impl.NearestTo(x, name), impl.EffectiveLevel(x, name))
	}
	if len(impl.PathOf(x, name)) != 0 || len(impl.ChildrenOf(x, name)) != 0 || len(impl.BranchOf(x, name)) != 0 {
		t.Errorf("%s: %q: path %q, children %q, branch %q", why, name, impl.PathOf(x, name), impl.ChildrenOf(x, name), impl.BranchOf(x, name))
	}
	for _, level := range []int{0, 1, 30, impl.MaxLevel, impl.MaxLevel + 1} {
		if impl.IsEnabled(x, name, level) {
			t.Errorf("%s: IsEnabled(%q, %d)", why, name, level)
		}
	}
}

func TestLooksAtWhatIsNotValid(t *testing.T) {
	for _, b := range badTrees() {
		for _, name := range []string{"", "a", "a.b", "a.b.c.d", "b", "b.x", "x", "a..b"} {
			checkNoLook(t, b.why, b.tree, name)
		}
	}
	for _, x := range goodTrees() {
		for _, name := range badNames() {
			checkNoLook(t, "no name", x, name)
		}
	}
}
