package tests

import (
	"slices"
	"testing"

	"loop.example/loggertree/impl"
)

// otherHandlers are names that no handler of most trees has, and texts that none can have.
func otherHandlers() []string {
	return append(badNames(), "", "new", "zz", "a.b", "b.x", "oute", "ou", impl.LastName)
}

// withoutSpots returns spots without those of a handler.
func withoutSpots(spots []impl.Spot, handler string) []impl.Spot {
	return slices.DeleteFunc(slices.Clone(spots), func(s impl.Spot) bool { return s.Handler == handler })
}

// otherSpots returns spots without those of a logger.
func otherSpots(spots []impl.Spot, logger string) []impl.Spot {
	return slices.DeleteFunc(slices.Clone(spots), func(s impl.Spot) bool { return s.Logger == logger })
}

// Promise 60: UsedHandlers are just those with UsersOf, and all of SpotsOf are among them.
func TestUsedHandlersHaveUsers(t *testing.T) {
	used, unused := 0, 0
	for _, x := range settingTrees() {
		got := impl.UsedHandlers(x)
		var want []string
		for _, h := range x.Handlers {
			if len(impl.UsersOf(x, h.Name)) > 0 {
				want = append(want, h.Name)
			}
		}
		if !slices.Equal(got, want) {
			t.Errorf("UsedHandlers(%v) = %q", x, got)
		}
		used += len(got)
		unused += len(x.Handlers) - len(got)
		for _, name := range goodNames() {
			for _, s := range impl.SpotsOf(x, name) {
				if !slices.Contains(got, s.Handler) {
					t.Errorf("UsedHandlers(%v) = %q without %q", x, got, s.Handler)
				}
			}
		}
	}
	if used < 100 || unused < 100 {
		t.Errorf("only %d handlers are used, and %d not", used, unused)
	}
}

// Promise 61: UsersOf are just the loggers that have it, and none of a handler that is not there.
func TestUsersHaveTheHandler(t *testing.T) {
	for _, x := range settingTrees() {
		for _, h := range x.Handlers {
			users := impl.UsersOf(x, h.Name)
			at := 0
			for _, l := range x.Loggers {
				if !slices.Contains(l.Handlers, h.Name) {
					continue
				}
				if at >= len(users) || users[at] != l.Name {
					t.Fatalf("UsersOf(%v, %q) = %q", x, h.Name, users)
				}
				at++
			}
			if at != len(users) {
				t.Errorf("UsersOf(%v, %q) = %q", x, h.Name, users)
			}
		}
		for _, name := range otherHandlers() {
			if users := impl.UsersOf(x, name); len(users) > 0 {
				t.Errorf("UsersOf(%v, %q) = %q", x, name, users)
			}
		}
	}
}

func TestUsers(t *testing.T) {
	for _, c := range []struct {
		tree    impl.Tree
		handler string
		want    []string
	}{
		{house(), "out", []string{"", "a.b"}},
		{house(), "h", []string{"a.b", "b"}},
		{house(), "a", []string{"a.b"}},
		{house(), "b", nil},
		{office(), "log", []string{"a.b"}},
		{office(), "idle", nil},
		{office(), "none", nil},
		{full(), "las", []string{"", "last", "abcd", "a", "a.b", "a.b.c", "a.b.c.d", "abcd.abcd.abcd.abcd"}}, // all of them off
		{full(), impl.LastName, nil},
		{bare(), "", nil},
	} {
		if got := impl.UsersOf(c.tree, c.handler); !slices.Equal(got, c.want) {
			t.Errorf("UsersOf(%q) = %q", c.handler, got)
		}
	}
	for _, c := range []struct {
		tree impl.Tree
		want []string
	}{
		{bare(), nil}, {house(), []string{"out", "h", "a"}}, {office(), []string{"log", "root"}}, {full(), handlersOf(full())},
	} {
		if got := impl.UsedHandlers(c.tree); !slices.Equal(got, c.want) {
			t.Errorf("UsedHandlers(%v) = %q", c.tree, got)
		}
	}
}

// newHandlers are handlers that most trees may have.
func newHandlers() []impl.Handler {
	return []impl.Handler{{Name: "new"}, {Name: "abcd", Level: impl.MaxLevel}, {Name: "root", Level: 10, Filters: []impl.Filter{{Kind: impl.FiRaise, N: 60}, {Kind: impl.FiMost, N: 1}, {Kind: impl.FiWord, Name: "no"}}}}
}

// Promise 62: after AddHandler SendRecord is as before, and dropped again the tree is as before.
func TestNewHandlersGetNothingYet(t *testing.T) {
	added := 0
	for _, x := range settingTrees() {
		for _, h := range newHandlers() {
			if len(x.Handlers) == impl.MaxHandlers || slices.Contains(handlersOf(x), h.Name) {
				mustFail(t, "AddHandler")(impl.AddHandler(x, h))
				continue
			}
			added++
			y := mustTree(t, "AddHandler")(impl.AddHandler(x, h))
			want := plain(x)
			want.Handlers = append(want.Handlers, h)
			if !sameTree(y, want) || len(impl.UsersOf(y, h.Name)) > 0 {
				t.Errorf("AddHandler(%v, %v) = %v", x, h, y)
			}
			for _, r := range settingRecords() {
				if !slices.Equal(impl.SendRecord(x, r), impl.SendRecord(y, r)) {
					t.Errorf("SendRecord(%v) = %v after AddHandler(%v, %v)", r, impl.SendRecord(y, r), x, h)
				}
			}
			if z := mustTree(t, "DropHandler")(impl.DropHandler(y, h.Name)); !sameTree(x, z) {
				t.Errorf("DropHandler(%v, %q) = %v", y, h.Name, z)
			}
		}
	}
	if added < 200 {
		t.Errorf("only %d handlers", added)
	}
}

func TestHandlersThatAreNotAdded(t *testing.T) {
	for _, name := range append(badNames(), "", "a.b", "a.b.c.d", "abcde", impl.LastName, "out", "h", "a") {
		mustFail(t, "AddHandler of "+name)(impl.AddHandler(house(), impl.Handler{Name: name}))
	}
	for _, level := range []int{-1, impl.MaxLevel + 1, -1 << 63, 1<<63 - 1} {
		mustFail(t, "AddHandler of a level")(impl.AddHandler(house(), impl.Handler{Name: "new", Level: level}))
	}
	for _, list := range badFilters() {
		mustFail(t, "AddHandler of filters")(impl.AddHandler(house(), impl.Handler{Name: "new", Filters: list}))
	}
	x := bare()
	for i := range impl.MaxHandlers {
		x = mustTree(t, "AddHandler")(impl.AddHandler(x, impl.Handler{Name: "ghijkl"[i : i+1]}))
	}
	mustFail(t, "AddHandler of a seventh one")(impl.AddHandler(x, impl.Handler{Name: "m"}))
	for _, h := range newHandlers() {
		mustFail(t, "AddHandler of a seventh one")(impl.AddHandler(full(), h))
	}
}

// Promise 63: after DropHandler no logger has the handler, and SpotsOf are those without it.
func TestDroppedHandlersGetNothing(t *testing.T) {
	for _, x := range settingTrees() {
		for i, h := range x.Handlers {
			y := mustTree(t, "DropHandler")(impl.DropHandler(x, h.Name))
			want := plain(x)
			want.Handlers = slices.Delete(want.Handlers, i, i+1)
			for k, l := range want.Loggers {
				want.Loggers[k].Handlers = slices.DeleteFunc(l.Handlers, func(name string) bool { return name == h.Name })
			}
			if !sameTree(y, want) || len(impl.UsersOf(y, h.Name)) > 0 {
				t.Errorf("DropHandler(%v, %q) = %v", x, h.Name, y)
			}
			for _, l := range y.Loggers {
				if slices.Contains(l.Handlers, h.Name) {
					t.Errorf("%q has %q after DropHandler", l.Name, h.Name)
				}
			}
			for _, name := range goodNames() {
				if got := impl.SpotsOf(y, name); !slices.Equal(got, withoutSpots(impl.SpotsOf(x, name), h.Name)) {
					t.Errorf("SpotsOf(%v, %q) = %v", y, name, got)
				}
			}
		}
		for _, name := range otherHandlers() {
			mustFail(t, "DropHandler of "+name)(impl.DropHandler(x, name))
		}
	}
}

func TestDropHandler(t *testing.T) {
	want := house()
	want.Handlers = slices.Delete(want.Handlers, 0, 1)
	want.Loggers[0].Handlers, want.Loggers[2].Handlers = nil, []string{"a", "h"}
	if x := mustTree(t, "DropHandler")(impl.DropHandler(house(), "out")); !sameTree(x, want) {
		t.Errorf("DropHandler = %v", x)
	}
	want = office()
	want.Handlers = want.Handlers[1:]
	if x := mustTree(t, "DropHandler")(impl.DropHandler(office(), "idle")); !sameTree(x, want) {
		t.Errorf("DropHandler of one that no logger has = %v", x)
	}
	mustFail(t, "DropHandler of none")(impl.DropHandler(bare(), ""))
	mustFail(t, "DropHandler of a logger")(impl.DropHandler(house(), "b"))
}

// Promise 64: NameHandler back is the tree, and UsersOf are the same.
func TestRenamedBackIsAsBefore(t *testing.T) {
	named := 0
	for _, x := range settingTrees() {
		for i, h := range x.Handlers {
			for _, to := range []string{"new", "abcd", "h", "out", "root", h.Name} {
				if to != h.Name && slices.Contains(handlersOf(x), to) {
					mustFail(t, "NameHandler to one that is there")(impl.NameHandler(x, h.Name, to))
					continue
				}
				named++
				y := mustTree(t, "NameHandler")(impl.NameHandler(x, h.Name, to))
				want := plain(x)
				want.Handlers[i].Name = to
				for _, l := range want.Loggers {
					for k, name := range l.Handlers {
						if name == h.Name {
							l.Handlers[k] = to
						}
					}
				}
				if !sameTree(y, want) {
					t.Errorf("NameHandler(%v, %q, %q) = %v", x, h.Name, to, y)
				}
				if got := impl.UsersOf(y, to); !slices.Equal(got, impl.UsersOf(x, h.Name)) {
					t.Errorf("UsersOf(%v, %q) = %q", y, to, got)
				}
				if z := mustTree(t, "NameHandler back")(impl.NameHandler(y, to, h.Name)); !sameTree(x, z) {
					t.Errorf("NameHandler(%v, %q, %q) = %v", y, to, h.Name, z)
				}
			}
			for _, to := range append(badNames(), "", "a.b", impl.LastName) {
				mustFail(t, "NameHandler to "+to)(impl.NameHandler(x, h.Name, to))
			}
		}
		for _, name := range otherHandlers() {
			mustFail(t, "NameHandler of "+name)(impl.NameHandler(x, name, "abc"))
			mustFail(t, "NameHandler of "+name)(impl.NameHandler(x, name, name))
		}
	}
	if named < 500 {
		t.Errorf("only %d names", named)
	}
}

func TestNameHandler(t *testing.T) {
	want := house()
	want.Handlers[0].Name = "root"
	want.Loggers[0].Handlers, want.Loggers[2].Handlers = []string{"root"}, []string{"a", "h", "root"}
	if x := mustTree(t, "NameHandler")(impl.NameHandler(house(), "out", "root")); !sameTree(x, want) {
		t.Errorf("NameHandler = %v", x)
	}
	// The filter of the handler a, and the loggers, have names that stay.
	want = house()
	want.Handlers[2].Name = "b"
	want.Loggers[2].Handlers = []string{"b", "h", "out"}
	if x := mustTree(t, "NameHandler")(impl.NameHandler(house(), "a", "b")); !sameTree(x, want) {
		t.Errorf("NameHandler = %v", x)
	}
	want = office()
	want.Handlers[3].Name = "nil"
	if x := mustTree(t, "NameHandler")(impl.NameHandler(office(), "none", "nil")); !sameTree(x, want) {
		t.Errorf("NameHandler of one that no logger has = %v", x)
	}
	mustFail(t, "NameHandler to one that no logger has")(impl.NameHandler(office(), "log", "idle"))
}

// Promise 65: after AttachHandler SpotsOf the logger have the handler, and detached again the tree is as before, if it was not there.
func TestAttachedHandlersAreSpots(t *testing.T) {
	attached, there := 0, 0
	for _, x := range settingTrees() {
		for i, l := range x.Loggers {
			for _, h := range x.Handlers {
				y := mustTree(t, "AttachHandler")(impl.AttachHandler(x, l.Name, h.Name))
				if !slices.Contains(impl.SpotsOf(y, l.Name), impl.Spot{Logger: l.Name, Handler: h.Name}) {
					t.Errorf("SpotsOf(%v, %q) = %v", y, l.Name, impl.SpotsOf(y, l.Name))
				}
				if slices.Contains(l.Handlers, h.Name) {
					there++
					if !sameTree(x, y) {
						t.Errorf("AttachHandler(%v, %q, %q) = %v", x, l.Name, h.Name, y)
					}
					continue
				}
				attached++
				if !sameTree(y, withLogger(x, i, func(l *impl.Logger) { l.Handlers = append(l.Handlers, h.Name) })) {
					t.Errorf("AttachHandler(%v, %q, %q) = %v", x, l.Name, h.Name, y)
				}
				if z := mustTree(t, "DetachHandler")(impl.DetachHandler(y, l.Name, h.Name)); !sameTree(x, z) {
					t.Errorf("DetachHandler(%v, %q, %q) = %v", y, l.Name, h.Name, z)
				}
			}
			for _, name := range otherHandlers() {
				mustFail(t, "AttachHandler of "+name)(impl.AttachHandler(x, l.Name, name))
			}
		}
		checkNoLogger(t, "AttachHandler", x, impl.AttachHandler)
	}
	if attached < 700 || there < 200 {
		t.Errorf("only %d handlers attached, %d there", attached, there)
	}
}

// checkNoLogger checks that AttachHandler or DetachHandler fails for names that no logger of a tree has.
func checkNoLogger(t *testing.T, what string, x impl.Tree, call func(x impl.Tree, name, handler string) (impl.Tree, bool)) {
	t.Helper()
	for _, name := range append(goodNames(), badNames()...) {
		if slices.Contains(namesOf(x), name) {
			continue
		}
		for _, h := range append(handlersOf(x), "", "new") {
			mustFail(t, what+" to "+name)(call(x, name, h))
		}
	}
}

// Promise 66: AttachHandler after DetachHandler has the same users, and the same spots of no other logger have changed.
func TestDetachedHandlersAreAttachedAtTheEnd(t *testing.T) {
	detached, moved := 0, 0
	for _, x := range settingTrees() {
		for i, l := range x.Loggers {
			for k, h := range l.Handlers {
				detached++
				y := mustTree(t, "DetachHandler")(impl.DetachHandler(x, l.Name, h))
				if !sameTree(y, withLogger(x, i, func(l *impl.Logger) { l.Handlers = slices.Delete(slices.Clone(l.Handlers), k, k+1) })) {
					t.Errorf("DetachHandler(%v, %q, %q) = %v", x, l.Name, h, y)
				}
				z := mustTree(t, "AttachHandler")(impl.AttachHandler(y, l.Name, h))
				if !slices.Equal(impl.UsersOf(x, h), impl.UsersOf(z, h)) || slices.Contains(impl.UsersOf(y, h), l.Name) {
					t.Errorf("UsersOf(%v, %q) = %q", z, h, impl.UsersOf(z, h))
				}
				own := z.Loggers[i].Handlers
				if own[len(own)-1] != h {
					t.Errorf("AttachHandler(%v, %q, %q) = %v", y, l.Name, h, z)
				}
				if !sameTree(x, z) {
					moved++
				}
				for _, name := range append(namesOf(x), goodNames()...) {
					if !slices.Equal(otherSpots(impl.SpotsOf(x, name), l.Name), otherSpots(impl.SpotsOf(z, name), l.Name)) {
						t.Errorf("SpotsOf(%v, %q) = %v", z, name, impl.SpotsOf(z, name))
					}
				}
			}
			for _, name := range append(otherHandlers(), handlersOf(x)...) {
				if !slices.Contains(l.Handlers, name) {
					mustFail(t, "DetachHandler of "+name)(impl.DetachHandler(x, l.Name, name))
				}
			}
		}
		checkNoLogger(t, "DetachHandler", x, impl.DetachHandler)
	}
	if detached < 200 || moved < 100 {
		t.Errorf("only %d handlers detached, %d moved", detached, moved)
	}
}

func TestAttachAndDetach(t *testing.T) {
	for _, c := range []struct {
		call          func(x impl.Tree, name, handler string) (impl.Tree, bool)
		what          string
		name, handler string
		want          []string // the handlers of the logger then
	}{
		{impl.AttachHandler, "AttachHandler", "a.b", "idle", []string{"root", "log", "idle"}},
		{impl.AttachHandler, "AttachHandler", "a.b", "root", []string{"root", "log"}},
		{impl.AttachHandler, "AttachHandler", "", "root", []string{"root"}},
		{impl.AttachHandler, "AttachHandler", "root.x", "none", []string{"none"}}, // it is off, and stops
		{impl.DetachHandler, "DetachHandler", "a.b", "root", []string{"log"}},
		{impl.DetachHandler, "DetachHandler", "a.b", "log", []string{"root"}},
	} {
		want := office()
		at := impl.LoggerAt(want, c.name)
		want.Loggers[at].Handlers = c.want
		if x := mustTree(t, c.what)(c.call(office(), c.name, c.handler)); !sameTree(x, want) {
			t.Errorf("%s(%q, %q) = %v", c.what, c.name, c.handler, x)
		}
	}
	mustFail(t, "AttachHandler of the last resort")(impl.AttachHandler(office(), "a.b", impl.LastName))
	mustFail(t, "AttachHandler to root")(impl.AttachHandler(office(), "root", "log")) // the root has the name ""
	mustFail(t, "DetachHandler of one that no logger has")(impl.DetachHandler(office(), "a.b", "idle"))
	mustFail(t, "DetachHandler of one that only the logger above has")(impl.DetachHandler(office(), "a.b.c", "log"))
	mustFail(t, "DetachHandler of one that only a logger below has")(impl.DetachHandler(office(), "", "log"))
}

// isBare reports whether a logger has nothing but its name.
func isBare(l impl.Logger) bool {
	return l.Level == 0 && len(l.Handlers)+len(l.Filters) == 0 && !l.Stop && !l.Off
}

// Promise 67: after DropPlain every record is sent as before, and dropped once more it is the same.
func TestLoggersWithNothingDoNotMatter(t *testing.T) {
	dropped, roots := 0, 0
	for _, x := range settingTrees() {
		y := impl.DropPlain(x)
		want := plain(x)
		want.Loggers = want.Loggers[:1]
		for i, l := range x.Loggers {
			if isBare(l) && i > 0 {
				dropped++
			} else if i > 0 {
				want.Loggers = append(want.Loggers, l)
			} else if isBare(l) {
				roots++
			}
		}
		if !impl.ValidTree(y) || !sameTree(y, want) {
			t.Fatalf("DropPlain(%v) = %v", x, y)
		}
		if !sameTree(impl.DropPlain(y), y) {
			t.Errorf("DropPlain(%v) = %v", y, impl.DropPlain(y))
		}
		for _, r := range settingRecords() {
			if !slices.Equal(impl.SendRecord(x, r), impl.SendRecord(y, r)) || !slices.Equal(impl.ExplainRecord(x, r), impl.ExplainRecord(y, r)) {
				t.Errorf("SendRecord(%v) = %v after DropPlain(%v)", r, impl.SendRecord(y, r), x)
			}
		}
	}
	if dropped < 100 || roots < 20 {
		t.Errorf("only %d loggers dropped, %d roots with nothing", dropped, roots)
	}
}

func TestDropPlain(t *testing.T) {
	want := office()
	want.Loggers = []impl.Logger{want.Loggers[0], want.Loggers[1], want.Loggers[2], want.Loggers[4], want.Loggers[5]}
	if x := impl.DropPlain(office()); !sameTree(x, want) {
		t.Errorf("DropPlain = %v", x)
	}
	// Any one thing keeps a logger.
	x := impl.Tree{Handlers: []impl.Handler{{Name: "h"}}, Loggers: []impl.Logger{
		{}, {Name: "a", Level: 1}, {Name: "b", Handlers: []string{"h"}}, {Name: "c", Filters: []impl.Filter{{Kind: impl.FiMost, N: 60}}}, {Name: "d", Stop: true}, {Name: "e", Off: true},
	}}
	if y := impl.DropPlain(x); !sameTree(x, y) {
		t.Errorf("DropPlain = %v", y)
	}
	x.Loggers = append(x.Loggers, impl.Logger{Name: "a.b", Handlers: []string{}, Filters: []impl.Filter{}}, impl.Logger{Name: "f"})
	if y := impl.DropPlain(x); len(y.Loggers) != 6 || len(y.Handlers) != 1 {
		t.Errorf("DropPlain = %v", y)
	}
	if y := impl.DropPlain(bare()); !sameTree(y, bare()) {
		t.Errorf("DropPlain of the root alone = %v", y)
	}
}

func TestHandlersOfTreesThatAreNotValid(t *testing.T) {
	for _, b := range badTrees() {
		if got := impl.UsedHandlers(b.tree); len(got) > 0 {
			t.Errorf("UsedHandlers with %s = %q", b.why, got)
		}
		if got := impl.DropPlain(b.tree); !sameTree(got, impl.Tree{}) {
			t.Errorf("DropPlain with %s = %v", b.why, got)
		}
		mustFail(t, "AddHandler with "+b.why)(impl.AddHandler(b.tree, impl.Handler{Name: "new"}))
		for _, h := range append(handlersOf(b.tree), "", "new", "out", impl.LastName) {
			if got := impl.UsersOf(b.tree, h); len(got) > 0 {
				t.Errorf("UsersOf with %s = %q", b.why, got)
			}
			mustFail(t, "DropHandler with "+b.why)(impl.DropHandler(b.tree, h))
			mustFail(t, "NameHandler with "+b.why)(impl.NameHandler(b.tree, h, "new"))
			for _, name := range append(namesOf(b.tree), "", "new") {
				mustFail(t, "AttachHandler with "+b.why)(impl.AttachHandler(b.tree, name, h))
				mustFail(t, "DetachHandler with "+b.why)(impl.DetachHandler(b.tree, name, h))
			}
		}
	}
}
