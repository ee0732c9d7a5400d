package tests

import (
	"slices"
	"testing"

	"loop.example/loggertree/impl"
)

// loggerOf returns the logger of a name, and whether there is one.
func loggerOf(x impl.Tree, name string) (impl.Logger, bool) {
	for _, l := range x.Loggers {
		if l.Name == name {
			return l, true
		}
	}
	return impl.Logger{}, false
}

// handlerOf returns the handler of a name, the last resort too.
func handlerOf(x impl.Tree, name string) impl.Handler {
	for _, h := range x.Handlers {
		if h.Name == name {
			return h
		}
	}
	return impl.Handler{Name: impl.LastName, Level: impl.LastLevel}
}

// wantSpots returns SpotsOf of valid arguments, told in another way than the program.
func wantSpots(x impl.Tree, name string) []impl.Spot {
	var spots []impl.Spot
	for _, up := range wantPath(x, name) {
		l, _ := loggerOf(x, up)
		for _, h := range l.Handlers {
			spots = append(spots, impl.Spot{Logger: up, Handler: h})
		}
		if l.Stop {
			return spots
		}
	}
	return spots
}

// wantRoute returns SendRecord and ExplainRecord of valid arguments, told in another way than the program.
func wantRoute(x impl.Tree, r impl.Record) ([]impl.Sent, []impl.Reason) {
	l, _ := loggerOf(x, r.Name)
	level := 0
	for _, up := range wantPath(x, r.Name) {
		if level == 0 {
			level = ownLevel(x, up)
		}
	}
	now, ok := wantFiltered(l.Filters, r)
	if l.Off {
		return nil, []impl.Reason{{Kind: impl.RsOff}}
	} else if r.Level <= x.Quiet {
		return nil, []impl.Reason{{Kind: impl.RsQuiet}}
	} else if r.Level < level {
		return nil, []impl.Reason{{Kind: impl.RsLevel}}
	} else if !ok {
		return nil, []impl.Reason{{Kind: impl.RsFilter}}
	}
	spots := wantSpots(x, r.Name)
	if len(spots) == 0 {
		if now.Level < impl.LastLevel {
			return nil, []impl.Reason{{Kind: impl.RsLow, Handler: impl.LastName}}
		}
		return []impl.Sent{{Handler: impl.LastName, Record: now}}, []impl.Reason{{Kind: impl.RsSent, Handler: impl.LastName}}
	}
	var sent []impl.Sent
	var reasons []impl.Reason
	for _, s := range spots {
		why := impl.Reason{Kind: impl.RsLow, Logger: s.Logger, Handler: s.Handler}
		if h := handlerOf(x, s.Handler); now.Level >= h.Level {
			why.Kind = impl.RsDropped
			if next, ok := wantFiltered(h.Filters, now); ok {
				why.Kind = impl.RsSent
				now = next
				sent = append(sent, impl.Sent{Logger: s.Logger, Handler: s.Handler, Record: now})
			}
		}
		reasons = append(reasons, why)
	}
	return sent, reasons
}

// Promise 26: each of SpotsOf is a handler of a logger on the path, all of one logger are together, and without a stop all are there.
func TestSpotsAreHandlersOfThePath(t *testing.T) {
	for _, x := range append(routeTrees(), goodTrees()...) {
		for _, name := range goodNames() {
			spots := impl.SpotsOf(x, name)
			if !slices.Equal(spots, wantSpots(x, name)) {
				t.Fatalf("SpotsOf(%v, %q) = %v", x, name, spots)
			}
			path := impl.PathOf(x, name)
			at := 0
			for _, s := range spots {
				next := slices.Index(path, s.Logger)
				l, _ := loggerOf(x, s.Logger)
				if next < at || !slices.Contains(l.Handlers, s.Handler) {
					t.Errorf("SpotsOf(%v, %q) = %v", x, name, spots)
				}
				at = next
			}
			all, stop := 0, false
			for _, up := range path {
				l, _ := loggerOf(x, up)
				all += len(l.Handlers)
				stop = stop || l.Stop
			}
			if !stop && len(spots) != all {
				t.Errorf("SpotsOf(%v, %q) = %v, and not %d", x, name, spots, all)
			}
		}
	}
}

func TestSpotsOf(t *testing.T) {
	spot := func(logger, handler string) impl.Spot { return impl.Spot{Logger: logger, Handler: handler} }
	for _, c := range []struct {
		tree impl.Tree
		name string
		want []impl.Spot
	}{
		{bare(), "", nil},
		{bare(), "a.b", nil},
		{house(), "", []impl.Spot{spot("", "out")}},
		{house(), "a", []impl.Spot{spot("", "out")}},
		{house(), "a.b", []impl.Spot{spot("a.b", "a"), spot("a.b", "h"), spot("a.b", "out"), spot("", "out")}},
		{house(), "a.b.c.d", []impl.Spot{spot("a.b", "a"), spot("a.b", "h"), spot("a.b", "out"), spot("", "out")}}, // Off does not matter
		{house(), "a.bc", nil}, // it stops, and has none
		{house(), "a.bc.d", nil},
		{house(), "b", []impl.Spot{spot("b", "h")}},
		{house(), "b.x.y", []impl.Spot{spot("b", "h")}},
		{post(), "a.b.c", []impl.Spot{spot("a.b.c", "up"), spot("a.b", "low"), spot("a.b", "most"), spot("a", "up"), spot("a", "drop"), spot("", "low")}},
		{post(), "c.d", nil},
		{post(), "e.a", []impl.Spot{spot("e", "most"), spot("e", "low")}},
	} {
		if got := impl.SpotsOf(c.tree, c.name); !slices.Equal(got, c.want) {
			t.Errorf("SpotsOf(%q) = %v", c.name, got)
		}
	}
}

// Promise 15: AddLogger has the logger, and every logger and name has its EffectiveLevel and its spots as before.
func TestNewLoggersChangeNoLevel(t *testing.T) {
	added := 0
	for _, x := range routeTrees() {
		for _, name := range goodNames() {
			y, ok := impl.AddLogger(x, name)
			if !ok {
				continue
			}
			added++
			if impl.LoggerAt(y, name) < 0 {
				t.Errorf("AddLogger(%v, %q) = %v", x, name, y)
			}
			for _, n := range append(namesOf(x), name, name+".z", "a.b.c.d", "b.x.y", "z") {
				if impl.EffectiveLevel(x, n) != impl.EffectiveLevel(y, n) || !slices.Equal(impl.SpotsOf(x, n), impl.SpotsOf(y, n)) {
					t.Errorf("%q of %v after AddLogger of %q: %d, %v", n, x, name, impl.EffectiveLevel(y, n), impl.SpotsOf(y, n))
				}
			}
		}
	}
	if added < 1000 {
		t.Errorf("only %d loggers", added)
	}
}

// Promise 18: SpotsOf after SetStop has the own handlers alone, or those of the parent behind them.
func TestStopsCutPaths(t *testing.T) {
	for _, x := range append(routeTrees(), goodTrees()...) {
		for _, l := range x.Loggers {
			var own []impl.Spot
			for _, h := range l.Handlers {
				own = append(own, impl.Spot{Logger: l.Name, Handler: h})
			}
			y := mustTree(t, "SetStop")(impl.SetStop(x, l.Name, true))
			if got := impl.SpotsOf(y, l.Name); !slices.Equal(got, own) {
				t.Errorf("SpotsOf(%v, %q) = %v", y, l.Name, got)
			}
			y = mustTree(t, "SetStop")(impl.SetStop(x, l.Name, false))
			if up, ok := impl.ParentOf(y, l.Name); ok {
				own = append(own, impl.SpotsOf(y, up)...)
			}
			if got := impl.SpotsOf(y, l.Name); !slices.Equal(got, own) {
				t.Errorf("SpotsOf(%v, %q) = %v", y, l.Name, got)
			}
		}
	}
}

func TestRoutesOfThePost(t *testing.T) {
	type stop struct {
		kind            int
		logger, handler string
		level           int // of the record that is sent there
	}
	one := func(kind int) []stop { return []stop{{kind: kind}} }
	for _, c := range []struct {
		name  string
		level int
		text  string
		want  []stop
	}{
		{"a.b", 20, "", []stop{{impl.RsLow, "a.b", "low", 0}, {impl.RsSent, "a.b", "most", 20}, {impl.RsSent, "a", "up", 40}, {impl.RsSent, "a", "drop", 50}, {impl.RsSent, "", "low", 50}}},
		// What drop raises does not go on, as it does not let the record pass.
		{"a.b", 20, "no", []stop{{impl.RsLow, "a.b", "low", 0}, {impl.RsSent, "a.b", "most", 20}, {impl.RsSent, "a", "up", 40}, {impl.RsDropped, "a", "drop", 0}, {impl.RsSent, "", "low", 40}}},
		{"a.b", 35, "no", []stop{{impl.RsSent, "a.b", "low", 35}, {impl.RsDropped, "a.b", "most", 0}, {impl.RsSent, "a", "up", 40}, {impl.RsDropped, "a", "drop", 0}, {impl.RsSent, "", "low", 40}}},
		{"a.b", 60, "", []stop{{impl.RsSent, "a.b", "low", 60}, {impl.RsDropped, "a.b", "most", 0}, {impl.RsSent, "a", "up", 60}, {impl.RsSent, "a", "drop", 60}, {impl.RsSent, "", "low", 60}}},
		{"a.b", 19, "spam", one(impl.RsLevel)},
		{"a.b", 20, "spam", one(impl.RsFilter)},
		{"a.b.c", 60, "", one(impl.RsOff)},
		// A name below a logger that is off, without the filters of any other logger.
		{"a.b.c.d", 20, "spam root", []stop{{impl.RsSent, "a.b.c", "up", 40}, {impl.RsSent, "a.b", "low", 40}, {impl.RsDropped, "a.b", "most", 0}, {impl.RsSent, "a", "up", 40}, {impl.RsSent, "a", "drop", 50}, {impl.RsSent, "", "low", 50}}},
		{"a", 1, "no", []stop{{impl.RsSent, "a", "up", 40}, {impl.RsDropped, "a", "drop", 0}, {impl.RsSent, "", "low", 40}}},
		{"", 34, "", []stop{{impl.RsLow, "", "low", 0}}}, // no last resort, as there is a spot
		{"", 35, "", []stop{{impl.RsSent, "", "low", 35}}},
		{"", 60, "root", one(impl.RsFilter)},
		{"z", 60, "root", []stop{{impl.RsSent, "", "low", 60}}},
		{"c", 29, "", []stop{{impl.RsLow, "", impl.LastName, 0}}},
		{"c", 30, "", []stop{{impl.RsSent, "", impl.LastName, 30}}},
		{"c.d", 1, "", []stop{{impl.RsSent, "", impl.LastName, 30}}}, // raised by its logger
		{"c.d", 45, "", []stop{{impl.RsSent, "", impl.LastName, 45}}},
		{"c.d.e", 1, "", []stop{{impl.RsLow, "", impl.LastName, 0}}},
		{"e", 24, "", one(impl.RsLevel)}, // not raised yet
		{"e", 25, "", []stop{{impl.RsDropped, "e", "most", 0}, {impl.RsSent, "e", "low", 35}}},
		{"e.f", 25, "", []stop{{impl.RsSent, "e", "most", 25}, {impl.RsLow, "e", "low", 0}}},
	} {
		r := impl.Record{Name: c.name, Level: c.level, Text: c.text, Seq: 3}
		var sent []impl.Sent
		var reasons []impl.Reason
		for _, s := range c.want {
			reasons = append(reasons, impl.Reason{Kind: s.kind, Logger: s.logger, Handler: s.handler})
			if s.kind == impl.RsSent {
				sent = append(sent, impl.Sent{Logger: s.logger, Handler: s.handler, Record: impl.Record{Name: c.name, Level: s.level, Text: c.text, Seq: 3}})
			}
		}
		if got := impl.SendRecord(post(), r); !slices.Equal(got, sent) {
			t.Errorf("SendRecord(%v) = %v", r, got)
		}
		if got := impl.ExplainRecord(post(), r); !slices.Equal(got, reasons) {
			t.Errorf("ExplainRecord(%v) = %v", r, got)
		}
	}
}

func TestTheFirstReasonCounts(t *testing.T) {
	x := impl.Tree{Quiet: 30, Loggers: []impl.Logger{{Level: 40, Filters: []impl.Filter{{Kind: impl.FiWord, Name: "no"}, {Kind: impl.FiRaise, N: 60}}, Off: true}}}
	check := func(level int, kind int) {
		t.Helper()
		r := impl.Record{Level: level, Text: "no"}
		if got := impl.ExplainRecord(x, r); !slices.Equal(got, []impl.Reason{{Kind: kind}}) || len(impl.SendRecord(x, r)) != 0 {
			t.Errorf("ExplainRecord(%d) = %v", level, got)
		}
	}
	check(60, impl.RsOff)
	check(30, impl.RsOff)
	x.Loggers[0].Off = false
	check(29, impl.RsQuiet)
	check(30, impl.RsQuiet)
	check(31, impl.RsLevel)
	check(39, impl.RsLevel)
	check(40, impl.RsFilter)
	check(60, impl.RsFilter)
	x.Loggers[0].Filters = x.Loggers[0].Filters[1:]
	check(30, impl.RsQuiet)
	check(39, impl.RsLevel)
	if got := impl.SendRecord(x, impl.Record{Level: 40}); !slices.Equal(got, []impl.Sent{{Handler: impl.LastName, Record: impl.Record{Level: 60}}}) {
		t.Errorf("SendRecord = %v", got)
	}
}

// Promise 27: SendRecord is to handlers of SpotsOf, in order, or to the last resort alone, and to none if the logger is not enabled.
func TestRecordsAreSentToSpots(t *testing.T) {
	for _, x := range routeTrees() {
		for _, r := range routeRecords() {
			sent := impl.SendRecord(x, r)
			spots := impl.SpotsOf(x, r.Name)
			if len(spots) == 0 {
				spots = []impl.Spot{{Handler: impl.LastName}}
			}
			for _, s := range sent {
				at := slices.Index(spots, impl.Spot{Logger: s.Logger, Handler: s.Handler})
				if at < 0 {
					t.Fatalf("SendRecord(%v, %v) = %v", x, r, sent)
				}
				spots = spots[at+1:]
			}
			if len(sent) > 0 && !impl.IsEnabled(x, r.Name, r.Level) {
				t.Errorf("SendRecord(%v, %v) = %v", x, r, sent)
			}
		}
	}
}

// Promise 28: each record that is sent has at least the level of its handler, the same text, and no lesser level than at first.
func TestHandlersGetWhatTheyAskFor(t *testing.T) {
	raised := 0
	for _, x := range routeTrees() {
		for _, r := range routeRecords() {
			level := r.Level
			for _, s := range impl.SendRecord(x, r) {
				if s.Record.Level < handlerOf(x, s.Handler).Level || s.Record.Level < level || s.Record.Text != r.Text || s.Record.Name != r.Name || s.Record.Seq != r.Seq {
					t.Errorf("SendRecord(%v, %v) has %v", x, r, s)
				}
				if s.Record.Level > level {
					raised++
				}
				level = s.Record.Level
			}
		}
	}
	if raised < 1000 {
		t.Errorf("only %d records are raised", raised)
	}
}

// Promise 29: SendRecord is the same after AddLogger of its name.
func TestALoggerWithNothingOfItsOwnSendsAsTheOneAboveIt(t *testing.T) {
	added := 0
	for _, x := range routeTrees() {
		for _, r := range routeRecords() {
			y, ok := impl.AddLogger(x, r.Name)
			if !ok {
				continue
			}
			added++
			if !slices.Equal(impl.SendRecord(x, r), impl.SendRecord(y, r)) || !slices.Equal(impl.ExplainRecord(x, r), impl.ExplainRecord(y, r)) {
				t.Errorf("SendRecord(%v, %v) = %v after AddLogger", x, r, impl.SendRecord(y, r))
			}
		}
	}
	if added < 1000 {
		t.Errorf("only %d loggers", added)
	}
}

// Promise 30: ExplainRecord has RsSent exactly for what SendRecord sends, in order, and one reason for each spot, or one alone.
func TestReasonsTellWhatIsSent(t *testing.T) {
	kinds := map[int]int{}
	last := 0
	for _, x := range routeTrees() {
		for _, r := range routeRecords() {
			sent, reasons := impl.SendRecord(x, r), impl.ExplainRecord(x, r)
			wantSent, wantReasons := wantRoute(x, r)
			if !slices.Equal(sent, wantSent) {
				t.Fatalf("SendRecord(%v, %v) = %v, not %v", x, r, sent, wantSent)
			}
			if !slices.Equal(reasons, wantReasons) {
				t.Fatalf("ExplainRecord(%v, %v) = %v, not %v", x, r, reasons, wantReasons)
			}
			var told []impl.Spot
			for _, why := range reasons {
				kinds[why.Kind]++
				if why.Handler == impl.LastName {
					last++
				}
				if why.Kind == impl.RsSent {
					told = append(told, impl.Spot{Logger: why.Logger, Handler: why.Handler})
				}
			}
			if len(told) != len(sent) {
				t.Fatalf("ExplainRecord(%v, %v) = %v, and SendRecord %v", x, r, reasons, sent)
			}
			for i, s := range sent {
				if told[i] != (impl.Spot{Logger: s.Logger, Handler: s.Handler}) {
					t.Errorf("ExplainRecord(%v, %v) = %v, and SendRecord %v", x, r, reasons, sent)
				}
			}
			if len(reasons) != 1 && len(reasons) != len(impl.SpotsOf(x, r.Name)) {
				t.Errorf("ExplainRecord(%v, %v) = %v", x, r, reasons)
			}
		}
	}
	for kind := range impl.RsDropped + 1 {
		if kinds[kind] < 100 {
			t.Errorf("only %d reasons of the kind %d", kinds[kind], kind)
		}
	}
	if last < 100 || len(kinds) != impl.RsDropped+1 {
		t.Errorf("%d reasons of the last resort, kinds %v", last, kinds)
	}
}

// Promise 31: RunRecords of the first ones, and then of the others, is that of all.
func TestRecordsAreSentOneByOne(t *testing.T) {
	lists := goodLists()
	for i, x := range routeTrees() {
		for j := range 10 {
			list := lists[(i*10+j)%len(lists)]
			all := impl.RunRecords(x, list)
			var want []impl.Sent
			for _, r := range list {
				sent, _ := wantRoute(x, r)
				want = append(want, sent...)
			}
			if !slices.Equal(all, want) {
				t.Fatalf("RunRecords(%v, %v) = %v", x, list, all)
			}
			for cut := range len(list) + 1 {
				if both := append(impl.RunRecords(x, list[:cut]), impl.RunRecords(x, list[cut:])...); !slices.Equal(all, both) {
					t.Errorf("RunRecords(%v, %v) = %v, and cut at %d %v", x, list, all, cut, both)
				}
			}
		}
	}
}

// Promise 32: RecordsOf of each different handler together are as many as are sent.
func TestRecordsOfAllHandlersAreAllThatAreSent(t *testing.T) {
	for i, x := range routeTrees() {
		sent := impl.RunRecords(x, routeRecords()[i:i+impl.MaxRecords])
		n := 0
		for _, name := range []string{"a", "b", "c", "d", "out", "h", "las", "abcd", "e", "up", "low", "drop", "most", impl.LastName} {
			n += len(impl.RecordsOf(sent, name))
		}
		if n != len(sent) {
			t.Errorf("RecordsOf %v are %d", sent, n)
		}
	}
}

func TestRecordsOf(t *testing.T) {
	a, b := letter(), impl.Record{Level: -1, Name: "..", Text: "X", Seq: 5000} // nothing needs to be valid
	list := []impl.Sent{{Logger: "x", Handler: "h", Record: a}, {Handler: "hh", Record: a}, {Logger: "h", Handler: "", Record: b}, {Handler: "h", Record: b}, {Logger: "x", Handler: "h", Record: a}, {Handler: impl.LastName, Record: b}, {Handler: "..", Record: a}}
	for name, want := range map[string][]impl.Record{"h": {a, b, a}, "hh": {a}, "": {b}, impl.LastName: {b}, "..": {a}, "x": nil, "H": nil} {
		if got := impl.RecordsOf(list, name); !slices.Equal(got, want) {
			t.Errorf("RecordsOf(%q) = %v", name, got)
		}
		if got := impl.RecordsOf(nil, name); len(got) != 0 {
			t.Errorf("RecordsOf(nil, %q) = %v", name, got)
		}
	}
	many := slices.Repeat(list, 20)
	if got := impl.RecordsOf(many, "h"); len(got) != 60 {
		t.Errorf("RecordsOf of many has %d", len(got))
	}
}

// checkNoRoute checks that everything that sends records returns nothing.
func checkNoRoute(t *testing.T, why string, x impl.Tree, r impl.Record) {
	t.Helper()
	if got := impl.SendRecord(x, r); len(got) != 0 {
		t.Errorf("%s: SendRecord = %v", why, got)
	}
	if got := impl.ExplainRecord(x, r); len(got) != 0 {
		t.Errorf("%s: ExplainRecord = %v", why, got)
	}
	if got := impl.RunRecords(x, []impl.Record{r}); len(got) != 0 {
		t.Errorf("%s: RunRecords = %v", why, got)
	}
}

func TestRoutesOfWhatIsNotValid(t *testing.T) {
	for _, b := range badTrees() {
		for _, r := range append(routeRecords(), impl.Record{}) {
			checkNoRoute(t, b.why, b.tree, r)
		}
		for _, name := range append(namesOf(b.tree), "", "a", "a.b", "b.x.y", "z") {
			if got := impl.SpotsOf(b.tree, name); len(got) != 0 {
				t.Errorf("%s: SpotsOf(%q) = %v", b.why, name, got)
			}
		}
	}
	for _, x := range []impl.Tree{bare(), house(), full(), post()} {
		for _, b := range badRecords() {
			checkNoRoute(t, b.why, x, b.record)
		}
		for _, name := range badNames() {
			if got := impl.SpotsOf(x, name); len(got) != 0 {
				t.Errorf("SpotsOf(%q) = %v", name, got)
			}
		}
		for _, b := range badLists() {
			if got := impl.RunRecords(x, b.list); len(got) != 0 {
				t.Errorf("%s: RunRecords = %v", b.why, got)
			}
		}
	}
}
