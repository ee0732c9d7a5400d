package tests

import (
	"math/rand"
	"slices"
	"strconv"
	"strings"
	"testing"

	"loop.example/loggertree/impl"
)

func TestLimitsOfRecords(t *testing.T) {
	for _, c := range [][2]int{
		{impl.MaxText, 12}, {impl.MaxSeq, 999}, {impl.MaxRecords, 12}, {impl.MaxFormat, 40}, {impl.LastLevel, 30},
		{impl.RsSent, 0}, {impl.RsOff, 1}, {impl.RsQuiet, 2}, {impl.RsLevel, 3}, {impl.RsFilter, 4}, {impl.RsLow, 5}, {impl.RsDropped, 6},
	} {
		if c[0] != c[1] {
			t.Errorf("constant %d, not %d", c[0], c[1])
		}
	}
}

// Promise 22: valid records are valid without the last one.
func TestRecordsCanBeCut(t *testing.T) {
	for _, r := range goodRecords() {
		if !impl.ValidRecords([]impl.Record{r}) {
			t.Errorf("ValidRecords(%v) = false", r)
		}
	}
	for _, list := range goodLists() {
		for n := len(list); n >= 0; n-- {
			if !impl.ValidRecords(list[:n]) {
				t.Errorf("ValidRecords(%v) = false", list[:n])
			}
		}
	}
	for _, b := range badLists() {
		if impl.ValidRecords(b.list) {
			t.Errorf("ValidRecords with %s", b.why)
		}
	}
	for n := range 30 {
		if impl.ValidRecords(slices.Repeat([]impl.Record{letter()}, n)) != (n <= 12) {
			t.Errorf("ValidRecords of %d", n)
		}
	}
	for c := range 256 {
		r := letter()
		r.Text = "a" + string([]byte{byte(c)}) + "a"
		if impl.ValidRecords([]impl.Record{r}) != (c == ' ' || c >= 'a' && c <= 'z') {
			t.Errorf("ValidRecords with the text %q", r.Text)
		}
	}
	for n := -5; n <= 1005; n++ {
		r := letter()
		r.Level = n
		if impl.ValidRecords([]impl.Record{r}) != (n >= 1 && n <= 60) {
			t.Errorf("ValidRecords with the level %d", n)
		}
		r = letter()
		r.Seq = n
		if impl.ValidRecords([]impl.Record{r}) != (n >= 0 && n <= 999) {
			t.Errorf("ValidRecords with the number %d", n)
		}
	}
}

// levelNames are the names of levels that have one.
func levelNames() map[int]string {
	return map[int]string{10: "debug", 20: "info", 30: "warn", 40: "error", 50: "fatal"}
}

// Promise 23: ParseLevel of LevelName is the level.
func TestNamesOfLevelsAreReadBack(t *testing.T) {
	for level := range impl.MaxLevel + 1 {
		want := levelNames()[level]
		if want == "" {
			want = strconv.Itoa(level)
		}
		s := impl.LevelName(level)
		if s != want {
			t.Errorf("LevelName(%d) = %q", level, s)
		}
		if n, ok := impl.ParseLevel(s); !ok || n != level {
			t.Errorf("ParseLevel(%q) = %d, %v", s, n, ok)
		}
	}
	for _, level := range append(badNumbers(), impl.MaxLevel+1, 100, -10, -20) {
		if s := impl.LevelName(level); s != "" {
			t.Errorf("LevelName(%d) = %q", level, s)
		}
	}
}

// Promise 24: LevelName of ParseLevel is the text.
func TestLevelsAreWrittenBack(t *testing.T) {
	for _, s := range []string{"0", "1", "9", "11", "29", "31", "59", "60", "debug", "info", "warn", "error", "fatal"} {
		n, ok := impl.ParseLevel(s)
		if !ok || impl.LevelName(n) != s {
			t.Errorf("ParseLevel(%q) = %d, %v", s, n, ok)
		}
	}
	bad := []string{
		"", " ", "10", "20", "30", "40", "50", "61", "99", "100", "-1", "-0", "+1", "00", "01", "05", "060", "1 ", " 1", "1.0", "1e1", "0x1", "1_1", "1\n", "\x00",
		"Debug", "DEBUG", "debugs", "debu", "debug ", " debug", "warning", "err", "fatal\n", "information", "root", "１", "18446744073709551617", "4294967297",
	}
	for _, s := range bad {
		if n, ok := impl.ParseLevel(s); ok || n != 0 {
			t.Errorf("ParseLevel(%q) = %d, %v", s, n, ok)
		}
	}
	joins([]string{"0", "1", "5", "6", "-", "warn"}, 4, func(s string) {
		n, ok := impl.ParseLevel(s)
		if ok && impl.LevelName(n) != s || !ok && n != 0 {
			t.Errorf("ParseLevel(%q) = %d, %v", s, n, ok)
		}
	})
}

// wantFiltered returns FilterRecord of valid arguments, told in another way than the program.
func wantFiltered(list []impl.Filter, r impl.Record) (impl.Record, bool) {
	if len(list) == 0 {
		return r, true
	}
	f := list[0]
	blocked := false
	if f.Kind == impl.FiName {
		blocked = !lies(r.Name, f.Name)
	} else if f.Kind == impl.FiMost {
		blocked = r.Level > f.N
	} else if f.Kind == impl.FiWord {
		blocked = strings.Contains(" "+r.Text+" ", " "+f.Name+" ")
	} else if r.Level < f.N {
		r.Level = f.N
	}
	if blocked {
		return impl.Record{}, false
	}
	return wantFiltered(list[1:], r)
}

func TestFilterRecord(t *testing.T) {
	name := func(s string) impl.Filter { return impl.Filter{Kind: impl.FiName, Name: s} }
	word := func(s string) impl.Filter { return impl.Filter{Kind: impl.FiWord, Name: s} }
	most := func(n int) impl.Filter { return impl.Filter{Kind: impl.FiMost, N: n} }
	raise := func(n int) impl.Filter { return impl.Filter{Kind: impl.FiRaise, N: n} }
	for _, c := range []struct {
		list  []impl.Filter
		name  string
		level int
		text  string
		want  int // the level behind the filters, 0 if they do not let it pass
	}{
		{nil, "", 1, "", 1},
		{[]impl.Filter{}, "a", 60, "x", 60},
		{[]impl.Filter{name("a.b")}, "a.b", 20, "", 20},
		{[]impl.Filter{name("a.b")}, "a.b.c", 20, "", 20},
		{[]impl.Filter{name("a.b")}, "a.b.c.d", 20, "", 20},
		{[]impl.Filter{name("a.b")}, "a", 20, "", 0},
		{[]impl.Filter{name("a.b")}, "a.bc", 20, "", 0},
		{[]impl.Filter{name("a.b")}, "", 20, "", 0},
		{[]impl.Filter{name("a")}, "ab", 20, "", 0},
		{[]impl.Filter{name("root")}, "", 20, "", 0},
		{[]impl.Filter{most(30)}, "", 30, "", 30},
		{[]impl.Filter{most(30)}, "", 29, "", 29},
		{[]impl.Filter{most(30)}, "", 31, "", 0},
		{[]impl.Filter{most(60)}, "", 60, "", 60},
		{[]impl.Filter{most(1)}, "", 1, "", 1},
		{[]impl.Filter{word("no")}, "", 20, "", 20},
		{[]impl.Filter{word("no")}, "", 20, "no", 0},
		{[]impl.Filter{word("no")}, "", 20, "oh no x", 0},
		{[]impl.Filter{word("no")}, "", 20, "no x", 0},
		{[]impl.Filter{word("no")}, "", 20, "x no", 0},
		{[]impl.Filter{word("no")}, "", 20, " no ", 0},
		{[]impl.Filter{word("no")}, "", 20, "x  no", 0},
		{[]impl.Filter{word("no")}, "", 20, "nono", 20},
		{[]impl.Filter{word("no")}, "", 20, "know not on", 20},
		{[]impl.Filter{word("no")}, "", 20, "n o", 20},
		{[]impl.Filter{word("no")}, "no.no", 20, "x", 20}, // the word of a name does not count
		{[]impl.Filter{raise(40)}, "", 39, "", 40},
		{[]impl.Filter{raise(40)}, "", 40, "", 40},
		{[]impl.Filter{raise(40)}, "", 41, "", 41},
		{[]impl.Filter{raise(1)}, "", 1, "", 1},
		{[]impl.Filter{raise(60)}, "", 1, "", 60},
		{[]impl.Filter{raise(40), most(30)}, "", 20, "", 0},
		{[]impl.Filter{most(30), raise(40)}, "", 20, "", 40},
		{[]impl.Filter{raise(20), raise(40), raise(30)}, "", 10, "", 40},
		{[]impl.Filter{most(30), raise(40), most(40)}, "", 10, "", 40},
		{[]impl.Filter{raise(40), raise(50), most(49)}, "", 10, "", 0},
		{[]impl.Filter{name("a"), word("no"), raise(60)}, "a.x", 10, "yes", 60},
		{[]impl.Filter{raise(60), name("a"), word("no")}, "a.x", 10, "yes no", 0},
		{[]impl.Filter{raise(60), word("no"), name("b")}, "a.x", 10, "yes", 0},
		{[]impl.Filter{name("b"), raise(60)}, "a.x", 10, "yes", 0},
	} {
		r := impl.Record{Name: c.name, Level: c.level, Text: c.text, Seq: 5}
		want := impl.Record{}
		if c.want > 0 {
			want = r
			want.Level = c.want
		}
		if got, ok := impl.FilterRecord(c.list, r); ok != (c.want > 0) || got != want {
			t.Errorf("FilterRecord(%v, %v) = %v, %v", c.list, r, got, ok)
		}
	}
}

// Promise 25: FilterRecord of the first ones, and then of the others, is that of all, and only the level may change, and only to a greater one.
func TestFiltersAreAskedOneAfterTheOther(t *testing.T) {
	rnd := rand.New(rand.NewSource(4))
	passed, stopped, raised := 0, 0, 0
	for range 300 {
		list := someFilters(rnd)
		for _, r := range goodRecords() {
			got, ok := impl.FilterRecord(list, r)
			if want, wantOK := wantFiltered(list, r); ok != wantOK || got != want {
				t.Fatalf("FilterRecord(%v, %v) = %v, %v", list, r, got, ok)
			}
			for cut := range len(list) + 1 {
				first, firstOK := impl.FilterRecord(list[:cut], r)
				both, bothOK := first, firstOK
				if firstOK {
					both, bothOK = impl.FilterRecord(list[cut:], first)
				}
				if both != got || bothOK != ok {
					t.Errorf("FilterRecord(%v, %v) is %v, %v behind %d", list, r, both, bothOK, cut)
				}
			}
			if !ok {
				stopped++
				continue
			}
			passed++
			if got.Level > r.Level {
				raised++
			}
			if got.Name != r.Name || got.Text != r.Text || got.Seq != r.Seq || got.Level < r.Level {
				t.Errorf("FilterRecord(%v, %v) = %v", list, r, got)
			}
		}
	}
	if passed < 1000 || stopped < 1000 || raised < 1000 {
		t.Errorf("only %d passed, %d stopped, %d raised", passed, stopped, raised)
	}
}

// Promise 6: valid filters let a record pass or not, and the last one cut off they let no fewer pass.
func TestFiltersLetRecordsPassOrNot(t *testing.T) {
	for _, list := range filterLists() {
		for _, r := range goodRecords() {
			got, ok := impl.FilterRecord(list, r)
			if ok != impl.ValidRecords([]impl.Record{got}) || !ok && got != (impl.Record{}) {
				t.Errorf("FilterRecord(%v, %v) = %v, %v", list, r, got, ok)
			}
			if len(list) > 0 && ok {
				if _, cutOK := impl.FilterRecord(list[:len(list)-1], r); !cutOK {
					t.Errorf("FilterRecord(%v, %v) = false", list[:len(list)-1], r)
				}
			}
		}
	}
}

func TestFiltersAndRecordsThatAreNotValid(t *testing.T) {
	check := func(list []impl.Filter, r impl.Record) {
		t.Helper()
		if got, ok := impl.FilterRecord(list, r); ok || got != (impl.Record{}) {
			t.Errorf("FilterRecord(%v, %v) = %v, %v", list, r, got, ok)
		}
	}
	for _, list := range badFilters() {
		for _, r := range []impl.Record{letter(), {Name: "a", Level: 1}, {Level: impl.MaxLevel}} {
			check(list, r)
		}
	}
	for _, b := range badRecords() {
		check(nil, b.record)
		for _, f := range allFilters() { // a raise makes no record valid
			check([]impl.Filter{f}, b.record)
		}
	}
	check(badFilters()[0], impl.Record{})
}
