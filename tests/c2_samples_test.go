package tests

import (
	"fmt"
	"math/rand"
	"slices"
	"strings"

	"loop.example/loggertree/impl"
)

// goodTexts are texts of records.
func goodTexts() []string {
	return []string{
		"", " ", "   ", "x", "no", "a", "oh no x", "no no", " no", "no ", "x  no", "nono", "know", "n o", "not", "on",
		"abcdefghijkl", "no bcdefghij", "            ", "z no", "azaz zaza",
	}
}

// badTexts are texts that no record has.
func badTexts() []string {
	return []string{
		"abcdefghijklm", "             ", "abcdefghijkl ", strings.Repeat("a", 1000), "X", "a.b", "a1", "1", "-", "_", "a\tb", "a\n", "\n", "\r", "\x00", "a\x00",
		"`", "{", "a{", "é", "aé", "\xff", "a\xc3", "ａ", "a\u00a0b", "\u2003", "\x1f", "!", ",", "=",
	}
}

// badNumbers are numbers that are no levels and no numbers of records.
func badNumbers() []int {
	return []int{-1, -30, 1000, -1 << 63, 1<<63 - 1, 1 << 32, 1<<32 + 1}
}

// letter returns a valid record.
func letter() impl.Record {
	return impl.Record{Name: "a.b", Level: 20, Text: "oh no x", Seq: 7}
}

// goodRecords are records that are valid, ones at the limits among them.
func goodRecords() []impl.Record {
	list := []impl.Record{letter(), {Level: 1}, {Name: "abcd.abcd.abcd.abcd", Level: impl.MaxLevel, Text: "abcdefghijkl", Seq: impl.MaxSeq}}
	for i, name := range goodNames() {
		list = append(list, impl.Record{Name: name, Level: 1 + i, Text: goodTexts()[i%len(goodTexts())], Seq: i * 27})
	}
	for level := 1; level <= impl.MaxLevel; level++ {
		list = append(list, impl.Record{Name: "a.b.c", Level: level, Text: goodTexts()[level%len(goodTexts())], Seq: level % 5})
	}
	for i, text := range goodTexts() {
		list = append(list, impl.Record{Name: goodNames()[i], Level: 30, Text: text, Seq: 999 - i})
	}
	return list
}

// badRecord is a record that is not valid, and why.
type badRecord struct {
	why    string
	record impl.Record
}

// badRecords are records with one thing each that is not valid.
func badRecords() []badRecord {
	list := []badRecord{{"nothing at all", impl.Record{}}, {"no level", impl.Record{Name: "a.b", Text: "x", Seq: 7}}}
	add := func(why string, change func(r *impl.Record)) {
		r := letter()
		change(&r)
		list = append(list, badRecord{why, r})
	}
	for _, n := range badNumbers() {
		add(fmt.Sprint("level ", n), func(r *impl.Record) { r.Level = n })
		add(fmt.Sprint("number ", n), func(r *impl.Record) { r.Seq = n })
	}
	add("one level too many", func(r *impl.Record) { r.Level = impl.MaxLevel + 1 })
	add("one number too many", func(r *impl.Record) { r.Seq = impl.MaxSeq + 1 })
	for _, name := range badNames() {
		add(fmt.Sprintf("name %q", name), func(r *impl.Record) { r.Name = name })
	}
	for _, text := range badTexts() {
		add(fmt.Sprintf("text %q", text), func(r *impl.Record) { r.Text = text })
	}
	return list
}

// grownRecords returns valid records, many of which are alike, made by a source of numbers that are the same in each run.
func grownRecords(r *rand.Rand, n int) []impl.Record {
	var list []impl.Record
	for range n {
		x := impl.Record{Name: []string{"", "a", "a.b", "a.b.c"}[r.Intn(4)], Level: []int{10, 10, 30, 55}[r.Intn(4)], Text: []string{"", "x", "x", "no x"}[r.Intn(4)], Seq: r.Intn(4)}
		if len(list) > 0 && r.Intn(3) == 0 {
			x = list[len(list)-1]
			x.Seq = r.Intn(1000)
		}
		list = append(list, x)
	}
	return list
}

// goodLists are lists of valid records: given ones and grown ones.
func goodLists() [][]impl.Record {
	list := [][]impl.Record{nil, {}, {letter()}, slices.Repeat([]impl.Record{letter()}, impl.MaxRecords), goodRecords()[:impl.MaxRecords]}
	r := rand.New(rand.NewSource(2))
	for i := range 300 {
		list = append(list, grownRecords(r, i%(impl.MaxRecords+1)))
	}
	return list
}

// badList is a list of records that is not valid, and why.
type badList struct {
	why  string
	list []impl.Record
}

// badLists are lists of records with one thing each that is not valid.
func badLists() []badList {
	ok := letter()
	list := []badList{{"too many records", slices.Repeat([]impl.Record{ok}, impl.MaxRecords+1)}, {"far too many records", slices.Repeat([]impl.Record{ok}, 100)}}
	for _, b := range badRecords() {
		list = append(list, badList{b.why, []impl.Record{b.record}}, badList{b.why + " first", []impl.Record{b.record, ok, ok}}, badList{b.why + " in the middle", []impl.Record{ok, b.record, ok}}, badList{b.why + " last", []impl.Record{ok, ok, b.record}})
	}
	full := slices.Repeat([]impl.Record{ok}, impl.MaxRecords)
	full[impl.MaxRecords-1].Level = 0
	return append(list, badList{"no level at the very end", full})
}

// allFilters are filters of all kinds, each of them alone.
func allFilters() []impl.Filter {
	var list []impl.Filter
	for _, n := range []int{1, 20, 30, 31, 45, impl.MaxLevel} {
		list = append(list, impl.Filter{Kind: impl.FiMost, N: n}, impl.Filter{Kind: impl.FiRaise, N: n})
	}
	for _, name := range []string{"a", "a.b", "a.b.c", "ab", "root", "a.b.c.d"} {
		list = append(list, impl.Filter{Kind: impl.FiName, Name: name})
	}
	for _, word := range []string{"no", "x", "a", "abcd"} {
		list = append(list, impl.Filter{Kind: impl.FiWord, Name: word})
	}
	return list
}

// someFilters returns up to MaxFilters of all filters.
func someFilters(r *rand.Rand) []impl.Filter {
	var list []impl.Filter
	all := allFilters()
	for range r.Intn(impl.MaxFilters + 1) {
		list = append(list, all[r.Intn(len(all))])
	}
	return list
}

// busy returns a valid tree in which many records come to many handlers.
func busy(r *rand.Rand) impl.Tree {
	t := impl.Tree{Quiet: max(0, r.Intn(30)-20)}
	for _, name := range []string{"a", "b", "c", "d"} {
		h := impl.Handler{Name: name, Level: []int{0, 0, 20, 35}[r.Intn(4)]}
		if r.Intn(2) == 0 {
			h.Filters = someFilters(r)
		}
		t.Handlers = append(t.Handlers, h)
	}
	for _, name := range []string{"", "a", "a.b", "a.b.c", "b", "b.x"} {
		if name != "" && r.Intn(4) == 0 {
			continue
		}
		l := impl.Logger{Name: name, Level: max(0, r.Intn(40)-20), Stop: r.Intn(4) == 0, Off: r.Intn(8) == 0}
		if r.Intn(2) == 0 {
			l.Filters = someFilters(r)
		}
		for _, h := range r.Perm(len(t.Handlers)) {
			if r.Intn(3) == 0 {
				l.Handlers = append(l.Handlers, t.Handlers[h].Name)
			}
		}
		t.Loggers = append(t.Loggers, l)
	}
	return t
}

// routeTrees are valid trees of which routes are told: given ones and grown ones.
func routeTrees() []impl.Tree {
	list := append(goodTrees()[:40], post())
	r := rand.New(rand.NewSource(3))
	for range 80 {
		list = append(list, busy(r))
	}
	return list
}

// routeRecords are records that are sent to the route trees.
func routeRecords() []impl.Record {
	var list []impl.Record
	for _, name := range []string{"", "a", "a.b", "a.b.c", "a.b.c.d", "a.bc", "ab", "b", "b.x.y", "z"} {
		for _, level := range []int{1, 10, 20, 29, 30, 45, impl.MaxLevel} {
			for _, text := range []string{"", "no", "oh x"} {
				list = append(list, impl.Record{Name: name, Level: level, Text: text, Seq: len(list)})
			}
		}
	}
	return list
}

// post returns a tree in which levels are raised on the way, and c.d comes to no handler.
func post() impl.Tree {
	return impl.Tree{
		Handlers: []impl.Handler{
			{Name: "up", Filters: []impl.Filter{{Kind: impl.FiRaise, N: 40}}},
			{Name: "low", Level: 35},
			{Name: "drop", Filters: []impl.Filter{{Kind: impl.FiRaise, N: 50}, {Kind: impl.FiWord, Name: "no"}}},
			{Name: "most", Filters: []impl.Filter{{Kind: impl.FiMost, N: 30}}},
		},
		Loggers: []impl.Logger{
			{Handlers: []string{"low"}, Filters: []impl.Filter{{Kind: impl.FiWord, Name: "root"}}},
			{Name: "a", Handlers: []string{"up", "drop"}},
			{Name: "a.b", Level: 20, Handlers: []string{"low", "most"}, Filters: []impl.Filter{{Kind: impl.FiWord, Name: "spam"}}},
			{Name: "a.b.c", Handlers: []string{"up"}, Off: true},
			{Name: "c", Stop: true},
			{Name: "c.d", Filters: []impl.Filter{{Kind: impl.FiRaise, N: 30}}},
			{Name: "e", Level: 25, Handlers: []string{"most", "low"}, Filters: []impl.Filter{{Kind: impl.FiRaise, N: 35}}, Stop: true},
		},
	}
}
