package tests

import (
	"slices"
	"testing"

	"loop.example/loggertree/impl"
)

// recordCalls are calls of all functions of the chapter that return records.
func recordCalls() map[string]func(list []impl.Record) []impl.Record {
	merge := func(a, b []impl.Record) []impl.Record {
		merged, _ := impl.MergeRecords(a, b)
		return merged
	}
	return map[string]func(list []impl.Record) []impl.Record{
		"DropRepeats":                 impl.DropRepeats,
		"DropRepeats of one":          func(list []impl.Record) []impl.Record { return impl.DropRepeats(list[:1]) },
		"DropRepeats of none":         func(list []impl.Record) []impl.Record { return impl.DropRepeats(list[:0]) },
		"SampleRecords":               func(list []impl.Record) []impl.Record { return impl.SampleRecords(list, 1, 2) },
		"SampleRecords of all":        func(list []impl.Record) []impl.Record { return impl.SampleRecords(list, 0, 1) },
		"SampleRecords of none":       func(list []impl.Record) []impl.Record { return impl.SampleRecords(list[:0], 1, 1) },
		"MergeRecords":                func(list []impl.Record) []impl.Record { return merge(list[:2], list[2:]) },
		"MergeRecords of a alone":     func(list []impl.Record) []impl.Record { return merge(list, nil) },
		"MergeRecords of b alone":     func(list []impl.Record) []impl.Record { return merge(nil, list) },
		"MergeRecords of a and none":  func(list []impl.Record) []impl.Record { return merge(list[:3], list[:0]) },
		"MergeRecords of none and b":  func(list []impl.Record) []impl.Record { return merge(list[:0], list[1:3]) },
		"MergeRecords of one another": func(list []impl.Record) []impl.Record { return merge(list, list) },
	}
}

// recordLists are lists of records for all of these calls, with and without anything to drop.
func recordLists() [][]impl.Record {
	a, b := letter(), impl.Record{Name: "b", Level: 9, Text: "x", Seq: 3}
	return [][]impl.Record{{a, b, a, b}, {a, a, a, b, b}, {b, b, b, b, b, b}, slices.Repeat([]impl.Record{a, b}, 7), {a, {}, b, a}}
}

func TestRecordsShareNothing(t *testing.T) {
	for what, call := range recordCalls() {
		for _, given := range recordLists() {
			list := roomyList(given, impl.Record{Name: "left"})
			before := slices.Clone(wholeList(list))
			first := call(list)
			second := call(list)
			if !slices.Equal(before, wholeList(list)) {
				t.Errorf("%s makes %v of %v", what, wholeList(list), before)
			}
			if !slices.Equal(first, second) {
				t.Errorf("%s differs the second time: %v, %v", what, first, second)
			}
			p := places{}
			addPlaces(t, p, list, "the argument of "+what)
			addPlaces(t, p, first, "the result of "+what)
			addPlaces(t, p, second, "the second result of "+what)
		}
	}
}

// routeCalls are calls of all functions of the chapter that look at a tree.
func routeCalls() map[string]func(t *testing.T, p places, x impl.Tree, list []impl.Record, whose string) {
	return map[string]func(t *testing.T, p places, x impl.Tree, list []impl.Record, whose string){
		"SpotsOf": func(t *testing.T, p places, x impl.Tree, list []impl.Record, whose string) {
			addPlaces(t, p, impl.SpotsOf(x, list[0].Name), whose)
		},
		"SendRecord": func(t *testing.T, p places, x impl.Tree, list []impl.Record, whose string) {
			addPlaces(t, p, impl.SendRecord(x, list[0]), whose)
		},
		"ExplainRecord": func(t *testing.T, p places, x impl.Tree, list []impl.Record, whose string) {
			addPlaces(t, p, impl.ExplainRecord(x, list[0]), whose)
		},
		"RunRecords": func(t *testing.T, p places, x impl.Tree, list []impl.Record, whose string) {
			addPlaces(t, p, impl.RunRecords(x, list), whose)
		},
	}
}

func TestRoutesShareNothing(t *testing.T) {
	trees := []impl.Tree{bare(), house(), full(), post()}
	for _, b := range badTrees() {
		if len(b.tree.Loggers) > 0 {
			trees = append(trees, b.tree)
		}
	}
	for what, call := range routeCalls() {
		for _, given := range trees {
			x := roomy(given)
			list := roomyList([]impl.Record{letter(), {Name: "c.d", Level: 50}, letter()}, impl.Record{Name: "left"})
			before := slices.Clone(wholeList(list))
			p := places{}
			checkKept(t, what, x, func() {
				call(t, p, x, list, "the result of "+what)
				call(t, p, x, list, "the second result of "+what)
			})
			if !slices.Equal(before, wholeList(list)) {
				t.Errorf("%s makes %v of %v", what, wholeList(list), before)
			}
			addTree(t, p, x, "the tree of "+what)
			addPlaces(t, p, list, "the records of "+what)
		}
	}
}

func TestFiltersAndSentRecordsAreKept(t *testing.T) {
	for _, given := range append(filterLists(), badFilters()...) {
		list := roomyList(given, impl.Filter{Name: "left"})
		before := slices.Clone(wholeList(list))
		for _, r := range goodRecords() {
			impl.FilterRecord(list, r)
		}
		if !slices.Equal(before, wholeList(list)) {
			t.Errorf("FilterRecord makes %v of %v", wholeList(list), before)
		}
	}
	sent := roomyList(impl.RunRecords(post(), []impl.Record{letter(), letter()}), impl.Sent{Handler: "up"})
	before := slices.Clone(wholeList(sent))
	p := places{}
	first, second := impl.RecordsOf(sent, "up"), impl.RecordsOf(sent, "up")
	addPlaces(t, p, first, "the result of RecordsOf")
	addPlaces(t, p, second, "the second result of RecordsOf")
	if len(first) == 0 || !slices.Equal(first, second) || !slices.Equal(before, wholeList(sent)) {
		t.Errorf("RecordsOf(%v) = %v, %v", before, first, second)
	}
	f := "{name}{seq 3}"
	a, b := impl.FieldsOf(f), impl.FieldsOf(f)
	addPlaces(t, p, a, "the result of FieldsOf")
	addPlaces(t, p, b, "the second result of FieldsOf")
	if !slices.Equal(a, b) {
		t.Errorf("FieldsOf = %q, %q", a, b)
	}
}

func TestListsThatAreNotValidAreKept(t *testing.T) {
	for _, b := range badLists() {
		list := roomyList(b.list, impl.Record{Name: "left"})
		before := slices.Clone(wholeList(list))
		impl.ValidRecords(list)
		impl.DropRepeats(list)
		impl.SampleRecords(list, 1, 1)
		impl.MergeRecords(list, list)
		impl.RunRecords(post(), list)
		if !slices.Equal(before, wholeList(list)) {
			t.Errorf("%s: %v is changed", b.why, b.list)
		}
	}
}
