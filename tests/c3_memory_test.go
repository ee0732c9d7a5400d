package tests

import (
	"reflect"
	"slices"
	"testing"

	"loop.example/loggertree/impl"
)

// roomyLists returns a copy of lists of lines, all of which have spare capacity.
func roomyLists(lists [][]string) [][]string {
	lists = roomyList(lists, []string{"left"})
	for i := range lists {
		lists[i] = roomyList(lists[i], "left")
	}
	return lists
}

// roomyDays returns a copy of days, all lists of which have spare capacity.
func roomyDays(days []impl.Day) []impl.Day {
	days = roomyList(days, impl.Day{Day: 7, Lines: []string{"left"}})
	for i := range days {
		days[i].Lines = roomyList(days[i].Lines, "left")
	}
	return days
}

// wholeLists returns a copy of lists in which all spare capacity is part of its list.
func wholeLists[T any](lists [][]T) [][]T {
	var out [][]T
	for _, list := range wholeList(lists) {
		out = append(out, slices.Clone(wholeList(list)))
	}
	return out
}

// wholeDays returns a copy of days in which all spare capacity is part of its list.
func wholeDays(days []impl.Day) []impl.Day {
	days = slices.Clone(wholeList(days))
	for i := range days {
		days[i].Lines = slices.Clone(wholeList(days[i].Lines))
	}
	return days
}

// addLists adds the addresses of lists of lists to places.
func addLists[T any](t *testing.T, p places, lists [][]T, whose string) {
	t.Helper()
	addPlaces(t, p, lists, whose)
	for _, list := range wholeList(lists) {
		addPlaces(t, p, list, whose)
	}
}

// addDays adds the addresses of days to places.
func addDays(t *testing.T, p places, days []impl.Day, whose string) {
	t.Helper()
	addPlaces(t, p, days, whose)
	for _, d := range wholeList(days) {
		addPlaces(t, p, d.Lines, whose)
	}
}

// checkSame checks that what a call changes nothing of is as before.
func checkSame(t *testing.T, what string, before, after any) {
	t.Helper()
	if !reflect.DeepEqual(before, after) {
		t.Errorf("%s makes %v of %v", what, after, before)
	}
}

// storeCalls are calls of all functions of buffers and queues that return records, with the records of a buffer or a queue, and others.
func storeCalls() map[string]func(own, list []impl.Record) ([]impl.Record, [][]impl.Record) {
	push := func(room, at int) func(own, list []impl.Record) ([]impl.Record, [][]impl.Record) {
		return func(own, list []impl.Record) ([]impl.Record, [][]impl.Record) {
			b, flushed, _ := impl.PushRecord(impl.Buffer{Room: room, At: at, Records: own}, list[0])
			return b.Records, [][]impl.Record{flushed}
		}
	}
	run := func(room, at, n int) func(own, list []impl.Record) ([]impl.Record, [][]impl.Record) {
		return func(own, list []impl.Record) ([]impl.Record, [][]impl.Record) {
			b, batches, _ := impl.RunBuffer(impl.Buffer{Room: room, At: at, Records: own}, list[:n])
			return b.Records, batches
		}
	}
	put := func(room int) func(own, list []impl.Record) ([]impl.Record, [][]impl.Record) {
		return func(own, list []impl.Record) ([]impl.Record, [][]impl.Record) {
			q, _ := impl.PutRecord(impl.Queue{Room: room, Items: own}, list[0])
			return q.Items, nil
		}
	}
	return map[string]func(own, list []impl.Record) ([]impl.Record, [][]impl.Record){
		"AtLeast":             func(own, list []impl.Record) ([]impl.Record, [][]impl.Record) { return impl.AtLeast(list, 20), nil },
		"AtLeast of all":      func(own, list []impl.Record) ([]impl.Record, [][]impl.Record) { return impl.AtLeast(list, 0), nil },
		"AtLeast of none":     func(own, list []impl.Record) ([]impl.Record, [][]impl.Record) { return impl.AtLeast(list, 61), nil },
		"PushRecord":          push(12, 61),
		"PushRecord of room":  push(len(ownRecords())+1, 61),
		"PushRecord of level": push(12, 10),
		"PushRecord to full":  push(len(ownRecords()), 61),
		"FlushBuffer": func(own, list []impl.Record) ([]impl.Record, [][]impl.Record) {
			b, flushed := impl.FlushBuffer(impl.Buffer{Room: 12, At: 61, Records: own})
			return b.Records, [][]impl.Record{flushed}
		},
		"RunBuffer":          run(12, 61, 4),
		"RunBuffer of none":  run(12, 61, 0),
		"RunBuffer of many":  run(len(ownRecords())+1, 61, 4),
		"RunBuffer of level": run(12, 10, 4),
		"RunBuffer to full":  run(len(ownRecords()), 61, 4),
		"PutRecord":          put(12),
		"PutRecord of room":  put(len(ownRecords()) + 1),
		"PutRecord to full":  put(len(ownRecords())),
		"TakeRecord": func(own, list []impl.Record) ([]impl.Record, [][]impl.Record) {
			q, _, _ := impl.TakeRecord(impl.Queue{Room: 12, Items: own})
			return q.Items, nil
		},
	}
}

// ownRecords are the records of the buffers and queues of these calls.
func ownRecords() []impl.Record {
	return []impl.Record{{Name: "a", Level: 5, Seq: 1}, {Name: "b", Level: 9, Seq: 2}, {Level: 1, Seq: 3}}
}

func TestStoresShareNothing(t *testing.T) {
	bad := ownRecords()
	bad[1].Level = 0
	for what, call := range storeCalls() {
		for _, given := range [][]impl.Record{ownRecords(), ownRecords()[:0], ownRecords()[:2], bad} {
			own := roomyList(given, impl.Record{Name: "left"})
			list := roomyList([]impl.Record{{Name: "x", Level: 10}, {Level: 30}, {Name: "y", Level: 10}, {Level: 20}}, impl.Record{Name: "left"})
			before, listBefore := slices.Clone(wholeList(own)), slices.Clone(wholeList(list))
			kept, batches := call(own, list)
			kept2, batches2 := call(own, list)
			checkSame(t, what, before, wholeList(own))
			checkSame(t, what, listBefore, wholeList(list))
			if !slices.Equal(kept, kept2) || !slices.EqualFunc(batches, batches2, slices.Equal[[]impl.Record]) {
				t.Errorf("%s differs the second time: %v %v, %v %v", what, kept, batches, kept2, batches2)
			}
			p := places{}
			addPlaces(t, p, own, "the own records of "+what)
			addPlaces(t, p, list, "the records of "+what)
			addPlaces(t, p, kept, "the result of "+what)
			addPlaces(t, p, kept2, "the second result of "+what)
			addLists(t, p, batches, "the batches of "+what)
			addLists(t, p, batches2, "the second batches of "+what)
		}
	}
}

// fileCalls are calls of all functions that return files, or lines of files.
func fileCalls() map[string]func(f impl.Files) [][]string {
	write := func(line string) func(f impl.Files) [][]string {
		return func(f impl.Files) [][]string {
			got, _ := impl.WriteLine(f, line)
			return got.Lists
		}
	}
	writeAll := func(list ...string) func(f impl.Files) [][]string {
		return func(f impl.Files) [][]string {
			got, _ := impl.WriteLines(f, list)
			return got.Lists
		}
	}
	return map[string]func(f impl.Files) [][]string{
		"RollFiles":            func(f impl.Files) [][]string { return impl.RollFiles(f).Lists },
		"WriteLine":            write("x"),
		"WriteLine of a long":  write(longLine),
		"WriteLine of no line": write("\n"),
		"WriteLines":           writeAll("x", "y", longLine, "z"),
		"WriteLines of none":   writeAll(),
		"WriteLines of many":   writeAll(make([]string, impl.MaxLines)...),
		"WriteLines of bad":    writeAll("a", "\n"),
		"AllLines":             func(f impl.Files) [][]string { return [][]string{impl.AllLines(f)} },
		"looks": func(f impl.Files) [][]string {
			impl.ValidFiles(f)
			impl.FindLine(f, "a")
			for _, lines := range f.Lists {
				impl.SizeOf(lines)
			}
			return nil
		},
	}
}

func TestFilesShareNothing(t *testing.T) {
	for what, call := range fileCalls() {
		all := goodFiles()[:60]
		for _, b := range badFiles() {
			all = append(all, b.files)
		}
		for _, f := range all {
			f.Lists = roomyLists(f.Lists)
			before := wholeLists(f.Lists)
			first, second := call(f), call(f)
			checkSame(t, what, before, wholeLists(f.Lists))
			if !sameLists(first, second) {
				t.Errorf("%s differs the second time: %q, %q", what, first, second)
			}
			p := places{}
			addPlaces(t, p, f.Lists, "the files of "+what)
			for _, lines := range f.Lists { // the spare lists are one
				addPlaces(t, p, lines, "the lines of "+what)
			}
			addLists(t, p, first, "the result of "+what)
			addLists(t, p, second, "the second result of "+what)
		}
	}
	list := roomyList([]string{"a", "b", longLine}, "left")
	before := slices.Clone(wholeList(list))
	got, ok := impl.WriteLines(goodFiles()[0], list)
	checkSame(t, "WriteLines", before, wholeList(list))
	p := places{}
	addPlaces(t, p, list, "the lines of WriteLines")
	addLists(t, p, got.Lists, "the result of WriteLines")
	if !ok {
		t.Error("WriteLines = false")
	}
}

func TestDaysShareNothing(t *testing.T) {
	all := goodDays()[:60]
	for _, b := range badDays() {
		all = append(all, b.days)
	}
	for _, given := range all {
		for _, day := range []int{0, 5, 12, 15, 16, 999} {
			for _, keep := range []int{-1, 0, 2, 999} {
				days := roomyDays(given)
				before := wholeDays(days)
				first, ok := impl.WriteDay(days, day, "x", keep)
				second, again := impl.WriteDay(days, day, "x", keep)
				impl.ValidDays(days)
				checkSame(t, "WriteDay", before, wholeDays(days))
				if ok != again || !sameDays(first, second) {
					t.Errorf("WriteDay(%v, %d, %d) differs the second time: %v, %v", given, day, keep, first, second)
				}
				p := places{}
				addPlaces(t, p, days, "the days of WriteDay")
				for _, d := range days {
					addPlaces(t, p, d.Lines, "the lines of WriteDay")
				}
				addDays(t, p, first, "the result of WriteDay")
				addDays(t, p, second, "the second result of WriteDay")
			}
		}
	}
}

func TestStoresThatAreNotValidAreKept(t *testing.T) {
	for _, b := range append(badLists(), badList{"good records", ownRecords()}) {
		list := roomyList(b.list, impl.Record{Name: "left"})
		before := slices.Clone(wholeList(list))
		buffer, queue := impl.Buffer{Room: 12, At: 61, Records: list}, impl.Queue{Room: 12, Items: list}
		impl.ValidBuffer(buffer)
		impl.AtLeast(list, 20)
		impl.PushRecord(buffer, letter())
		impl.FlushBuffer(buffer)
		impl.RunBuffer(buffer, list)
		impl.ValidQueue(queue)
		impl.PutRecord(queue, letter())
		impl.TakeRecord(queue)
		checkSame(t, b.why, before, wholeList(list))
	}
}
