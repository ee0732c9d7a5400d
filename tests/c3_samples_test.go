package tests

import (
	"fmt"
	"math/rand"
	"slices"
	"strings"

	"loop.example/loggertree/impl"
)

// goodBuffers are valid buffers: of each room, with all counts of records.
func goodBuffers() []impl.Buffer {
	var list []impl.Buffer
	r := rand.New(rand.NewSource(6))
	for room := 1; room <= impl.MaxRecords; room++ {
		for _, at := range []int{1, 2, 30, 31, impl.MaxLevel, impl.MaxLevel + 1} {
			b := impl.Buffer{Room: room, At: at}
			list = append(list, b)
			for at > 1 && len(b.Records)+1 < room {
				x := goodRecords()[r.Intn(len(goodRecords()))]
				x.Level = 1 + r.Intn(at-1)
				b.Records = append(slices.Clone(b.Records), x)
				list = append(list, b)
			}
		}
	}
	return list
}

// badBuffer is a buffer that is not valid, and why.
type badBuffer struct {
	why    string
	buffer impl.Buffer
}

// badBuffers are buffers with one thing each that is not valid.
func badBuffers() []badBuffer {
	low := impl.Record{Name: "a", Level: 29, Text: "x", Seq: 1}
	list := []badBuffer{{"nothing at all", impl.Buffer{}}, {"a record and room for one", impl.Buffer{Room: 1, At: 30, Records: []impl.Record{low}}}}
	add := func(why string, change func(b *impl.Buffer)) {
		b := impl.Buffer{Room: 3, At: 30, Records: []impl.Record{low}}
		change(&b)
		list = append(list, badBuffer{why, b})
	}
	for _, n := range append(badNumbers(), 0, impl.MaxRecords+1) {
		add(fmt.Sprint("room ", n), func(b *impl.Buffer) { b.Room = n })
	}
	for _, n := range append(badNumbers(), 0, impl.MaxLevel+2) {
		add(fmt.Sprint("at ", n), func(b *impl.Buffer) { b.At = n })
		add(fmt.Sprint("no records at ", n), func(b *impl.Buffer) { b.At, b.Records = n, nil })
	}
	for _, n := range []int{3, 4, impl.MaxRecords, impl.MaxRecords + 1, 100} {
		add(fmt.Sprint("records ", n), func(b *impl.Buffer) { b.Records = slices.Repeat(b.Records, n) })
	}
	add("full at the greatest room", func(b *impl.Buffer) {
		b.Room, b.Records = impl.MaxRecords, slices.Repeat(b.Records, impl.MaxRecords)
	})
	for _, level := range []int{30, 31, impl.MaxLevel} {
		great := low
		great.Level = level
		add(fmt.Sprint("level ", level), func(b *impl.Buffer) { b.Records = []impl.Record{great} })
		add(fmt.Sprint("level ahead ", level), func(b *impl.Buffer) { b.Records = []impl.Record{great, low} })
		add(fmt.Sprint("level behind ", level), func(b *impl.Buffer) { b.Records = []impl.Record{low, great} })
	}
	for _, x := range badLists() {
		list = append(list, badBuffer{x.why, impl.Buffer{Room: impl.MaxRecords, At: impl.MaxLevel + 1, Records: x.list}})
	}
	return list
}

// goodQueues are valid queues: of each room, with all counts of items.
func goodQueues() []impl.Queue {
	var list []impl.Queue
	items := goodRecords()
	for room := 1; room <= impl.MaxRecords; room++ {
		for n := range room + 1 {
			for _, lost := range []int{0, 1, impl.MaxSeq - 1, impl.MaxSeq} {
				list = append(list, impl.Queue{Room: room, Items: slices.Clone(items[room : room+n]), Lost: lost})
			}
		}
	}
	return list
}

// badQueue is a queue that is not valid, and why.
type badQueue struct {
	why   string
	queue impl.Queue
}

// badQueues are queues with one thing each that is not valid.
func badQueues() []badQueue {
	list := []badQueue{{"nothing at all", impl.Queue{}}}
	add := func(why string, change func(q *impl.Queue)) {
		q := impl.Queue{Room: 3, Items: []impl.Record{letter()}, Lost: 5}
		change(&q)
		list = append(list, badQueue{why, q})
	}
	for _, n := range append(badNumbers(), 0, impl.MaxRecords+1) {
		add(fmt.Sprint("room ", n), func(q *impl.Queue) { q.Room = n })
		add(fmt.Sprint("no items and room ", n), func(q *impl.Queue) { q.Room, q.Items = n, nil })
	}
	for _, n := range append(badNumbers(), impl.MaxSeq+1) {
		add(fmt.Sprint("lost ", n), func(q *impl.Queue) { q.Lost = n })
		add(fmt.Sprint("full and lost ", n), func(q *impl.Queue) { q.Room, q.Lost = 1, n })
	}
	for _, n := range []int{4, 5, impl.MaxRecords, impl.MaxRecords + 1, 100} {
		add(fmt.Sprint("items ", n), func(q *impl.Queue) { q.Items = slices.Repeat(q.Items, n) })
	}
	for _, x := range badLists() {
		add(x.why, func(q *impl.Queue) { q.Room, q.Items = impl.MaxRecords, x.list })
	}
	return list
}

// longLine is a line of the most bytes.
var longLine = strings.Repeat("x", impl.MaxLine)

// goodLines are lines.
func goodLines() []string {
	return []string{"", " ", "a", "b", "~", "ab", "abc", "a b", "!{}|", "A,B=1", "hello", "\\n\"'", "a long line", "x.y-z:0 [warn]", longLine[:impl.MaxLine-1], longLine, strings.Repeat(" ", impl.MaxLine)}
}

// badLines are texts that are no lines.
func badLines() []string {
	return []string{"\n", "a\n", "\na", "\t", "a\tb", "\r", "\x00", "\x1f", "\x7f", "a\x7f", "\x80", "\xff", "é", "aé", "\u00a0", "ａ", "€", longLine + "x", longLine + " ", longLine + "\n", strings.Repeat("a", 1000), strings.Repeat("é", impl.MaxLine)}
}

// sizeOf returns SizeOf of valid lines, told in another way than the program.
func sizeOf(list []string) int {
	text := ""
	for _, line := range list {
		text += line + "\n"
	}
	return len(text)
}

// grownLines returns at least one line, and more only up to a size.
func grownLines(r *rand.Rand, most int) []string {
	lines := []string{goodLines()[r.Intn(len(goodLines()))]}
	for len(lines) < impl.MaxLines && r.Intn(6) > 0 {
		next := append(slices.Clone(lines), goodLines()[r.Intn(13)])
		if sizeOf(next) > most {
			break
		}
		lines = next
	}
	return lines
}

// grownFiles returns valid files made by a source of numbers that are the same in each run.
func grownFiles(r *rand.Rand) impl.Files {
	f := impl.Files{Most: []int{1, 2, 5, 8, 20, 60, impl.MaxSize}[r.Intn(7)], Keep: 1 + r.Intn(impl.MaxKeep)}
	for i := range 1 + r.Intn(f.Keep+1) {
		lines := grownLines(r, f.Most)
		if i == 0 && r.Intn(4) == 0 {
			lines = nil
		}
		f.Lists = append(f.Lists, lines)
	}
	return f
}

// twelve returns files with one list of twelve times a line.
func twelve(most int, line string) impl.Files {
	return impl.Files{Most: most, Keep: 2, Lists: [][]string{slices.Repeat([]string{line}, impl.MaxLines)}}
}

// goodFiles are valid files: given ones, at the limits too, and grown ones.
func goodFiles() []impl.Files {
	list := []impl.Files{
		{Most: 1, Keep: 1, Lists: [][]string{nil}},
		{Most: 1, Keep: 1, Lists: [][]string{{}}},
		{Most: 1, Keep: 1, Lists: [][]string{{""}}},
		{Most: 1, Keep: 1, Lists: [][]string{{longLine}, {longLine}}},
		{Most: impl.MaxSize, Keep: impl.MaxKeep, Lists: [][]string{nil, {""}, {"a"}, {longLine}}},
		{Most: impl.MaxSize, Keep: impl.MaxKeep, Lists: [][]string{{"a"}, {"b", "a"}, {"c"}, {"a", "a"}}},
		{Most: 4, Keep: 2, Lists: [][]string{{"a", "b"}, {"a", ""}, {"c", "d"}}},
		{Most: 8, Keep: 1, Lists: [][]string{{"g"}, {"abc", "def"}}},
		twelve(impl.MaxLines, ""), twelve(impl.MaxLines+1, ""), twelve(impl.MaxSize, ""),
		twelve(impl.MaxSize, "123456789"), twelve(impl.MaxSize, "12345678"),
	}
	r := rand.New(rand.NewSource(7))
	for range 400 {
		list = append(list, grownFiles(r))
	}
	return list
}

// badFileList are files that are not valid, and why.
type badFileList struct {
	why   string
	files impl.Files
}

// badFiles are files with one thing each that is not valid.
func badFiles() []badFileList {
	list := []badFileList{{"nothing at all", impl.Files{}}}
	add := func(why string, change func(f *impl.Files)) {
		f := impl.Files{Most: 8, Keep: 2, Lists: [][]string{{"g"}, {"abc", "def"}, {"old"}}}
		change(&f)
		list = append(list, badFileList{why, f})
	}
	for _, n := range append(badNumbers(), 0, impl.MaxSize+1) {
		add(fmt.Sprint("most ", n), func(f *impl.Files) { f.Most = n })
		add(fmt.Sprint("no lines and most ", n), func(f *impl.Files) { f.Most, f.Lists = n, [][]string{{}} })
	}
	for _, n := range append(badNumbers(), 0, impl.MaxKeep+1) {
		add(fmt.Sprint("keep ", n), func(f *impl.Files) { f.Keep = n })
		add(fmt.Sprint("one list and keep ", n), func(f *impl.Files) { f.Keep, f.Lists = n, [][]string{{"g"}} })
	}
	add("no lists", func(f *impl.Files) { f.Lists = nil })
	add("lists of no lists", func(f *impl.Files) { f.Lists = [][]string{} })
	for keep := 1; keep <= impl.MaxKeep; keep++ {
		for n := keep + 2; n < 7; n++ {
			add(fmt.Sprint(n, " lists and keep ", keep), func(f *impl.Files) { f.Keep, f.Lists = keep, slices.Repeat([][]string{{"a"}}, n) })
		}
	}
	add("one byte more than most", func(f *impl.Files) { f.Most = 7 })
	for i := range 3 {
		add(fmt.Sprint("too long list ", i), func(f *impl.Files) { f.Lists[i] = []string{"abcd", "efg"} })
		add(fmt.Sprint("a long line behind one of list ", i), func(f *impl.Files) { f.Lists[i] = []string{"", "a long line"} })
		add(fmt.Sprint("a line behind a long one of list ", i), func(f *impl.Files) { f.Lists[i] = []string{"a long line", ""} })
		add(fmt.Sprint("too many lines in list ", i), func(f *impl.Files) { f.Most, f.Lists[i] = impl.MaxSize, make([]string, impl.MaxLines+1) })
		if i > 0 {
			add(fmt.Sprint("no lines in list ", i), func(f *impl.Files) { f.Lists[i] = nil })
			add(fmt.Sprint("no lines in the first and in list ", i), func(f *impl.Files) { f.Lists[0], f.Lists[i] = nil, nil })
		}
		for _, line := range badLines() {
			add(fmt.Sprintf("line %q in list %d", line, i), func(f *impl.Files) { f.Lists[i] = []string{line} })
			add(fmt.Sprintf("line %q behind another in list %d", line, i), func(f *impl.Files) { f.Most, f.Lists[i] = impl.MaxSize, []string{"a", line} })
		}
	}
	return list
}

// grownDays returns valid days made by a source of numbers that are the same in each run.
func grownDays(r *rand.Rand) []impl.Day {
	var list []impl.Day
	day := r.Intn(4)
	for range r.Intn(impl.MaxDays + 1) {
		list = append(list, impl.Day{Day: day, Lines: grownLines(r, 1000)})
		day += 1 + r.Intn(5)
	}
	return list
}

// week returns as many days as there may be, one behind the other.
func week() []impl.Day {
	var list []impl.Day
	for i := range impl.MaxDays {
		list = append(list, impl.Day{Day: 10 + i, Lines: []string{fmt.Sprint("day ", i)}})
	}
	return list
}

// goodDays are valid days: given ones, at the limits too, and grown ones.
func goodDays() [][]impl.Day {
	full := slices.Repeat([]string{longLine}, impl.MaxLines)
	list := [][]impl.Day{nil, {}, week(), {{Lines: []string{""}}}, {{Day: impl.MaxSeq, Lines: full}}, {{Lines: full}, {Day: impl.MaxSeq, Lines: []string{"a"}}}, {{Day: 3, Lines: full}, {Day: 4, Lines: full}}}
	r := rand.New(rand.NewSource(8))
	for range 300 {
		list = append(list, grownDays(r))
	}
	return list
}

// badDayList are days that are not valid, and why.
type badDayList struct {
	why  string
	days []impl.Day
}

// badDays are days with one thing each that is not valid.
func badDays() []badDayList {
	var list []badDayList
	add := func(why string, change func(days []impl.Day) []impl.Day) {
		list = append(list, badDayList{why, change(week()[:3])})
	}
	add("too many days", func(days []impl.Day) []impl.Day { return append(week(), impl.Day{Day: 16, Lines: []string{"a"}}) })
	for i := range 3 {
		for _, n := range append(badNumbers(), impl.MaxSeq+1) {
			add(fmt.Sprint("day ", n, " at ", i), func(days []impl.Day) []impl.Day { days[i].Day = n; return days })
		}
		add(fmt.Sprint("no lines at ", i), func(days []impl.Day) []impl.Day { days[i].Lines = nil; return days })
		add(fmt.Sprint("too many lines at ", i), func(days []impl.Day) []impl.Day { days[i].Lines = make([]string, impl.MaxLines+1); return days })
		for _, line := range badLines() {
			add(fmt.Sprintf("line %q at %d", line, i), func(days []impl.Day) []impl.Day { days[i].Lines = []string{line}; return days })
			add(fmt.Sprintf("line %q behind another at %d", line, i), func(days []impl.Day) []impl.Day { days[i].Lines = []string{"a", line}; return days })
		}
	}
	for i := range 2 {
		add(fmt.Sprint("a day twice at ", i), func(days []impl.Day) []impl.Day { days[i+1].Day = days[i].Day; return days })
		add(fmt.Sprint("days that descend at ", i), func(days []impl.Day) []impl.Day {
			days[i], days[i+1] = days[i+1], days[i]
			return days
		})
	}
	for _, n := range []int{-1, impl.MaxSeq + 1} {
		list = append(list, badDayList{fmt.Sprint("day ", n, " alone"), []impl.Day{{Day: n, Lines: []string{"a"}}}})
	}
	return append(list, badDayList{"a day of no lines alone", []impl.Day{{Day: 1}}}, badDayList{"a day of no lines at all", []impl.Day{{Day: 1, Lines: []string{}}}})
}
