package tests

import (
	"math/rand"
	"reflect"
	"slices"
	"testing"

	"loop.example/loggertree/impl"
)

// sameBuffer reports whether two buffers are the same, where nil and no records are one.
func sameBuffer(a, b impl.Buffer) bool {
	return a.Room == b.Room && a.At == b.At && slices.Equal(a.Records, b.Records)
}

// mustBuffer checks that a buffer is valid, and of the room and the level of another one.
func mustBuffer(t *testing.T, what string, b, old impl.Buffer) {
	t.Helper()
	if !impl.ValidBuffer(b) || b.Room != old.Room || b.At != old.At {
		t.Errorf("%s makes %v of %v", what, b, old)
	}
}

// rise returns valid records of the levels, with numbers that ascend.
func rise(levels ...int) []impl.Record {
	var list []impl.Record
	for i, level := range levels {
		list = append(list, impl.Record{Name: "a", Level: level, Text: "x", Seq: i})
	}
	return list
}

func TestValidBuffer(t *testing.T) {
	for _, b := range goodBuffers() {
		if !impl.ValidBuffer(b) {
			t.Errorf("ValidBuffer(%v) = false", b)
		}
	}
	for _, b := range badBuffers() {
		if impl.ValidBuffer(b.buffer) {
			t.Errorf("ValidBuffer with %s", b.why)
		}
	}
	for room := -1; room < 15; room++ {
		for n := range 15 {
			b := impl.Buffer{Room: room, At: impl.MaxLevel + 1, Records: slices.Repeat(rise(impl.MaxLevel), n)}
			if impl.ValidBuffer(b) != (room >= 1 && room <= 12 && n < room) {
				t.Errorf("ValidBuffer of room %d with %d records", room, n)
			}
		}
	}
	for at := -1; at < 64; at++ {
		for level := range 62 {
			b := impl.Buffer{Room: 2, At: at, Records: rise(level)}
			if impl.ValidBuffer(b) != (at >= 1 && at <= 61 && level >= 1 && level <= 60 && level < at) {
				t.Errorf("ValidBuffer at %d with the level %d", at, level)
			}
		}
	}
}

// Promise 39: FlushBuffer of a valid buffer is valid, and has no records.
// Promise 42: FlushBuffer twice flushes nothing.
func TestBuffersCanBeEmptied(t *testing.T) {
	for _, b := range goodBuffers() {
		empty, flushed := impl.FlushBuffer(b)
		mustBuffer(t, "FlushBuffer", empty, b)
		if len(empty.Records) != 0 || !slices.Equal(flushed, b.Records) {
			t.Errorf("FlushBuffer(%v) = %v, %v", b, empty, flushed)
		}
		if again, more := impl.FlushBuffer(empty); !sameBuffer(again, empty) || len(more) != 0 {
			t.Errorf("FlushBuffer(%v) = %v, %v", empty, again, more)
		}
	}
	for _, b := range badBuffers() {
		if got, flushed := impl.FlushBuffer(b.buffer); !sameBuffer(got, impl.Buffer{}) || len(flushed) != 0 {
			t.Errorf("FlushBuffer with %s = %v, %v", b.why, got, flushed)
		}
	}
}

// Promise 40: AtLeast of a level, and then of a greater one, is that of the greater one.
func TestLevelsRise(t *testing.T) {
	levels := []int{-1 << 63, -1, 0, 1, 9, 10, 11, 29, 30, 31, 54, 55, 56, 60, 61, 1000, 1<<63 - 1}
	for _, list := range append(goodLists(), goodRecords()[20:32]) {
		for i, level := range levels {
			got := impl.AtLeast(list, level)
			want := slices.DeleteFunc(slices.Clone(list), func(r impl.Record) bool { return r.Level < level })
			if !slices.Equal(got, want) {
				t.Errorf("AtLeast(%v, %d) = %v", list, level, got)
			}
			for _, greater := range levels[i:] {
				if both := impl.AtLeast(got, greater); !slices.Equal(both, impl.AtLeast(list, greater)) {
					t.Errorf("AtLeast(%v, %d) = %v behind %d", list, greater, both, level)
				}
			}
		}
	}
	for _, b := range badLists() {
		for _, level := range levels {
			if got := impl.AtLeast(b.list, level); len(got) != 0 {
				t.Errorf("%s: AtLeast = %v", b.why, got)
			}
		}
	}
}

func TestAtLeast(t *testing.T) {
	list := rise(10, 30, 20, 60, 1, 30)
	for _, c := range []struct {
		level int
		want  []int
	}{{-5, []int{0, 1, 2, 3, 4, 5}}, {1, []int{0, 1, 2, 3, 4, 5}}, {2, []int{0, 1, 2, 3, 5}}, {20, []int{1, 2, 3, 5}}, {30, []int{1, 3, 5}}, {31, []int{3}}, {60, []int{3}}, {61, nil}} {
		if got := seqs(impl.AtLeast(list, c.level)); !slices.Equal(got, c.want) {
			t.Errorf("AtLeast of %d has %v", c.level, got)
		}
	}
}

// Promise 41: records of the buffer and what is flushed are the old records and the new one, and one of both is none.
func TestWhatIsPushedIsKeptOrFlushed(t *testing.T) {
	kept, full, great := 0, 0, 0
	for _, b := range goodBuffers() {
		for _, r := range goodRecords() {
			all := append(slices.Clone(b.Records), r)
			got, flushed, ok := impl.PushRecord(b, r)
			if !ok {
				t.Fatalf("PushRecord(%v, %v) = false", b, r)
			}
			mustBuffer(t, "PushRecord", got, b)
			if !slices.Equal(slices.Concat(got.Records, flushed), all) || (len(got.Records) == 0) == (len(flushed) == 0) {
				t.Errorf("PushRecord(%v, %v) = %v, %v", b, r, got, flushed)
			}
			switch flush := len(flushed) > 0; {
			case len(all) == b.Room:
				full++
				if !flush {
					t.Errorf("PushRecord(%v, %v) keeps as many as the room", b, r)
				}
			case r.Level >= b.At:
				great++
				if !flush {
					t.Errorf("PushRecord(%v, %v) keeps a great level", b, r)
				}
			default:
				kept++
				if flush {
					t.Errorf("PushRecord(%v, %v) flushes", b, r)
				}
			}
		}
	}
	if kept < 1000 || full < 1000 || great < 1000 {
		t.Errorf("only %d kept, %d full, %d great", kept, full, great)
	}
}

func TestPushesThatAreNotValid(t *testing.T) {
	check := func(why string, b impl.Buffer, r impl.Record) {
		t.Helper()
		if got, flushed, ok := impl.PushRecord(b, r); ok || !sameBuffer(got, impl.Buffer{}) || len(flushed) != 0 {
			t.Errorf("PushRecord with %s = %v, %v, %v", why, got, flushed, ok)
		}
	}
	for _, b := range badBuffers() {
		for _, r := range []impl.Record{letter(), {Level: 1}, {Level: impl.MaxLevel}, {}} {
			check(b.why, b.buffer, r)
		}
	}
	for _, b := range badRecords() {
		for _, good := range []impl.Buffer{{Room: 1, At: 1}, {Room: 2, At: 61}, {Room: 2, At: 30, Records: rise(20)}, {Room: 12, At: 30, Records: rise(20, 20)}} {
			check(b.why, good, b.record)
		}
	}
}

// Promise 43: what RunBuffer flushes, one batch after the other, and what it keeps, are the old records and all new ones; each batch but for great levels is as long as the room.
func TestBuffersLoseNothing(t *testing.T) {
	rnd := rand.New(rand.NewSource(9))
	lists := append(goodLists(), rise(5, 20, 29, 30, 60, 1, 1, 1, 31, 31, 1, 1))
	batched := 0
	for _, b := range goodBuffers() {
		for range 8 {
			list := lists[rnd.Intn(len(lists))]
			end, batches, ok := impl.RunBuffer(b, list)
			if !ok {
				t.Fatalf("RunBuffer(%v, %v) = false", b, list)
			}
			mustBuffer(t, "RunBuffer", end, b)
			if !slices.Equal(append(slices.Concat(batches...), end.Records...), slices.Concat(b.Records, list)) {
				t.Errorf("RunBuffer(%v, %v) = %v, %v", b, list, end, batches)
			}
			for _, batch := range batches {
				batched++
				n := len(batch)
				if n == 0 || n > b.Room || n < b.Room && batch[n-1].Level < b.At {
					t.Errorf("RunBuffer(%v, %v) flushes %v", b, list, batch)
				}
				if n > 0 && slices.ContainsFunc(batch[:n-1], func(r impl.Record) bool { return r.Level >= b.At }) {
					t.Errorf("RunBuffer(%v, %v) flushes %v", b, list, batch)
				}
			}
			checkPushes(t, b, list, end, batches)
		}
	}
	if batched < 1000 {
		t.Errorf("only %d batches", batched)
	}
}

// checkPushes checks that RunBuffer is PushRecord of each record, one after the other.
func checkPushes(t *testing.T, b impl.Buffer, list []impl.Record, end impl.Buffer, batches [][]impl.Record) {
	t.Helper()
	var want [][]impl.Record
	now := b
	for _, r := range list {
		next, flushed, ok := impl.PushRecord(now, r)
		if !ok {
			t.Fatalf("PushRecord(%v, %v) = false", now, r)
		}
		if len(flushed) > 0 {
			want = append(want, flushed)
		}
		now = next
	}
	if !sameBuffer(now, end) || !slices.EqualFunc(batches, want, slices.Equal[[]impl.Record]) {
		t.Errorf("RunBuffer(%v, %v) = %v, %v and not %v, %v", b, list, end, batches, now, want)
	}
}

func TestRunBuffer(t *testing.T) {
	for _, c := range []struct {
		room, at int
		levels   []int
		want     [][]int // the numbers of the records of each batch, and at last of those that are kept
	}{
		{1, 61, []int{10, 20, 30}, [][]int{{0}, {1}, {2}, nil}},
		{1, 1, []int{10, 60}, [][]int{{0}, {1}, nil}},
		{12, 1, []int{1, 60, 30}, [][]int{{0}, {1}, {2}, nil}},
		{2, 61, []int{60, 60, 60}, [][]int{{0, 1}, {2}}},
		{2, 30, []int{10, 30, 29, 29, 31}, [][]int{{0, 1}, {2, 3}, {4}, nil}},
		{3, 40, []int{10, 10, 10, 50, 10}, [][]int{{0, 1, 2}, {3}, {4}}},
		{3, 40, []int{10, 40, 10, 10, 39}, [][]int{{0, 1}, {2, 3, 4}, nil}},
		{12, 61, []int{1, 2, 3, 4, 5, 6, 7, 8, 9, 10, 11, 12}, [][]int{{0, 1, 2, 3, 4, 5, 6, 7, 8, 9, 10, 11}, nil}},
		{12, 61, []int{1, 2, 3, 4, 5, 6, 7, 8, 9, 10, 11}, [][]int{{0, 1, 2, 3, 4, 5, 6, 7, 8, 9, 10}}},
		{3, 40, nil, [][]int{nil}},
	} {
		b := impl.Buffer{Room: c.room, At: c.at}
		end, batches, ok := impl.RunBuffer(b, rise(c.levels...))
		var got [][]int
		for _, batch := range append(batches, end.Records) {
			got = append(got, seqs(batch))
		}
		if !ok || !reflect.DeepEqual(got, c.want) {
			t.Errorf("RunBuffer(%v) of %v has %v", b, c.levels, got)
		}
	}
	old := impl.Buffer{Room: 3, At: 40, Records: rise(10, 20)}
	if end, batches, ok := impl.RunBuffer(old, nil); !ok || !sameBuffer(end, old) || len(batches) != 0 {
		t.Errorf("RunBuffer of nothing = %v, %v, %v", end, batches, ok)
	}
	if end, batches, ok := impl.RunBuffer(old, rise(5)); !ok || len(end.Records) != 0 || len(batches) != 1 || len(batches[0]) != 3 {
		t.Errorf("RunBuffer of one = %v, %v, %v", end, batches, ok)
	}
}

func TestRunsOfBuffersThatAreNotValid(t *testing.T) {
	check := func(why string, b impl.Buffer, list []impl.Record) {
		t.Helper()
		if end, batches, ok := impl.RunBuffer(b, list); ok || !sameBuffer(end, impl.Buffer{}) || len(batches) != 0 {
			t.Errorf("RunBuffer with %s = %v, %v, %v", why, end, batches, ok)
		}
	}
	for _, b := range badBuffers() {
		check(b.why, b.buffer, nil)
		check(b.why, b.buffer, rise(10, 60))
	}
	for _, b := range badLists() {
		for _, good := range []impl.Buffer{{Room: 1, At: 1}, {Room: 12, At: 61}, {Room: 3, At: 30, Records: rise(20)}} {
			check(b.why, good, b.list)
		}
	}
}

// bySeq returns records in the order of their numbers.
func bySeq(list []impl.Record) []impl.Record {
	list = slices.Clone(list)
	slices.SortStableFunc(list, func(a, b impl.Record) int { return a.Seq - b.Seq })
	return list
}

// Promise 35: MergeRecords of records in order is in order, and is AtLeast by AtLeast merged.
func TestMergedRecordsAreBoth(t *testing.T) {
	rnd := rand.New(rand.NewSource(10))
	lists := goodLists()
	merged, between := 0, 0
	for range 3000 {
		a, b := bySeq(lists[rnd.Intn(len(lists))]), bySeq(lists[rnd.Intn(len(lists))])
		if len(a)+len(b) > impl.MaxRecords {
			if got, ok := impl.MergeRecords(a, b); ok || len(got) != 0 {
				t.Errorf("MergeRecords(%v, %v) = %v, %v", a, b, got, ok)
			}
			continue
		}
		all, ok := impl.MergeRecords(a, b)
		if !ok || len(all) != len(a)+len(b) || !slices.IsSorted(seqs(all)) {
			t.Errorf("MergeRecords(%v, %v) = %v, %v", a, b, all, ok)
		}
		merged++
		for _, level := range []int{0, 1, 10, 11, 30, 31, 55, 56} {
			got, ok := impl.MergeRecords(impl.AtLeast(a, level), impl.AtLeast(b, level))
			if !ok || !slices.Equal(got, impl.AtLeast(all, level)) {
				t.Errorf("MergeRecords of %d of %v and %v = %v, %v", level, a, b, got, ok)
			}
			if len(got) > 0 && len(got) < len(all) {
				between++
			}
		}
	}
	if merged < 500 || between < 500 {
		t.Errorf("only %d merged, %d between", merged, between)
	}
}
