package tests

import (
	"math/rand"
	"slices"
	"testing"

	"loop.example/loggertree/impl"
)

// seqs returns the numbers of records.
func seqs(list []impl.Record) []int {
	var out []int
	for _, r := range list {
		out = append(out, r.Seq)
	}
	return out
}

// alike reports whether two records have the same name, level and text.
func alike(a, b impl.Record) bool {
	return a.Name == b.Name && a.Level == b.Level && a.Text == b.Text
}

// Promise 33: DropRepeats has no two alike that are one behind the other, is its own, and begins with the first record.
func TestDroppedRepeatsLeaveNoRepeats(t *testing.T) {
	dropped := 0
	for _, list := range goodLists() {
		got := impl.DropRepeats(list)
		for i := 1; i < len(got); i++ {
			if alike(got[i-1], got[i]) {
				t.Errorf("DropRepeats(%v) = %v", list, got)
			}
		}
		if !slices.Equal(impl.DropRepeats(got), got) {
			t.Errorf("DropRepeats(%v) = %v", got, impl.DropRepeats(got))
		}
		if len(list) > 0 && (len(got) == 0 || got[0] != list[0]) {
			t.Errorf("DropRepeats(%v) = %v", list, got)
		}
		if want := slices.CompactFunc(slices.Clone(list), alike); !slices.Equal(got, want) {
			t.Errorf("DropRepeats(%v) = %v, not %v", list, got, want)
		}
		dropped += len(list) - len(got)
	}
	if dropped < 100 {
		t.Errorf("only %d dropped", dropped)
	}
}

func TestDropRepeats(t *testing.T) {
	a := impl.Record{Name: "a", Level: 20, Text: "x"}
	name, level, text := a, a, a
	name.Name, level.Level, text.Text = "a.b", 21, "x "
	for _, c := range []struct {
		list []impl.Record
		want []int
	}{
		{nil, nil},
		{[]impl.Record{a}, []int{0}},
		{[]impl.Record{a, a, a}, []int{0}},
		{[]impl.Record{a, name, a}, []int{0, 1, 2}},
		{[]impl.Record{a, level, a}, []int{0, 1, 2}},
		{[]impl.Record{a, text, a}, []int{0, 1, 2}},
		{[]impl.Record{a, a, name, name, a, a}, []int{0, 2, 4}},
		{[]impl.Record{a, level, level, level, text, a, a}, []int{0, 1, 4, 5}},
		{slices.Repeat([]impl.Record{a}, impl.MaxRecords), []int{0}},
	} {
		for i := range c.list {
			c.list[i].Seq = i
		}
		if got := seqs(impl.DropRepeats(c.list)); !slices.Equal(got, c.want) {
			t.Errorf("DropRepeats(%v) has %v", c.list, got)
		}
	}
	if got := impl.DropRepeats([]impl.Record{a, a}); len(got) != 1 { // of the same number, too
		t.Errorf("DropRepeats = %v", got)
	}
}

// wantSample returns SampleRecords of valid arguments, told in another way than the program: by the places of each text that are kept.
func wantSample(list []impl.Record, first, every int) []impl.Record {
	var keep [impl.MaxRecords]bool
	for i := range first {
		keep[i] = true
	}
	for i := first + every - 1; i < len(keep); i += every {
		keep[i] = true
	}
	var out []impl.Record
	for i, r := range list {
		place := 0
		for _, old := range list[:i] {
			if old.Text == r.Text {
				place++
			}
		}
		if keep[place] {
			out = append(out, r)
		}
	}
	return out
}

// Promise 34: SampleRecords with every one is all, and with more first ones it has no fewer if each further one is taken.
func TestSamplesAreSomeOfEachText(t *testing.T) {
	for _, list := range goodLists() {
		for every := 1; every <= impl.MaxRecords; every++ {
			before := 0
			for first := range impl.MaxRecords + 1 {
				got := impl.SampleRecords(list, first, every)
				if every == 1 && !slices.Equal(got, list) {
					t.Errorf("SampleRecords(%v, %d, 1) = %v", list, first, got)
				}
				if len(got) < before {
					t.Errorf("SampleRecords(%v, %d, %d) = %v", list, first, every, got)
				}
				before = len(got)
				if want := wantSample(list, first, every); !slices.Equal(got, want) {
					t.Errorf("SampleRecords(%v, %d, %d) = %v, not %v", list, first, every, got, want)
				}
			}
			if before != len(list) {
				t.Errorf("SampleRecords(%v, %d, %d) has %d", list, impl.MaxRecords, every, before)
			}
		}
	}
}

func TestSampleRecords(t *testing.T) {
	var list []impl.Record
	for i := range impl.MaxRecords { // only the text counts
		list = append(list, impl.Record{Name: goodNames()[i], Level: 1 + i, Text: "x", Seq: i + 1})
	}
	mixed := slices.Clone(list)
	for i := range mixed {
		mixed[i].Text = []string{"x", "x", "y"}[i%3]
	}
	for _, c := range []struct {
		list         []impl.Record
		first, every int
		want         []int
	}{
		{list, 1, 3, []int{1, 4, 7, 10}},
		{list, 0, 3, []int{3, 6, 9, 12}},
		{list, 2, 4, []int{1, 2, 6, 10}},
		{list, 0, 1, []int{1, 2, 3, 4, 5, 6, 7, 8, 9, 10, 11, 12}},
		{list, 0, 12, []int{12}},
		{list, 1, 12, []int{1}},
		{list, 12, 12, []int{1, 2, 3, 4, 5, 6, 7, 8, 9, 10, 11, 12}},
		{list, 11, 1, []int{1, 2, 3, 4, 5, 6, 7, 8, 9, 10, 11, 12}},
		{list, 11, 2, []int{1, 2, 3, 4, 5, 6, 7, 8, 9, 10, 11}},
		{mixed, 1, 2, []int{1, 3, 4, 7, 9, 10}},
		{mixed, 0, 4, []int{5, 11, 12}},
		{nil, 1, 1, nil},
	} {
		if got := seqs(impl.SampleRecords(c.list, c.first, c.every)); !slices.Equal(got, c.want) {
			t.Errorf("SampleRecords of %v, %d, %d has %v", seqs(c.list), c.first, c.every, got)
		}
	}
	for _, n := range []int{-1, 13, 100, -1 << 63, 1<<63 - 1} {
		if got := impl.SampleRecords(list, n, 1); len(got) != 0 {
			t.Errorf("SampleRecords of %d first ones = %v", n, got)
		}
		if got := impl.SampleRecords(list, 1, n); len(got) != 0 {
			t.Errorf("SampleRecords of each %d = %v", n, got)
		}
	}
	if got := impl.SampleRecords(list, 1, 0); len(got) != 0 {
		t.Errorf("SampleRecords of each 0 = %v", got)
	}
}

// wantMerged returns MergeRecords of valid records, told in another way than the program: by the least place of each one of b.
func wantMerged(a, b []impl.Record) []impl.Record {
	if len(b) == 0 {
		return a
	}
	ahead := 0
	for ahead < len(a) && a[ahead].Seq <= b[0].Seq {
		ahead++
	}
	return slices.Concat(a[:ahead], b[:1], wantMerged(a[ahead:], b[1:]))
}

func TestMergeRecords(t *testing.T) {
	merged := 0
	lists := goodLists()
	rnd := rand.New(rand.NewSource(5))
	for range 3000 {
		a, b := slices.Clone(lists[rnd.Intn(len(lists))]), slices.Clone(lists[rnd.Intn(len(lists))])
		if rnd.Intn(2) == 0 { // as they are asked for, and as they are not
			slices.SortStableFunc(a, func(x, y impl.Record) int { return x.Seq - y.Seq })
			slices.SortStableFunc(b, func(x, y impl.Record) int { return x.Seq - y.Seq })
		}
		got, ok := impl.MergeRecords(a, b)
		if len(a)+len(b) > impl.MaxRecords {
			if ok || len(got) != 0 {
				t.Errorf("MergeRecords(%v, %v) = %v, %v", a, b, got, ok)
			}
			continue
		}
		merged++
		if !ok || !slices.Equal(got, wantMerged(a, b)) {
			t.Errorf("MergeRecords(%v, %v) = %v, %v", a, b, got, ok)
		}
		if slices.IsSorted(seqs(a)) && slices.IsSorted(seqs(b)) && !slices.IsSorted(seqs(got)) {
			t.Errorf("MergeRecords(%v, %v) = %v", a, b, got)
		}
	}
	if merged < 500 {
		t.Errorf("only %d merged", merged)
	}
	a, b := impl.Record{Name: "a", Level: 1, Seq: 5}, impl.Record{Name: "b", Level: 1, Seq: 5}
	if got, ok := impl.MergeRecords([]impl.Record{a}, []impl.Record{b}); !ok || !slices.Equal(got, []impl.Record{a, b}) {
		t.Errorf("MergeRecords = %v, %v", got, ok)
	}
	if got, ok := impl.MergeRecords(nil, nil); !ok || len(got) != 0 {
		t.Errorf("MergeRecords of nothing = %v, %v", got, ok)
	}
}

func TestListsThatAreNotValid(t *testing.T) {
	for _, b := range badLists() {
		if got := impl.DropRepeats(b.list); len(got) != 0 {
			t.Errorf("%s: DropRepeats = %v", b.why, got)
		}
		if got := impl.SampleRecords(b.list, 1, 1); len(got) != 0 {
			t.Errorf("%s: SampleRecords = %v", b.why, got)
		}
		for _, good := range [][]impl.Record{nil, {letter()}} {
			if got, ok := impl.MergeRecords(b.list, good); ok || len(got) != 0 {
				t.Errorf("%s: MergeRecords = %v, %v", b.why, got, ok)
			}
			if got, ok := impl.MergeRecords(good, b.list); ok || len(got) != 0 {
				t.Errorf("%s: MergeRecords = %v, %v", b.why, got, ok)
			}
		}
	}
}
