package tests

import (
	"slices"
	"testing"

	"loop.example/loggertree/impl"
)

// sameDays reports whether two lists of days are the same.
func sameDays(a, b []impl.Day) bool {
	return slices.EqualFunc(a, b, func(x, y impl.Day) bool { return x.Day == y.Day && slices.Equal(x.Lines, y.Lines) })
}

// daysOf returns the numbers of days.
func daysOf(list []impl.Day) []int {
	var out []int
	for _, d := range list {
		out = append(out, d.Day)
	}
	return out
}

// wantDays returns WriteDay of valid arguments, told in another way than the program: written first, and dropped then.
func wantDays(list []impl.Day, day int, line string, keep int) ([]impl.Day, bool) {
	last := len(list) - 1
	days := slices.Clone(list)
	if last >= 0 && list[last].Day > day {
		return nil, false
	} else if last >= 0 && list[last].Day == day {
		days[last].Lines = append(slices.Clone(list[last].Lines), line)
		if len(days[last].Lines) == 13 {
			return nil, false
		}
	} else {
		days = append(days, impl.Day{Day: day, Lines: []string{line}})
	}
	for days[0].Day+keep < day {
		days = days[1:]
	}
	return days, len(days) < 7
}

// Promise 54: valid days are valid without the first one, and without the last one.
func TestDaysCanBeCut(t *testing.T) {
	for _, list := range goodDays() {
		for from := range len(list) + 1 {
			for to := from; to <= len(list); to++ {
				if !impl.ValidDays(list[from:to]) {
					t.Errorf("ValidDays(%v) = false", list[from:to])
				}
			}
		}
	}
	for _, b := range badDays() {
		if impl.ValidDays(b.days) {
			t.Errorf("ValidDays with %s", b.why)
		}
	}
	for day := -3; day < 1003; day++ {
		if got := impl.ValidDays([]impl.Day{{Day: day, Lines: []string{"a"}}}); got != (day >= 0 && day <= 999) {
			t.Errorf("ValidDays of %d = %v", day, got)
		}
		if got := impl.ValidDays([]impl.Day{{Day: 500, Lines: []string{"a"}}, {Day: day, Lines: []string{"a"}}}); got != (day > 500 && day <= 999) {
			t.Errorf("ValidDays of 500 and %d = %v", day, got)
		}
	}
}

// Promise 55: after WriteDay the last line is the new one, no day is further than what is kept, and all nearer days are there.
func TestDaysThatAreKeptAreNear(t *testing.T) {
	same, later, failed, dropped := 0, 0, 0, 0
	for _, list := range goodDays() {
		last := 0
		if len(list) > 0 {
			last = list[len(list)-1].Day
		}
		for _, day := range []int{0, last - 1, last, last + 1, last + 2, last + 5, 998, 999} {
			if day < 0 || day > impl.MaxSeq {
				continue
			}
			for _, keep := range []int{0, 1, 2, 3, 5, 8, 20, 990, 999} {
				got, ok := impl.WriteDay(list, day, "new", keep)
				want, wantOK := wantDays(list, day, "new", keep)
				if ok != wantOK {
					t.Errorf("WriteDay(%v, %d, %d) = %v, %v", list, day, keep, got, ok)
				}
				if !ok {
					failed++
					if len(got) != 0 {
						t.Errorf("WriteDay(%v, %d, %d) = %v, %v", list, day, keep, got, ok)
					}
					continue
				}
				if !sameDays(got, want) || !impl.ValidDays(got) {
					t.Errorf("WriteDay(%v, %d, %d) = %v", list, day, keep, got)
				}
				checkNear(t, list, day, keep, got)
				if got[len(got)-1].Day != last || len(list) == 0 {
					later++
				} else {
					same++
				}
				if len(got) < len(list) {
					dropped++
				}
			}
		}
	}
	if same < 500 || later < 500 || failed < 500 || dropped < 500 {
		t.Errorf("only %d the same day, %d later, %d failed, %d dropped", same, later, failed, dropped)
	}
}

// checkNear checks what the promise tells of days after WriteDay.
func checkNear(t *testing.T, list []impl.Day, day, keep int, got []impl.Day) {
	t.Helper()
	end := got[len(got)-1]
	if end.Day != day || end.Lines[len(end.Lines)-1] != "new" {
		t.Errorf("WriteDay(%v, %d, %d) ends with %v", list, day, keep, end)
	}
	for _, d := range got {
		if day-d.Day > keep {
			t.Errorf("WriteDay(%v, %d, %d) has %v", list, day, keep, d)
		}
	}
	for _, d := range list {
		if day-d.Day <= keep && !slices.Contains(daysOf(got), d.Day) {
			t.Errorf("WriteDay(%v, %d, %d) has not %v", list, day, keep, d)
		}
	}
}

func TestWriteDay(t *testing.T) {
	for _, c := range []struct {
		days      []impl.Day
		day, keep int
		want      []int // nil if it fails
	}{
		{nil, 0, 0, []int{0}},
		{nil, 999, 0, []int{999}},
		{nil, 5, 999, []int{5}},
		{week(), 15, 999, []int{10, 11, 12, 13, 14, 15}},
		{week(), 15, 5, []int{10, 11, 12, 13, 14, 15}},
		{week(), 15, 4, []int{11, 12, 13, 14, 15}},
		{week(), 15, 0, []int{15}},
		{week(), 16, 6, nil}, // too many
		{week(), 16, 999, nil},
		{week(), 16, 5, []int{11, 12, 13, 14, 15, 16}}, // too many but for those that are dropped
		{week(), 16, 0, []int{16}},
		{week(), 999, 2, []int{999}},
		{week(), 14, 5, nil},
		{week(), 10, 0, nil},
		{week(), 0, 999, nil},
		{week()[:5], 15, 5, []int{10, 11, 12, 13, 14, 15}},
		{week()[:1], 10, 0, []int{10}},
		{week()[:1], 11, 0, []int{11}},
		{week()[:1], 11, 1, []int{10, 11}},
		{[]impl.Day{{Day: 0, Lines: []string{"a"}}, {Day: 4, Lines: []string{"b"}}, {Day: 9, Lines: []string{"c"}}}, 10, 6, []int{4, 9, 10}},
	} {
		got, ok := impl.WriteDay(c.days, c.day, longLine, c.keep)
		if ok != (c.want != nil) || !slices.Equal(daysOf(got), c.want) {
			t.Errorf("WriteDay(%v, %d, %d) = %v, %v", c.days, c.day, c.keep, got, ok)
		}
	}
	many := []impl.Day{{Day: 3, Lines: make([]string, 11)}}
	more, ok := impl.WriteDay(many, 3, "a", 0)
	if !ok || len(more) != 1 || len(more[0].Lines) != 12 || more[0].Lines[11] != "a" {
		t.Fatalf("WriteDay of the twelfth line = %v, %v", more, ok)
	}
	if got, ok := impl.WriteDay(more, 3, "a", 999); ok || len(got) != 0 {
		t.Errorf("WriteDay of one line too many = %v, %v", got, ok)
	}
	if got, ok := impl.WriteDay(more, 4, "a", 1); !ok || len(got) != 2 {
		t.Errorf("WriteDay of the next day = %v, %v", got, ok)
	}
}

func TestDaysThatAreNotValid(t *testing.T) {
	fails := func(why string, list []impl.Day, day int, line string, keep int) {
		t.Helper()
		if got, ok := impl.WriteDay(list, day, line, keep); ok || len(got) != 0 {
			t.Errorf("WriteDay with %s = %v, %v", why, got, ok)
		}
	}
	for _, b := range badDays() {
		for _, keep := range []int{0, 1, 999} { // also if the days that are not valid would be dropped
			fails(b.why, b.days, 16, "a", keep)
			fails(b.why, b.days, 12, "a", keep)
			fails(b.why, b.days, 999, "a", keep)
		}
	}
	for _, list := range goodDays()[:20] {
		for _, n := range append(badNumbers(), impl.MaxSeq+1) {
			fails("no day", list, n, "a", 1)
			fails("no day, and all kept", list, n, "a", 999)
		}
		if len(list) > 0 && list[len(list)-1].Day > 900 {
			continue
		}
		for _, n := range append(badNumbers(), impl.MaxSeq+1) {
			fails("no number to keep", list, 900, "a", n)
		}
		for _, line := range badLines() {
			fails("no line", list, 900, line, 1)
		}
	}
}
