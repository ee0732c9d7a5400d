package tests

import (
	"math/rand"
	"slices"
	"strings"
	"testing"

	"loop.example/loggertree/impl"
)

// sameLists reports whether two lists of lines are the same, where nil and no lines are one.
func sameLists(a, b [][]string) bool {
	return slices.EqualFunc(a, b, slices.Equal[[]string])
}

// sameFiles reports whether files are the same, where nil and no lines are one.
func sameFiles(a, b impl.Files) bool {
	return a.Most == b.Most && a.Keep == b.Keep && sameLists(a.Lists, b.Lists)
}

// endsWith reports whether a list ends with another one.
func endsWith(list, end []string) bool {
	return len(end) <= len(list) && slices.Equal(list[len(list)-len(end):], end)
}

// wantRolled returns RollFiles of valid files, told in another way than the program.
func wantRolled(f impl.Files) impl.Files {
	if len(f.Lists[0]) == 0 {
		return f
	}
	f.Lists = slices.Insert(slices.Clone(f.Lists), 0, []string{})
	for len(f.Lists) > f.Keep+1 {
		f.Lists = f.Lists[:len(f.Lists)-1]
	}
	return f
}

// wantWritten returns WriteLine of valid arguments, told in another way than the program.
func wantWritten(f impl.Files, line string) (impl.Files, bool) {
	longer := append(slices.Clone(f.Lists[0]), line)
	if len(longer) > 1 && sizeOf(longer) > f.Most {
		return wantWritten(wantRolled(f), line)
	}
	f.Lists = append([][]string{longer}, f.Lists[1:]...)
	if len(longer) > 12 {
		return impl.Files{}, false
	}
	return f, true
}

func TestSizeOf(t *testing.T) {
	for _, c := range []struct {
		list []string
		want int
	}{
		{nil, 0}, {[]string{}, 0}, {[]string{""}, 1}, {[]string{"", "", ""}, 3}, {[]string{"abc"}, 4}, {[]string{"abc", ""}, 5}, {[]string{" ", "~~"}, 5},
		{[]string{longLine}, 41}, {[]string{longLine + "x"}, -1}, {make([]string, 12), 12}, {make([]string, 13), -1}, {make([]string, 100), -1},
		{slices.Repeat([]string{longLine}, 12), 492}, {slices.Repeat([]string{longLine}, 13), -1}, {[]string{"a", "a\n"}, -1}, {[]string{"\n", "a"}, -1},
	} {
		if got := impl.SizeOf(c.list); got != c.want {
			t.Errorf("SizeOf(%q) = %d", c.list, got)
		}
	}
	for b := range 256 {
		want := 3
		if b < 32 || b > 126 {
			want = -1
		}
		for _, line := range []string{string([]byte{byte(b), 'a'}), string([]byte{'a', byte(b)})} {
			if got := impl.SizeOf([]string{line}); got != want {
				t.Errorf("SizeOf(%q) = %d", line, got)
			}
		}
	}
	for _, line := range badLines() {
		for i := range 3 {
			list := []string{"a", "b", "c"}
			list[i] = line
			if impl.SizeOf(list) != -1 || impl.SizeOf([]string{line}) != -1 {
				t.Errorf("SizeOf(%q) = %d", list, impl.SizeOf(list))
			}
		}
	}
}

// Promise 47: SizeOf of two parts together is that of all.
func TestSizesAddUp(t *testing.T) {
	rnd := rand.New(rand.NewSource(12))
	for range 500 {
		var list []string
		for range rnd.Intn(impl.MaxLines + 1) {
			list = append(list, goodLines()[rnd.Intn(len(goodLines()))])
		}
		all := impl.SizeOf(list)
		if all != sizeOf(list) {
			t.Errorf("SizeOf(%q) = %d", list, all)
		}
		for cut := range len(list) + 1 {
			if impl.SizeOf(list[:cut])+impl.SizeOf(list[cut:]) != all {
				t.Errorf("SizeOf(%q) = %d is not that of its parts at %d", list, all, cut)
			}
		}
	}
}

// Promise 48: valid files are valid with their first list alone.
func TestFilesCanBeCut(t *testing.T) {
	for _, f := range goodFiles() {
		for n := len(f.Lists); n > 0; n-- {
			cut := f
			cut.Lists = f.Lists[:n]
			if !impl.ValidFiles(cut) {
				t.Errorf("ValidFiles(%v) = false", cut)
			}
		}
	}
	for _, b := range badFiles() {
		if impl.ValidFiles(b.files) {
			t.Errorf("ValidFiles with %s", b.why)
		}
	}
}

func TestFilesAtTheirLimits(t *testing.T) {
	for most := -1; most < 125; most++ {
		for _, lines := range [][]string{{""}, {longLine}, {"", ""}, {"a", "bc"}, {longLine, ""}, {longLine, longLine}, slices.Repeat([]string{"12345678"}, 12), slices.Repeat([]string{"123456789"}, 12)} {
			want := most >= 1 && most <= 120 && (len(lines) == 1 || sizeOf(lines) <= most)
			for _, lists := range [][][]string{{lines}, {nil, lines}, {{""}, lines}, {lines, {longLine}}} {
				if f := (impl.Files{Most: most, Keep: 1, Lists: lists}); impl.ValidFiles(f) != want {
					t.Errorf("ValidFiles(%v) = %v", f, !want)
				}
			}
		}
	}
	for keep := -1; keep < 6; keep++ {
		for n := range 7 {
			f := impl.Files{Most: 2, Keep: keep, Lists: slices.Repeat([][]string{{"a"}}, n)}
			if impl.ValidFiles(f) != (keep >= 1 && keep <= 3 && n >= 1 && n <= keep+1) {
				t.Errorf("ValidFiles of %d lists of %d", n, keep)
			}
		}
	}
}

// Promise 49: RollFiles has a first list of no lines, AllLines of it are the newer ones, and rolled twice it is as rolled once.
func TestRolledFilesBeginAnew(t *testing.T) {
	dropped := 0
	for _, f := range goodFiles() {
		got := impl.RollFiles(f)
		if !impl.ValidFiles(got) || !sameFiles(got, wantRolled(f)) || len(got.Lists[0]) != 0 {
			t.Errorf("RollFiles(%v) = %v", f, got)
		}
		if !endsWith(impl.AllLines(f), impl.AllLines(got)) {
			t.Errorf("AllLines(%v) = %q", got, impl.AllLines(got))
		}
		if again := impl.RollFiles(got); !sameFiles(again, got) {
			t.Errorf("RollFiles(%v) = %v", got, again)
		}
		if len(impl.AllLines(got)) < len(impl.AllLines(f)) {
			dropped++
		}
	}
	if dropped < 50 {
		t.Errorf("only %d dropped", dropped)
	}
	for _, b := range badFiles() {
		if got := impl.RollFiles(b.files); !sameFiles(got, impl.Files{}) {
			t.Errorf("RollFiles with %s = %v", b.why, got)
		}
	}
}

// Promise 50: AllLines after WriteLine end with the line, and the lines ahead of it end those that there were.
func TestWrittenLinesAreTheNewestOnes(t *testing.T) {
	behind, rolled, failed := 0, 0, 0
	for _, f := range goodFiles() {
		before := impl.AllLines(f)
		for _, line := range goodLines() {
			want, wantOK := wantWritten(f, line)
			got, ok := impl.WriteLine(f, line)
			if ok != wantOK || !sameFiles(got, want) {
				t.Errorf("WriteLine(%v, %q) = %v, %v", f, line, got, ok)
			}
			if !ok {
				failed++
				continue
			}
			if !impl.ValidFiles(got) {
				t.Errorf("WriteLine(%v, %q) = %v", f, line, got)
			}
			after := impl.AllLines(got)
			last := len(after) - 1
			if after[last] != line || !endsWith(before, after[:last]) {
				t.Errorf("AllLines(%v) = %q", got, after)
			}
			if len(got.Lists[0]) > 1 {
				behind++
			} else if len(f.Lists[0]) > 0 {
				rolled++
			}
		}
	}
	if behind < 100 || rolled < 100 || failed < 2 {
		t.Errorf("only %d behind others, %d rolled, %d failed", behind, rolled, failed)
	}
}

func TestWriteLine(t *testing.T) {
	files := func(most, keep int, lists ...[]string) impl.Files {
		return impl.Files{Most: most, Keep: keep, Lists: lists}
	}
	list := func(lines ...string) []string { return lines }
	eleven := make([]string, 11)
	twelve := make([]string, 12)
	for _, c := range []struct {
		files impl.Files
		line  string
		want  [][]string // nil if it fails
	}{
		{files(1, 1, nil), "", [][]string{{""}}},
		{files(1, 1, nil), "a", [][]string{{"a"}}}, // longer than a file
		{files(1, 1, nil), longLine, [][]string{{longLine}}},
		{files(1, 1, list(longLine)), longLine, [][]string{{longLine}, {longLine}}},
		{files(1, 1, list(longLine), list("b")), "", [][]string{{""}, {longLine}}},
		{files(1, 3, list(longLine), list("b")), "", [][]string{{""}, {longLine}, {"b"}}},
		{files(8, 1, list("abc")), "def", [][]string{{"abc", "def"}}}, // as many bytes as a file has
		{files(7, 1, list("abc")), "def", [][]string{{"def"}, {"abc"}}},
		{files(8, 1, list("abc")), "defg", [][]string{{"defg"}, {"abc"}}},
		{files(8, 1, list("abc", "def"), list("old")), "", [][]string{{""}, {"abc", "def"}}},
		{files(8, 2, list("abc", "def"), list("old")), "", [][]string{{""}, {"abc", "def"}, {"old"}}},
		{files(8, 2, list("abc", "def"), list("b"), list("a")), "", [][]string{{""}, {"abc", "def"}, {"b"}}},
		{files(8, 3, nil, list("c"), list("b"), list("a")), "d", [][]string{{"d"}, {"c"}, {"b"}, {"a"}}}, // nothing is rolled
		{files(8, 3, nil, list("c"), list("b"), list("a")), longLine, [][]string{{longLine}, {"c"}, {"b"}, {"a"}}},
		{files(120, 1, eleven), "a", [][]string{append(slices.Clone(eleven), "a")}},
		{files(120, 1, twelve), "", nil}, // no more than a file has, and too many
		{files(13, 1, twelve), "", nil},
		{files(12, 1, twelve), "", [][]string{{""}, twelve}},
		{files(13, 1, twelve), "a", [][]string{{"a"}, twelve}},
		{files(120, 1, slices.Repeat([]string{"123456789"}, 12)), "", [][]string{{""}, slices.Repeat([]string{"123456789"}, 12)}},
		{files(120, 1, slices.Repeat([]string{"12345678"}, 12)), "12345678901", nil},
		{files(120, 1, slices.Repeat([]string{"12345678"}, 12)), "123456789012", [][]string{{"123456789012"}, slices.Repeat([]string{"12345678"}, 12)}},
	} {
		got, ok := impl.WriteLine(c.files, c.line)
		if ok != (c.want != nil) || !sameLists(got.Lists, c.want) || ok && (got.Most != c.files.Most || got.Keep != c.files.Keep) {
			t.Errorf("WriteLine(%v, %q) = %v, %v", c.files, c.line, got, ok)
		}
		if !ok && !sameFiles(got, impl.Files{}) {
			t.Errorf("WriteLine(%v, %q) = %v, %v", c.files, c.line, got, ok)
		}
	}
}

// Promise 51: WriteLines of the first ones, and then of the others, is that of all.
func TestLinesAreWrittenOneByOne(t *testing.T) {
	rnd := rand.New(rand.NewSource(13))
	for _, f := range goodFiles() {
		list := grownLines(rnd, 1000)
		got, ok := impl.WriteLines(f, list)
		want, wantOK := f, true
		for _, line := range list {
			if wantOK {
				want, wantOK = wantWritten(want, line)
			}
		}
		if ok != wantOK || !sameFiles(got, want) {
			t.Errorf("WriteLines(%v, %q) = %v, %v", f, list, got, ok)
		}
		for cut := range len(list) + 1 {
			first, firstOK := impl.WriteLines(f, list[:cut])
			if ok && !firstOK {
				t.Errorf("WriteLines(%v, %q) = false", f, list[:cut])
			}
			if both, bothOK := impl.WriteLines(first, list[cut:]); firstOK && (bothOK != ok || !sameFiles(both, got)) {
				t.Errorf("WriteLines(%v, %q) = %v, %v behind %d", f, list, both, bothOK, cut)
			}
		}
		if same, ok := impl.WriteLines(f, nil); !ok || !sameFiles(same, f) {
			t.Errorf("WriteLines(%v) of none = %v, %v", f, same, ok)
		}
	}
	few := impl.Files{Most: 120, Keep: 1, Lists: [][]string{{"a"}}}
	if got, ok := impl.WriteLines(few, make([]string, 11)); !ok || len(got.Lists[0]) != 12 {
		t.Errorf("WriteLines of eleven = %v, %v", got, ok)
	}
	if got, ok := impl.WriteLines(few, make([]string, 12)); ok || !sameFiles(got, impl.Files{}) { // the last one fails
		t.Errorf("WriteLines of twelve = %v, %v", got, ok)
	}
	if got, ok := impl.WriteLines(few, append(make([]string, 11), longLine)); ok || !sameFiles(got, impl.Files{}) {
		t.Errorf("WriteLines of eleven and a long one = %v, %v", got, ok)
	}
}

func TestWritesThatAreNotValid(t *testing.T) {
	fails := func(why string, got impl.Files, ok bool) {
		t.Helper()
		if ok || !sameFiles(got, impl.Files{}) {
			t.Errorf("%s = %v, %v", why, got, ok)
		}
	}
	for _, b := range badFiles() {
		got, ok := impl.WriteLine(b.files, "a")
		fails("WriteLine with "+b.why, got, ok)
		for _, list := range [][]string{nil, {"a"}, {"a", "b"}, {"\n"}} {
			got, ok := impl.WriteLines(b.files, list)
			fails("WriteLines with "+b.why, got, ok)
		}
	}
	for _, f := range goodFiles()[:20] {
		for _, line := range badLines() {
			got, ok := impl.WriteLine(f, line)
			fails("WriteLine of no line", got, ok)
			for _, list := range [][]string{{line}, {"a", line}, {line, "a"}} {
				got, ok := impl.WriteLines(f, list)
				fails("WriteLines of no line", got, ok)
			}
		}
		for _, list := range [][]string{make([]string, 13), slices.Repeat([]string{longLine}, 13), make([]string, 100)} {
			got, ok := impl.WriteLines(f, list)
			fails("WriteLines of too many", got, ok)
		}
	}
}

// Promise 52: AllLines are as many as all lists have, the newest list at the end.
func TestLinesAreOfAllFiles(t *testing.T) {
	for _, f := range goodFiles() {
		all := impl.AllLines(f)
		left := all
		for _, lines := range f.Lists {
			if !endsWith(left, lines) {
				t.Fatalf("AllLines(%v) = %q", f, all)
			}
			left = left[:len(left)-len(lines)]
		}
		if len(left) > 0 {
			t.Errorf("AllLines(%v) = %q", f, all)
		}
	}
	for _, b := range badFiles() {
		if got := impl.AllLines(b.files); len(got) != 0 {
			t.Errorf("AllLines with %s = %q", b.why, got)
		}
	}
	f := impl.Files{Most: 9, Keep: 2, Lists: [][]string{{"e"}, {"c", "d"}, {"a", "b"}}}
	if got := strings.Join(impl.AllLines(f), ""); got != "abcde" {
		t.Errorf("AllLines = %q", got)
	}
}

// Promise 53: FindLine is possible exactly if AllLines have the line, and no newer list has it.
func TestFoundLinesAreThereAtTheirNewestPlace(t *testing.T) {
	found, older, again := 0, 0, 0
	for _, f := range goodFiles() {
		for _, line := range append(goodLines(), "no such line") {
			i, k, ok := impl.FindLine(f, line)
			if ok != slices.Contains(impl.AllLines(f), line) {
				t.Errorf("FindLine(%v, %q) = %d, %d, %v", f, line, i, k, ok)
			}
			if !ok {
				if i != 0 || k != 0 {
					t.Errorf("FindLine(%v, %q) = %d, %d, %v", f, line, i, k, ok)
				}
				continue
			}
			if f.Lists[i][k] != line || slices.Contains(f.Lists[i][k+1:], line) || slices.Contains(slices.Concat(f.Lists[:i]...), line) {
				t.Errorf("FindLine(%v, %q) = %d, %d", f, line, i, k)
			}
			found++
			if i > 0 {
				older++
			}
			if slices.Contains(f.Lists[i][:k], line) {
				again++
			}
		}
	}
	if found < 500 || older < 100 || again < 50 {
		t.Errorf("only %d found, %d older, %d again", found, older, again)
	}
}

func TestFindLine(t *testing.T) {
	f := impl.Files{Most: 20, Keep: 3, Lists: [][]string{{"c"}, {"a", "b", "a", "d"}, {"c", "a", "old", "old"}}}
	for _, c := range []struct {
		line    string
		i, k    int
		isThere bool
	}{{"c", 0, 0, true}, {"a", 1, 2, true}, {"b", 1, 1, true}, {"d", 1, 3, true}, {"old", 2, 3, true}, {"ol", 0, 0, false}, {"", 0, 0, false}, {"C", 0, 0, false}, {"c\n", 0, 0, false}, {longLine + "x", 0, 0, false}} {
		if i, k, ok := impl.FindLine(f, c.line); i != c.i || k != c.k || ok != c.isThere {
			t.Errorf("FindLine of %q = %d, %d, %v", c.line, i, k, ok)
		}
	}
	for _, b := range badFiles() {
		lines := append(slices.Concat(b.files.Lists...), "a", "")
		for _, line := range lines[:min(len(lines), 20)] {
			if i, k, ok := impl.FindLine(b.files, line); ok || i != 0 || k != 0 {
				t.Errorf("FindLine with %s = %d, %d, %v", b.why, i, k, ok)
			}
		}
	}
}
