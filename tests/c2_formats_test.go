package tests

import (
	"fmt"
	"regexp"
	"slices"
	"strconv"
	"strings"
	"testing"

	"loop.example/loggertree/impl"
)

// formatShape tells what a format is, but for its length, in another way than the program.
var formatShape = regexp.MustCompile(`\A([^{}]|\{(name|level|text|seq)( [1-9])?\})*\z`)

// fieldShape finds the fields of a format.
var fieldShape = regexp.MustCompile(`\{([a-z]+)(?: ([1-9]))?\}`)

// goodFormats are formats.
func goodFormats() []string {
	list := []string{
		"", " ", "x", "name", "plain text", "{level}: {text}", "[{level 6}] {name}", "{seq 3}|", "{name}{level}{text}{seq}", "{seq}{seq}", "é{text}\x00\xff\n",
		strings.Repeat("x", impl.MaxFormat), strings.Repeat("é", impl.MaxFormat/2), strings.Repeat("{seq}", 8), "{name 1}{level 9}{text 5}{seq 9}{text}  ", "1 {seq 1} 2", "name level text seq",
	}
	for _, word := range []string{"name", "level", "text", "seq"} {
		list = append(list, "{"+word+"}", "<{"+word+"}>")
		for n := 1; n <= 9; n++ {
			list = append(list, "{"+word+" "+strconv.Itoa(n)+"}", "{text}{"+word+" "+strconv.Itoa(n)+"}.")
		}
	}
	return list
}

// badFormats are texts that are no formats.
func badFormats() []string {
	list := []string{
		"{", "}", "{}", "}{", "{{", "}}", "{{}}", "{x}", "{Name}", "{names}", "{nam}", "{name", "name}", "{name ", "{name 1", "{name }", "{name  }", "{name 0}", "{name 10}", "{name 12}",
		"{name  1}", "{name 1 }", "{ name}", "{ name 1}", "{name1}", "{name -1}", "{name a}", "{name\t1}", "{name:1}", "{name 1 2}", "{name １}", "{name é}", "{ }", "{1}", "{ 1}",
		"{{name}", "{name}}", "{{name}}", "{na{me}", "{name {seq}}", "{name}{", "{name}}{name}", "x{name}y}", "{name}x{level", "{text}{}", "{level}: {msg}", "{name,level}", "{name level}",
		"{root}", "{seq\n}", "{\x00}", "{name /}", "{name :}",
		strings.Repeat("x", impl.MaxFormat+1), strings.Repeat("é", impl.MaxFormat/2) + "x", strings.Repeat("{seq}", 8) + "x", strings.Repeat("{seq}", 1000), strings.Repeat("x", impl.MaxFormat) + "{seq}",
	}
	for _, f := range list[:40] {
		list = append(list, "{seq} "+f, f+" {seq}")
	}
	return list
}

func TestValidFormat(t *testing.T) {
	for _, f := range goodFormats() {
		if !impl.ValidFormat(f) {
			t.Errorf("ValidFormat(%q) = false", f)
		}
	}
	for _, f := range badFormats() {
		if impl.ValidFormat(f) {
			t.Errorf("ValidFormat(%q) = true", f)
		}
	}
	check := func(f string) {
		if want := len(f) <= impl.MaxFormat && formatShape.MatchString(f); impl.ValidFormat(f) != want {
			t.Errorf("ValidFormat(%q) = %v", f, !want)
		}
	}
	joins([]string{"{", "}", "name", "seq", " ", "7", "0", "{text 5}"}, 5, check)
	joins([]string{"{level 1}", "{name}", "xyz", "x"}, 6, check)
	for c := range 256 {
		s := string([]byte{byte(c)})
		for _, f := range []string{s, "a" + s, "{name " + s + "}", "{name" + s + "1}", "{name 1" + s, s + "name}", "{name" + s + "}", "{seq}" + s + "{seq}"} {
			check(f)
		}
	}
	for n := 30; n < 100; n++ {
		check(strings.Repeat("a", n))
		check("{text 3}" + strings.Repeat(" ", n-8))
	}
}

// Promise 36: two formats one behind the other are one, if they are not too long.
func TestFormatsAreJoined(t *testing.T) {
	for _, f := range goodFormats() {
		for _, g := range goodFormats() {
			if impl.ValidFormat(f+g) != (len(f)+len(g) <= 40) {
				t.Errorf("ValidFormat(%q) = %v", f+g, impl.ValidFormat(f+g))
			}
		}
	}
}

// Promise 37: FieldsOf of a format twice are its fields twice.
func TestFieldsAreThoseOfBothParts(t *testing.T) {
	for _, f := range goodFormats() {
		var want []string
		for _, m := range fieldShape.FindAllStringSubmatch(f, -1) {
			want = append(want, m[1])
		}
		got := impl.FieldsOf(f)
		if !slices.Equal(got, want) {
			t.Errorf("FieldsOf(%q) = %q", f, got)
		}
		if impl.ValidFormat(f+f) && !slices.Equal(impl.FieldsOf(f+f), slices.Concat(got, got)) {
			t.Errorf("FieldsOf(%q) = %q", f+f, impl.FieldsOf(f+f))
		}
	}
	for f, want := range map[string][]string{
		"": nil, "name": nil, "{seq} {text 3}": {"seq", "text"}, "{name}{name}{level 9}{name 1}": {"name", "name", "level", "name"},
		"{text}seq{level}": {"text", "level"}, "{seq}{seq}{seq}{seq}{seq}{seq}{seq}{seq}": {"seq", "seq", "seq", "seq", "seq", "seq", "seq", "seq"},
	} {
		if got := impl.FieldsOf(f); !slices.Equal(got, want) {
			t.Errorf("FieldsOf(%q) = %q", f, got)
		}
	}
	for _, f := range badFormats() {
		if got := impl.FieldsOf(f); len(got) != 0 {
			t.Errorf("FieldsOf(%q) = %q", f, got)
		}
	}
}

// wantFormatted returns FormatRecord of valid arguments, told in another way than the program.
func wantFormatted(f string, r impl.Record) string {
	name := r.Name
	if name == "" {
		name = "root"
	}
	level := levelNames()[r.Level]
	if level == "" {
		level = fmt.Sprint(r.Level)
	}
	values := map[string]string{"name": name, "level": level, "text": r.Text, "seq": fmt.Sprint(r.Seq)}
	return fieldShape.ReplaceAllStringFunc(f, func(field string) string {
		m := fieldShape.FindStringSubmatch(field)
		width, _ := strconv.Atoi(m[2])
		return fmt.Sprintf("%-*s", width, values[m[1]])
	})
}

// Promise 38: FormatRecord of a format twice is its text twice, and {text} is the text.
func TestFormatsAreFilledPartByPart(t *testing.T) {
	for _, r := range goodRecords() {
		for _, f := range goodFormats() {
			s, ok := impl.FormatRecord(f, r)
			if !ok || s != wantFormatted(f, r) {
				t.Fatalf("FormatRecord(%q, %v) = %q, %v", f, r, s, ok)
			}
			if !impl.ValidFormat(f + f) {
				continue
			}
			if twice, ok := impl.FormatRecord(f+f, r); !ok || twice != s+s {
				t.Errorf("FormatRecord(%q, %v) = %q, %v", f+f, r, twice, ok)
			}
		}
		if s, ok := impl.FormatRecord("{text}", r); !ok || s != r.Text {
			t.Errorf("FormatRecord({text}, %v) = %q, %v", r, s, ok)
		}
	}
}

func TestFormatRecord(t *testing.T) {
	r := impl.Record{Name: "a.bc", Level: 30, Text: "oh no", Seq: 7}
	root := impl.Record{Level: 35}
	for _, c := range []struct {
		f    string
		r    impl.Record
		want string
	}{
		{"", r, ""},
		{"plain", r, "plain"},
		{"{name}", r, "a.bc"},
		{"{name}", root, "root"},
		{"{name 6}|", root, "root  |"},
		{"{name}", impl.Record{Name: "root", Level: 1}, "root"},
		{"{level}", r, "warn"},
		{"{level}", root, "35"},
		{"{level 5}|", r, "warn |"},
		{"{level 4}|", r, "warn|"},
		{"{level 3}|", r, "warn|"}, // nothing is cut
		{"{level 1}|", r, "warn|"},
		{"{text}", r, "oh no"},
		{"{text 9}|", r, "oh no    |"},
		{"{text}|", root, "|"},
		{"{text 3}|", root, "   |"},
		{"{seq}", r, "7"},
		{"{seq}", root, "0"},
		{"{seq 4}|", r, "7   |"},
		{"{seq 2}|", impl.Record{Level: 1, Seq: 999}, "999|"},
		{"{seq 9}{seq 1}{seq}", r, "7        77"},
		{"<{level 5}> {name}: {text} #{seq}", r, "<warn > a.bc: oh no #7"},
		{"seq name {text} level", r, "seq name oh no level"},
		{"{text}{text}{text}{text}{text}", impl.Record{Level: 1, Text: "abcdefghijkl"}, strings.Repeat("abcdefghijkl", 5)},
		{"é\xff\n{seq}\x00", r, "é\xff\n7\x00"},
	} {
		if s, ok := impl.FormatRecord(c.f, c.r); !ok || s != c.want {
			t.Errorf("FormatRecord(%q, %v) = %q, %v", c.f, c.r, s, ok)
		}
	}
}

func TestFormatsThatAreNotValid(t *testing.T) {
	for _, f := range badFormats() {
		for _, r := range []impl.Record{letter(), {Level: 1}, {}} {
			if s, ok := impl.FormatRecord(f, r); ok || s != "" {
				t.Errorf("FormatRecord(%q, %v) = %q, %v", f, r, s, ok)
			}
		}
	}
	for _, b := range badRecords() {
		for _, f := range goodFormats() {
			if s, ok := impl.FormatRecord(f, b.record); ok || s != "" {
				t.Errorf("%s: FormatRecord(%q) = %q, %v", b.why, f, s, ok)
			}
		}
	}
}
