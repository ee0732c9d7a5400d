package tests

import (
	"regexp"
	"slices"
	"strings"
	"testing"

	"loop.example/loggertree/impl"
)

// nameShape tells what a name is in another way than the program.
var nameShape = regexp.MustCompile(`\A([a-z]{1,4}(\.[a-z]{1,4}){0,3})?\z`)

// joins calls f with the texts of up to some pieces, one behind the other.
func joins(pieces []string, most int, f func(s string)) {
	var grow func(s string, left int)
	grow = func(s string, left int) {
		f(s)
		if left > 0 {
			for _, p := range pieces {
				grow(s+p, left-1)
			}
		}
	}
	grow("", most)
}

func TestValidName(t *testing.T) {
	for _, name := range goodNames() {
		if !impl.ValidName(name) {
			t.Errorf("ValidName(%q) = false", name)
		}
	}
	for _, s := range badNames() {
		if impl.ValidName(s) {
			t.Errorf("ValidName(%q) = true", s)
		}
	}
	check := func(s string) {
		if impl.ValidName(s) != nameShape.MatchString(s) {
			t.Errorf("ValidName(%q) = %v", s, impl.ValidName(s))
		}
	}
	joins([]string{"a", "z", ".", "A", "`", "{", "é"}, 5, check)
	joins([]string{".", "a", "abcd", "bcde."}, 7, check)
	for c := range 256 {
		check(string([]byte{byte(c)}))
		check("a" + string([]byte{byte(c)}) + "a")
	}
}

func TestLimits(t *testing.T) {
	for _, c := range [][2]int{
		{impl.MaxWord, 4}, {impl.MaxParts, 4}, {impl.MaxLevel, 60}, {impl.MaxFilters, 3}, {impl.MaxHandlers, 6}, {impl.MaxLoggers, 8},
		{impl.FiName, 0}, {impl.FiMost, 1}, {impl.FiWord, 2}, {impl.FiRaise, 3},
	} {
		if c[0] != c[1] {
			t.Errorf("constant %d, not %d", c[0], c[1])
		}
	}
	if impl.LastName != "last" {
		t.Errorf("LastName = %q", impl.LastName)
	}
}

// Promise 1: a name of several words is one without its last word, too, and below this.
func TestNamesCanBeCut(t *testing.T) {
	for _, name := range goodNames() {
		if strings.Contains(name, ".") {
			up := cutName(name)
			if !impl.ValidName(name) || !impl.ValidName(up) || !impl.IsBelow(name, up) || impl.IsBelow(up, name) {
				t.Errorf("%q cut to %q", name, up)
			}
		}
	}
}

// Promise 2: each of PartsOf is a name of itself alone, and joined they are the name.
func TestWordsOfNamesAreNames(t *testing.T) {
	for _, name := range goodNames() {
		parts := impl.PartsOf(name)
		if strings.Join(parts, ".") != name || name == "" && len(parts) != 0 {
			t.Errorf("PartsOf(%q) = %q", name, parts)
		}
		for _, p := range parts {
			if !impl.ValidName(p) || !slices.Equal(impl.PartsOf(p), []string{p}) {
				t.Errorf("PartsOf(%q) = %q", p, impl.PartsOf(p))
			}
		}
	}
	for _, s := range badNames() {
		if parts := impl.PartsOf(s); len(parts) != 0 {
			t.Errorf("PartsOf(%q) = %q", s, parts)
		}
	}
	for s, want := range map[string][]string{"a": {"a"}, "ab": {"ab"}, "a.b": {"a", "b"}, "abcd.b.a.a": {"abcd", "b", "a", "a"}} {
		if !slices.Equal(impl.PartsOf(s), want) {
			t.Errorf("PartsOf(%q) = %q", s, impl.PartsOf(s))
		}
	}
}

// commonParts returns how many words two names begin with, told in another way than the program.
func commonParts(a, b string) int {
	n := 0
	x, y := strings.FieldsFunc(a, isPoint), strings.FieldsFunc(b, isPoint)
	for n < len(x) && n < len(y) && x[n] == y[n] {
		n++
	}
	return n
}

func isPoint(c rune) bool { return c == '.' }

// lies reports whether a name is another one or below it, told in another way than the program.
func lies(a, b string) bool {
	return commonParts(a, b) == len(strings.FieldsFunc(b, isPoint))
}

// Promise 3: IsBelow holds of a name and itself, of all names and the root, and both ways for equal names alone.
func TestToBeBelowGoesOn(t *testing.T) {
	for _, a := range goodNames() {
		if !impl.IsBelow(a, a) || !impl.IsBelow(a, "") {
			t.Errorf("IsBelow of %q", a)
		}
		for _, b := range goodNames() {
			if impl.IsBelow(a, b) != lies(a, b) {
				t.Errorf("IsBelow(%q, %q) = %v", a, b, !lies(a, b))
			}
			if (impl.IsBelow(a, b) && impl.IsBelow(b, a)) != (a == b) {
				t.Errorf("IsBelow(%q, %q) both ways", a, b)
			}
			for _, c := range goodNames() {
				if impl.IsBelow(a, b) && impl.IsBelow(b, c) && !impl.IsBelow(a, c) {
					t.Errorf("IsBelow(%q, %q) by %q", a, c, b)
				}
			}
		}
	}
	for _, c := range [][2]string{{"ab", "a"}, {"a.bc", "a.b"}, {"abcd", "abc"}, {"a", "ab"}, {"", "a"}, {"b.a", "a"}, {"a.b", "b"}, {"a.b.cd", "a.b.c"}} {
		if impl.IsBelow(c[0], c[1]) {
			t.Errorf("IsBelow(%q, %q) = true", c[0], c[1])
		}
	}
}

// Promise 4: CommonName has both below it, is the same the other way round, and is b exactly if a is below b.
func TestBothNamesAreBelowTheCommonOne(t *testing.T) {
	for _, a := range goodNames() {
		for _, b := range goodNames() {
			c := impl.CommonName(a, b)
			if !impl.IsBelow(a, c) || !impl.IsBelow(b, c) || c != impl.CommonName(b, a) || (c == b) != impl.IsBelow(a, b) {
				t.Errorf("CommonName(%q, %q) = %q", a, b, c)
			}
			if len(impl.PartsOf(c)) != commonParts(a, b) {
				t.Errorf("CommonName(%q, %q) = %q", a, b, c)
			}
		}
	}
	for _, c := range [][3]string{{"ab", "a", ""}, {"a.bc", "a.b", "a"}, {"a.b.c", "a.b.d", "a.b"}, {"a.b", "a.b", "a.b"}, {"a.b.c.d", "a.b", "a.b"}, {"a.x", "b.x", ""}} {
		if got := impl.CommonName(c[0], c[1]); got != c[2] {
			t.Errorf("CommonName(%q, %q) = %q", c[0], c[1], got)
		}
	}
}

func TestTextsThatAreNoNames(t *testing.T) {
	for _, s := range badNames() {
		for _, name := range append(goodNames(), badNames()...) {
			if impl.IsBelow(s, name) || impl.IsBelow(name, s) {
				t.Errorf("IsBelow of %q and %q", s, name)
			}
			if impl.CommonName(s, name) != "" || impl.CommonName(name, s) != "" {
				t.Errorf("CommonName of %q and %q", s, name)
			}
		}
		// A text that only begins with a name must not be taken for one below it.
		if impl.IsBelow(s, s) || impl.CommonName("a"+s, "a") == "a" && !impl.ValidName("a"+s) {
			t.Errorf("names made of %q", s)
		}
	}
	for _, s := range []string{"a.", "a..b", "a.B", "a.b.c.d.e", "a.abcde"} {
		if impl.IsBelow(s, "a") || impl.IsBelow(s, "") || impl.IsBelow("a.b", s) || impl.CommonName(s, "a.b") != "" || impl.CommonName("a.b", s) != "" {
			t.Errorf("%q taken for a name", s)
		}
	}
}
