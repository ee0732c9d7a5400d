package tests

import (
	"math/rand"
	"slices"
	"strings"
	"testing"

	"loop.example/loggertree/impl"
)

func TestLimitsOfWarnings(t *testing.T) {
	for _, c := range [][2]int{
		{impl.MaxFields, 5}, {impl.MaxStack, 4}, {impl.MaxRules, 6}, {impl.MaxDesk, 20},
		{impl.AcIgnore, 0}, {impl.AcAlways, 1}, {impl.AcOnce, 2}, {impl.AcModule, 3}, {impl.AcPlace, 4}, {impl.AcRaise, 5},
	} {
		if c[0] != c[1] {
			t.Errorf("constant %d, not %d", c[0], c[1])
		}
	}
}

// Promise 68: valid fields are valid without the last one.
func TestFieldsCanBeCut(t *testing.T) {
	for _, list := range goodFields() {
		for n := len(list); n >= 0; n-- {
			if !impl.ValidFields(list[:n]) {
				t.Errorf("ValidFields(%v) = false", list[:n])
			}
		}
	}
	for _, word := range goodWords() {
		if !impl.ValidFields([]impl.Field{{Key: word, Value: word}}) {
			t.Errorf("ValidFields of %q = false", word)
		}
	}
	for n := range 10 {
		list := grownFields(rand.New(rand.NewSource(1)), min(n, len(goodWords())))
		if impl.ValidFields(list) != (n <= 5) {
			t.Errorf("ValidFields of %d = %v", n, n > 5)
		}
	}
}

func TestFieldsThatAreNotValid(t *testing.T) {
	for _, b := range badFieldLists() {
		if impl.ValidFields(b.list) {
			t.Errorf("ValidFields with %s", b.why)
		}
		if got := impl.FieldsText(b.list); got != "" {
			t.Errorf("FieldsText with %s = %q", b.why, got)
		}
		good := []impl.Field{{Key: "x", Value: "y"}}
		for _, stack := range [][][]impl.Field{{b.list}, {b.list, good, nil, good}, {good, b.list, good}, {good, nil, good, b.list}} {
			if got := impl.FlatFields(stack); len(got) > 0 {
				t.Errorf("FlatFields with %s = %v", b.why, got)
			}
		}
	}
}

// wantFlat returns FlatFields of valid lists, told in another way than the program: the keys as they come, with what each has at the end.
func wantFlat(stack [][]impl.Field) []impl.Field {
	var keys []string
	values := map[string]string{}
	for _, f := range slices.Concat(stack...) {
		if values[f.Key] == "" {
			keys = append(keys, f.Key)
		}
		values[f.Key] = f.Value
	}
	var flat []impl.Field
	for _, key := range keys {
		flat = append(flat, impl.Field{Key: key, Value: values[key]})
	}
	return flat
}

// valueIn returns the value that the last list that has a key tells.
func valueIn(stack [][]impl.Field, key string) string {
	for _, list := range slices.Backward(stack) {
		for _, f := range list {
			if f.Key == key {
				return f.Value
			}
		}
	}
	return ""
}

// Promise 69: FlatFields has each key once, with the value of the last list that has it, and of one list it is this.
func TestFieldsOfTheLastListTell(t *testing.T) {
	r := rand.New(rand.NewSource(24))
	lists := goodFields()
	long, changed := 0, 0
	for i := range 3000 {
		var stack [][]impl.Field
		for range i % (impl.MaxStack + 1) {
			stack = append(stack, lists[r.Intn(len(lists))])
		}
		got := impl.FlatFields(stack)
		if !slices.Equal(got, wantFlat(stack)) {
			t.Fatalf("FlatFields(%v) = %v", stack, got)
		}
		keys := map[string]bool{}
		for _, f := range got {
			if keys[f.Key] || f.Value != valueIn(stack, f.Key) {
				t.Errorf("FlatFields(%v) = %v", stack, got)
			}
			keys[f.Key] = true
		}
		for _, f := range slices.Concat(stack...) {
			if !keys[f.Key] {
				t.Errorf("FlatFields(%v) = %v without %q", stack, got, f.Key)
			}
			if f.Value != valueIn(stack, f.Key) {
				changed++
			}
		}
		if len(got) > impl.MaxFields {
			long++
		}
	}
	if long < 300 || changed < 300 {
		t.Errorf("only %d of many fields, and %d other values", long, changed)
	}
	for _, list := range lists {
		if got := impl.FlatFields([][]impl.Field{list}); !slices.Equal(got, list) {
			t.Errorf("FlatFields of %v = %v", list, got)
		}
	}
}

func TestFlatFields(t *testing.T) {
	f := func(s string) []impl.Field {
		list, ok := wantFields(s)
		if !ok {
			t.Fatalf("%q is no text of fields", s)
		}
		return list
	}
	for _, c := range []struct {
		stack []string
		want  string
	}{
		{nil, ""}, {[]string{""}, ""}, {[]string{"", "", "", ""}, ""},
		{[]string{"id=a user=b", "user=c job=d"}, "id=a user=c job=d"},
		{[]string{"user=c job=d", "id=a user=b"}, "user=b job=d id=a"},
		{[]string{"id=a", "id=b", "id=c", "id=a"}, "id=a"},
		{[]string{"id=a", "", "a=id id=id", "a=b"}, "id=id a=b"},
		{[]string{"a=a b=b", "b=x a=y"}, "a=y b=x"},
	} {
		var stack [][]impl.Field
		for _, s := range c.stack {
			stack = append(stack, f(s))
		}
		if got := impl.FlatFields(stack); !slices.Equal(got, f(c.want)) {
			t.Errorf("FlatFields(%q) = %v", c.stack, got)
		}
	}
	var stack [][]impl.Field
	for i := range impl.MaxStack { // as many as there can be
		var list []impl.Field
		for k := range impl.MaxFields {
			list = append(list, impl.Field{Key: "abcdefghijklmnopqrst"[5*i+k:][:1], Value: "v"})
		}
		stack = append(stack, list)
	}
	if got := impl.FlatFields(stack); !slices.Equal(got, slices.Concat(stack...)) {
		t.Errorf("FlatFields of many = %v", got)
	}
	for _, n := range []int{5, 6, 1000} {
		if got := impl.FlatFields(slices.Repeat([][]impl.Field{f("id=a")}, n)); len(got) > 0 {
			t.Errorf("FlatFields of %d lists = %v", n, got)
		}
		if got := impl.FlatFields(append([][]impl.Field{f("id=a")}, make([][]impl.Field, n-1)...)); len(got) > 0 {
			t.Errorf("FlatFields of %d lists of none = %v", n, got)
		}
	}
}

// Promise 70: ParseFields of FieldsText is the fields.
func TestFieldsAreReadBack(t *testing.T) {
	for _, list := range goodFields() {
		var texts []string
		for _, f := range list {
			texts = append(texts, f.Key+"="+f.Value)
		}
		text := impl.FieldsText(list)
		if text != strings.Join(texts, " ") {
			t.Errorf("FieldsText(%v) = %q", list, text)
		}
		if got, ok := impl.ParseFields(text); !ok || !slices.Equal(got, list) {
			t.Errorf("ParseFields(%q) = %v, %v", text, got, ok)
		}
	}
}

// nearFields are texts that are one or two changes away from a text of fields.
func nearFields(s string, r *rand.Rand) []string {
	list := []string{s, s + " ", " " + s, s + "\n", s + "=", s + s, s + " " + s, strings.ReplaceAll(s, " ", ","), strings.ReplaceAll(s, "=", ":")}
	bytes := "  ==abzA.\x00"
	for i := range 200 {
		near := s
		for range 1 + i%2 {
			k := r.Intn(len(near) + 1)
			c := bytes[r.Intn(len(bytes))]
			switch {
			case r.Intn(3) == 0 || k == len(near):
				near = near[:k] + string(rune(c)) + near[k:]
			case r.Intn(2) == 0:
				near = near[:k] + near[k+1:]
			default:
				near = near[:k] + string(rune(c)) + near[k+1:]
			}
		}
		list = append(list, near)
	}
	return list
}

// Promise 71: FieldsText of ParseFields is the text.
func TestTextsOfFieldsAreWrittenBack(t *testing.T) {
	r := rand.New(rand.NewSource(25))
	right, wrong := 0, 0
	for _, list := range goodFields() {
		for _, s := range nearFields(impl.FieldsText(list), r) {
			got, ok := impl.ParseFields(s)
			want, may := wantFields(s)
			if ok != may || !slices.Equal(got, want) {
				t.Fatalf("ParseFields(%q) = %v, %v, not %v, %v", s, got, ok, want, may)
			}
			if !ok {
				wrong++
				continue
			}
			right++
			if impl.FieldsText(got) != s {
				t.Errorf("FieldsText(%v) = %q, not %q", got, impl.FieldsText(got), s)
			}
		}
	}
	if right < 3000 || wrong < 10000 {
		t.Errorf("only %d texts of fields, and %d of none", right, wrong)
	}
}

func TestParseFields(t *testing.T) {
	if got, ok := impl.ParseFields(""); !ok || len(got) > 0 {
		t.Errorf("ParseFields of nothing = %v, %v", got, ok)
	}
	if got, ok := impl.ParseFields("id=a abcd=wxyz a=id b=b z=a"); !ok || !slices.Equal(got, []impl.Field{{Key: "id", Value: "a"}, {Key: "abcd", Value: "wxyz"}, {Key: "a", Value: "id"}, {Key: "b", Value: "b"}, {Key: "z", Value: "a"}}) {
		t.Errorf("ParseFields = %v, %v", got, ok)
	}
	bad := []string{
		" ", "=", "= =", "id", "id=", "=a", "id=a=b", "id==a", "id=a ", " id=a", "id=a  k=b", "id=a\nk=b", "id=a\tk=b", "id=a,k=b", "id =a", "id= a", "id:a",
		"id=a id=b", "id=a id=a", "id=a k=b id=c", "ID=a", "id=A", "id=1", "id=abcde", "abcde=a", "id=a.b", "a.b=a", "id=a k", "id=a =b", "id=a k=", "id=é", "id=\xff", "id=a\x00",
		"a=a b=b c=c d=d e=e f=f", "a=a b=b c=c d=d e=e ", strings.Repeat("id=a ", 100000), strings.Repeat(" ", 100000), strings.Repeat("=", 100000), strings.Repeat("a", 100000) + "=a",
	}
	for _, s := range noWords() {
		bad = append(bad, "id=a "+s+"=b", "id=a k="+s)
	}
	for _, s := range bad {
		if got, ok := impl.ParseFields(s); ok || len(got) > 0 {
			t.Errorf("ParseFields(%.50q) = %v, %v", s, got, ok)
		}
	}
}
