package tests

import (
	"fmt"
	"math/rand"
	"regexp"
	"slices"
	"strconv"
	"strings"

	"loop.example/loggertree/impl"
)

// office returns a tree with handlers that no logger has, loggers that are off, and loggers with nothing but their names.
func office() impl.Tree {
	return impl.Tree{
		Quiet: 10,
		Handlers: []impl.Handler{
			{Name: "idle", Level: 30, Filters: []impl.Filter{{Kind: impl.FiRaise, N: 10}}},
			{Name: "log"},
			{Name: "root", Level: 15, Filters: []impl.Filter{{Kind: impl.FiName, Name: "root.x"}, {Kind: impl.FiMost, N: 60}, {Kind: impl.FiWord, Name: "root"}}},
			{Name: "none", Level: impl.MaxLevel},
		},
		Loggers: []impl.Logger{
			{},
			{Name: "a", Off: true},
			{Name: "a.b", Handlers: []string{"root", "log"}},
			{Name: "a.b.c"},
			{Name: "root.x", Level: 50, Filters: []impl.Filter{{Kind: impl.FiMost, N: 1}}, Stop: true, Off: true},
			{Name: "z", Stop: true},
			{Name: "z.a"},
		},
	}
}

// officeText is the text of the office.
const officeText = "quiet 10\n" +
	"handler idle warn raise=10\n" +
	"handler log 0 -\n" +
	"handler root 15 name=root.x,most=60,word=root\n" +
	"handler none 60 -\n" +
	"logger root 0 - - -\n" +
	"logger a 0 - - off\n" +
	"logger a.b 0 root,log - -\n" +
	"logger a.b.c 0 - - -\n" +
	"logger root.x fatal - most=1 stop,off\n" +
	"logger z 0 - - stop\n" +
	"logger z.a 0 - - -\n"

// mixed returns a valid tree of few names, with some loggers that have nothing, some that are off, and some handlers that no logger has.
func mixed(r *rand.Rand) impl.Tree {
	t := impl.Tree{Quiet: max(0, r.Intn(40)-25)}
	handlers := []string{"h", "k", "out", "root"}
	for _, i := range r.Perm(len(handlers))[:r.Intn(len(handlers)+1)] {
		t.Handlers = append(t.Handlers, impl.Handler{Name: handlers[i], Level: max(0, r.Intn(60)-30), Filters: someFilters(r)})
	}
	t.Loggers = []impl.Logger{{Level: max(0, r.Intn(40)-30)}}
	names := []string{"a", "a.b", "a.b.c", "ab", "b", "b.x", "root.x"}
	for _, i := range r.Perm(len(names))[:r.Intn(6)] {
		t.Loggers = append(t.Loggers, impl.Logger{Name: names[i]})
	}
	for i := range t.Loggers {
		if r.Intn(3) == 0 { // this one has nothing more
			continue
		}
		l := &t.Loggers[i]
		l.Level = max(l.Level, r.Intn(60)-30)
		l.Stop, l.Off = r.Intn(4) == 0, r.Intn(4) == 0
		if r.Intn(3) == 0 {
			l.Filters = someFilters(r)
		}
		for _, h := range r.Perm(len(t.Handlers)) {
			if r.Intn(3) == 0 {
				l.Handlers = append(l.Handlers, t.Handlers[h].Name)
			}
		}
	}
	return t
}

// settingTrees are valid trees: given ones and grown ones.
func settingTrees() []impl.Tree {
	list := append(goodTrees()[:40], post(), office())
	r := rand.New(rand.NewSource(4))
	for range 120 {
		list = append(list, mixed(r))
	}
	return list
}

// treePairs are pairs of valid trees, many of which have names in common.
func treePairs() [][2]impl.Tree {
	given := []impl.Tree{bare(), house(), full(), post(), office()}
	var list [][2]impl.Tree
	for _, a := range given {
		for _, b := range given {
			list = append(list, [2]impl.Tree{a, b})
		}
	}
	r := rand.New(rand.NewSource(5))
	for range 600 {
		list = append(list, [2]impl.Tree{mixed(r), mixed(r)})
	}
	for range 100 {
		list = append(list, [2]impl.Tree{grown(r), mixed(r)}, [2]impl.Tree{mixed(r), grown(r)})
	}
	return list
}

// settingRecords are records that are sent to the setting trees.
func settingRecords() []impl.Record {
	var list []impl.Record
	for _, name := range []string{"", "a", "a.b", "a.b.c", "a.b.c.d", "ab", "b", "b.x.y", "root.x", "z.a"} {
		for _, level := range []int{1, 20, 30, 45, impl.MaxLevel} {
			list = append(list, impl.Record{Name: name, Level: level, Text: []string{"", "no", "oh x"}[len(list)%3], Seq: len(list)})
		}
	}
	return list
}

// filterWords are the words of filters in texts, by their kinds.
func filterWords() map[int]string {
	return map[int]string{impl.FiName: "name", impl.FiMost: "most", impl.FiWord: "word", impl.FiRaise: "raise"}
}

// wantFilters returns the text of filters, told in another way than the program.
func wantFilters(list []impl.Filter) string {
	s := ""
	for _, f := range list {
		what := f.Name
		if f.Kind == impl.FiMost || f.Kind == impl.FiRaise {
			what = fmt.Sprint(f.N)
		}
		s += fmt.Sprintf(",%s=%s", filterWords()[f.Kind], what)
	}
	return orNone(s)
}

// orNone returns a text without the comma that it begins with, and - for "".
func orNone(s string) string {
	if s == "" {
		return "-"
	}
	return s[1:]
}

// wantLevel returns the name of a level, told in another way than the program.
func wantLevel(level int) string {
	if s, ok := levelNames()[level]; ok {
		return s
	}
	return fmt.Sprint(level)
}

// wantText returns TreeText of a valid tree, told in another way than the program.
func wantText(x impl.Tree) string {
	s := fmt.Sprintf("quiet %d\n", x.Quiet)
	for _, h := range x.Handlers {
		s += fmt.Sprintf("handler %s %s %s\n", h.Name, wantLevel(h.Level), wantFilters(h.Filters))
	}
	for _, l := range x.Loggers {
		name, handlers, flags := l.Name, "", ""
		switch name {
		case "root":
			return ""
		case "":
			name = "root"
		}
		for _, h := range l.Handlers {
			handlers += "," + h
		}
		if l.Stop {
			flags += ",stop"
		}
		if l.Off {
			flags += ",off"
		}
		s += fmt.Sprintf("logger %s %s %s %s %s\n", name, wantLevel(l.Level), orNone(handlers), wantFilters(l.Filters), orNone(flags))
	}
	return s
}

// These are the shapes of the parts of a text of a tree.
const (
	numberPart  = `(0|[1-9][0-9]?)`
	wordPart    = `[a-z]{1,4}`
	levelPart   = `(0|[1-9]|[1-5][1-9]|60|debug|info|warn|error|fatal)`
	filterPart  = `(?:(?:name|word)=[a-z.]+|(?:most|raise)=[1-9][0-9]?)`
	filtersPart = `(-|` + filterPart + `(?:,` + filterPart + `){0,2})`
	namePart    = `(` + wordPart + `(?:\.` + wordPart + `){0,3})`
)

// textShape is the shape of the text of a tree.
var textShape = regexp.MustCompile(`\Aquiet ` + numberPart + `\n((?:handler .*\n)*)((?:logger .*\n)+)\z`)

// handlerShape is the shape of a line of a handler.
var handlerShape = regexp.MustCompile(`\Ahandler (` + wordPart + `) ` + levelPart + ` ` + filtersPart + `\z`)

// loggerShape is the shape of a line of a logger.
var loggerShape = regexp.MustCompile(`\Alogger ` + namePart + ` ` + levelPart + ` (-|` + wordPart + `(?:,` + wordPart + `)*) ` + filtersPart + ` (-|stop|off|stop,off)\z`)

// levelIn returns the level of a name that has the shape of one.
func levelIn(s string) int {
	for level, name := range levelNames() {
		if name == s {
			return level
		}
	}
	n, _ := strconv.Atoi(s)
	return n
}

// filtersIn returns the filters of a text that has the shape of some.
func filtersIn(s string) []impl.Filter {
	var list []impl.Filter
	for _, text := range strings.FieldsFunc(strings.TrimPrefix(s, "-"), func(c rune) bool { return c == ',' }) {
		var f impl.Filter
		word, value, _ := strings.Cut(text, "=")
		for kind, w := range filterWords() {
			if w == word {
				f.Kind = kind
			}
		}
		if n, err := strconv.Atoi(value); err == nil {
			f.N = n
		} else {
			f.Name = value
		}
		list = append(list, f)
	}
	return list
}

// linesOf returns the lines of a text.
func linesOf(s string) []string {
	return strings.FieldsFunc(s, func(c rune) bool { return c == '\n' })
}

// wantParsed returns ParseTree of a text, told in another way than the program: by shapes.
func wantParsed(s string) (impl.Tree, bool) {
	parts := textShape.FindStringSubmatch(s)
	if parts == nil {
		return impl.Tree{}, false
	}
	x := impl.Tree{Quiet: levelIn(parts[1])}
	for _, line := range linesOf(parts[2]) {
		p := handlerShape.FindStringSubmatch(line)
		if p == nil {
			return impl.Tree{}, false
		}
		x.Handlers = append(x.Handlers, impl.Handler{Name: p[1], Level: levelIn(p[2]), Filters: filtersIn(p[3])})
	}
	for _, line := range linesOf(parts[3]) {
		p := loggerShape.FindStringSubmatch(line)
		if p == nil {
			return impl.Tree{}, false
		}
		l := impl.Logger{Name: p[1], Level: levelIn(p[2]), Filters: filtersIn(p[4]), Stop: strings.Contains(p[5], "stop"), Off: strings.Contains(p[5], "off")}
		if l.Name == "root" {
			l.Name = ""
		}
		if p[3] != "-" {
			l.Handlers = strings.Split(p[3], ",")
		}
		x.Loggers = append(x.Loggers, l)
	}
	if !impl.ValidTree(x) {
		return impl.Tree{}, false
	}
	return x, true
}

// nearTexts are texts that are one change away from a text: other bytes, words and lines, fewer and more of them.
func nearTexts(s string, r *rand.Rand) []string {
	list := []string{s, s + "\n", "\n" + s, s + s, s + " ", s + "x", strings.ReplaceAll(s, "\n", "\r\n"), strings.TrimSuffix(s, "\n")}
	bytes := " \n-,=.09a1x\x00\xff"
	for range 60 {
		i := r.Intn(len(s))
		c := bytes[r.Intn(len(bytes))]
		list = append(list, s[:i]+s[i+1:], s[:i]+string(rune(c))+s[i:], s[:i]+string(rune(c))+s[i+1:])
	}
	lines := strings.SplitAfter(s, "\n")
	for range 10 {
		i, k := r.Intn(len(lines)), r.Intn(len(lines))
		other := slices.Clone(lines)
		other[i], other[k] = other[k], other[i]
		list = append(list, strings.Join(other, ""), strings.Join(slices.Delete(slices.Clone(lines), i, i+1), ""), strings.Join(slices.Insert(slices.Clone(lines), k, lines[i]), ""))
	}
	words := strings.SplitAfter(strings.ReplaceAll(s, "\n", " \n"), " ")
	others := []string{"- ", "0 ", "60 ", "61 ", "10 ", "debug ", "info ", "root ", "a ", "z.z ", "h ", "h,k ", "k,h ", "stop ", "off ", "stop,off ", "most=5 ", "name=root ", "word=a,raise=7 ", "quiet ", "handler ", "\nhandler ", "logger "}
	for range 60 {
		other := slices.Clone(words)
		other[r.Intn(len(other))] = others[r.Intn(len(others))]
		list = append(list, strings.ReplaceAll(strings.Join(other, ""), " \n", "\n"))
	}
	return list
}
