package tests

import (
	"math/rand"
	"strings"
	"testing"

	"loop.example/loggertree/impl"
)

// houseText is the text of the house.
const houseText = "quiet 5\n" +
	"handler out error most=50\n" +
	"handler h 0 -\n" +
	"handler a 60 word=last,raise=1,name=a.b\n" +
	"logger root warn out raise=60 -\n" +
	"logger b.x 0 - - -\n" +
	"logger a.b debug a,h,out - -\n" +
	"logger ab fatal - word=no -\n" +
	"logger a.b.c.d 0 - - off\n" +
	"logger b info h - stop\n" +
	"logger a.bc 0 - - stop,off\n"

func TestTextsOfGivenTrees(t *testing.T) {
	for _, c := range []struct {
		tree impl.Tree
		text string
	}{
		{bare(), "quiet 0\nlogger root 0 - - -\n"},
		{impl.Tree{Quiet: impl.MaxLevel, Loggers: []impl.Logger{{Level: 1, Stop: true, Off: true}}}, "quiet 60\nlogger root 1 - - stop,off\n"},
		{impl.Tree{Quiet: 20, Loggers: []impl.Logger{{Name: "", Level: 20}, {Name: "last"}}}, "quiet 20\nlogger root info - - -\nlogger last 0 - - -\n"},
		{impl.Tree{Handlers: []impl.Handler{{Name: "root"}}, Loggers: []impl.Logger{{Handlers: []string{"root"}}}}, "quiet 0\nhandler root 0 -\nlogger root 0 root - -\n"},
		{impl.Tree{Loggers: []impl.Logger{{}, {Name: "a.root"}, {Name: "root.a"}, {Name: "roo"}}}, "quiet 0\nlogger root 0 - - -\nlogger a.root 0 - - -\nlogger root.a 0 - - -\nlogger roo 0 - - -\n"},
		{house(), houseText},
		{office(), officeText},
	} {
		if got := impl.TreeText(c.tree); got != c.text {
			t.Errorf("TreeText(%v) = %q", c.tree, got)
		}
		if got := mustTree(t, "ParseTree")(impl.ParseTree(c.text)); !sameTree(got, c.tree) {
			t.Errorf("ParseTree(%q) = %v", c.text, got)
		}
	}
}

// Promise 56: ParseTree of TreeText is the tree.
func TestTreesAreReadBack(t *testing.T) {
	read, roots := 0, 0
	for _, x := range append(goodTrees(), settingTrees()...) {
		text := impl.TreeText(x)
		if text != wantText(x) {
			t.Fatalf("TreeText(%v) = %q", x, text)
		}
		if text == "" {
			roots++
			continue
		}
		read++
		if y := mustTree(t, "ParseTree")(impl.ParseTree(text)); !sameTree(x, y) {
			t.Errorf("ParseTree(%q) = %v", text, y)
		}
	}
	if read < 200 || roots < 10 {
		t.Errorf("only %d trees with a text, %d without", read, roots)
	}
}

func TestAllLevelsOfTexts(t *testing.T) {
	for level := range impl.MaxLevel + 1 {
		x := impl.Tree{Quiet: level, Handlers: []impl.Handler{{Name: "h", Level: level}}, Loggers: []impl.Logger{{Level: level}}}
		if y := mustTree(t, "ParseTree")(impl.ParseTree(wantText(x))); !sameTree(x, y) || impl.TreeText(x) != wantText(x) {
			t.Errorf("TreeText(%v) = %q", x, impl.TreeText(x))
		}
	}
	for _, f := range allFilters() {
		x := impl.Tree{Handlers: []impl.Handler{{Name: "h", Filters: []impl.Filter{f, f}}}, Loggers: []impl.Logger{{Filters: []impl.Filter{f}}}}
		if y := mustTree(t, "ParseTree")(impl.ParseTree(wantText(x))); !sameTree(x, y) || impl.TreeText(x) != wantText(x) {
			t.Errorf("TreeText(%v) = %q", x, impl.TreeText(x))
		}
	}
}

func TestTreesWithoutText(t *testing.T) {
	for _, b := range badTrees() {
		if got := impl.TreeText(b.tree); got != "" {
			t.Errorf("TreeText with %s = %q", b.why, got)
		}
	}
	for i := range 7 {
		x := house()
		x.Loggers[i].Name = "root"
		if got := impl.TreeText(x); got != "" {
			t.Errorf("TreeText of a logger root at %d = %q", i, got)
		}
	}
}

// Promise 57: TreeText of ParseTree is the text.
func TestTextsOfTreesAreWrittenBack(t *testing.T) {
	r := rand.New(rand.NewSource(6))
	right, wrong := 0, 0
	for _, x := range settingTrees() {
		text := wantText(x)
		if text == "" {
			continue
		}
		for _, s := range nearTexts(text, r) {
			got, ok := impl.ParseTree(s)
			want, may := wantParsed(s)
			if ok != may || !sameTree(got, want) {
				t.Fatalf("ParseTree(%q) = %v, %v, not %v, %v", s, got, ok, want, may)
			}
			if !ok {
				wrong++
				continue
			}
			if s != text {
				right++
			}
			if impl.TreeText(got) != s {
				t.Errorf("TreeText(%v) = %q, not %q", got, impl.TreeText(got), s)
			}
		}
	}
	if right < 3000 || wrong < 20000 {
		t.Errorf("only %d other texts of trees, and %d of none", right, wrong)
	}
}

// small is a text of a tree, to which lines are added.
const small = "quiet 0\nhandler h 0 -\nhandler k 0 -\nlogger root 0 h,k - -\n"

func TestTextsThatAreNoTrees(t *testing.T) {
	mustTree(t, "ParseTree")(impl.ParseTree(small))
	root := "logger root 0 - - -\n"
	bad := []string{
		"", " ", "\n", "\n\n", "-", "-\n", "quiet", "quiet\n", "quiet 0", "quiet 0\n", "root\n", root,
		"quiet 0\n\n" + root, "quiet 0\n" + root + "\n", "\nquiet 0\n" + root, "quiet 0\nquiet 0\n" + root, "quiet 0\n" + root + "quiet 0\n", root + "quiet 0\n",
		"quiet 0\n" + root + root, "quiet 0\nlogger a 0 - - -\n", "quiet 0\nlogger a 0 - - -\n" + root, "quiet 0\nlogger  0 - - -\n", "quiet 0\nlogger 0 - - -\n",
		"quiet 0\nLogger root 0 - - -\n", "quiet 0\nlogger Root 0 - - -\n", "quiet 0 \n" + root, "quiet  0\n" + root, "quiet\t0\n" + root, " quiet 0\n" + root, "quiet 0 0\n" + root,
		"quiet 0\r\nlogger root 0 - - -\r\n", "quiet 0\nlogger root 0 - - -", "quiet 0\nlogger root 0 - - -\nx", "quiet 0\nlogger root 0 - -\n", "quiet 0\nlogger root 0 - - - -\n",
		"handler h 0 -\nquiet 0\n" + root, "quiet 0\n" + root + "handler h 0 -\n", "quiet 0\nother h 0 -\n" + root, "quiet 0\nhandler h 0\n" + root, "quiet 0\nhandler h 0 - -\n" + root,
		"quiet 0\nhandler h 0 -\nhandler h 0 -\n" + root, "quiet 0\nhandler last 0 -\n" + root, "quiet 0\nhandler a.b 0 -\n" + root, "quiet 0\nhandler  0 -\n" + root, "quiet 0\nhandler abcde 0 -\n" + root,
		small + "logger a 0 h - -\n" + "logger a 0 h - -\n", small + "logger root 0 - - -\n", small + "logger a.b.c.d.e 0 - - -\n", small + "logger abcde 0 - - -\n", small + "logger a. 0 - - -\n",
	}
	for _, n := range []string{"", "-", "-1", "+1", "00", "05", "61", "100", "1.0", "0x1", "1_0", "debug", "warn", "٣", "18446744073709551616", "18446744073709551617", "9223372036854775808", "-9223372036854775808"} {
		bad = append(bad, "quiet "+n+"\n"+root)
	}
	for _, level := range []string{"", "-", "-1", "+1", "00", "05", "10", "20", "30", "40", "50", "61", "Warn", "warning", "root", "0,0"} {
		bad = append(bad, "quiet 0\nlogger root "+level+" - - -\n", "quiet 0\nhandler h "+level+" -\n"+root)
	}
	for _, list := range []string{"", "x", "last", "h,h", "h,", ",h", ",", "h,,k", "h,x", "h,-", "-,h", "--", "h k", "H"} {
		bad = append(bad, small+"logger a 0 "+list+" - -\n")
	}
	for _, list := range []string{
		"", "x", ",", "--", "-,most=1", "most=1,", ",most=1", "most=1,,most=2", "most=1,-", "most=1,most=1,most=1,most=1", "most=1 most=1",
		"name", "name=", "=", "=a", "name=a=b", "name==a", "name=A", "name=5", "name=a..b", "name=a.b.c.d.e", "name=-", "Name=a", "names=a", "word", "word=", "word=a.b", "word=abcde", "word=1",
		"most", "most=", "most=0", "most=-1", "most=+1", "most=01", "most=61", "most=warn", "most=a", "most=1.0", "most=18446744073709551617", "raise", "raise=", "raise=0", "raise=-1", "raise=061", "raise=61", "raise=debug", "level=5", "last=a",
	} {
		bad = append(bad, small+"logger a 0 - "+list+" -\n", "quiet 0\nhandler h 0 "+list+"\n"+root)
	}
	for _, flags := range []string{"", "x", ",", "--", "off,stop", "stop,stop", "off,off", "stop,off,stop", "stop,", ",off", "stop,,off", "stop,-", "-,off", "Stop", "stop off", "on"} {
		bad = append(bad, small+"logger a 0 - - "+flags+"\n")
	}
	for _, s := range bad {
		mustFail(t, "ParseTree of "+s)(impl.ParseTree(s))
	}
	for _, name := range badNames() {
		mustFail(t, "ParseTree of the logger "+name)(impl.ParseTree(small + "logger " + name + " 0 - - -\n"))
		mustFail(t, "ParseTree of the handler "+name)(impl.ParseTree("quiet 0\nhandler " + name + " 0 -\n" + root))
	}
}

func TestTextsAtTheirLimits(t *testing.T) {
	text := "quiet 60\n"
	for i := range impl.MaxHandlers {
		text += "handler " + "abcdef"[i:i+1] + " 60 most=60,raise=60,name=abcd.abcd.abcd.abcd\n"
	}
	loggers := "logger root 60 a,b,c,d,e,f most=60,raise=60,name=abcd.abcd.abcd.abcd stop,off\n"
	for i := range impl.MaxLoggers - 1 {
		loggers += "logger abcd.abcd.abcd." + "abcdefgh"[i:i+1] + " 60 f,e,d,c,b,a word=abcd,raise=1,most=1 stop,off\n"
	}
	x := mustTree(t, "ParseTree")(impl.ParseTree(text + loggers))
	if impl.TreeText(x) != text+loggers || len(x.Handlers) != 6 || len(x.Loggers) != 8 {
		t.Errorf("ParseTree = %v", x)
	}
	mustFail(t, "ParseTree of seven handlers")(impl.ParseTree(text + "handler g 0 -\n" + loggers))
	mustFail(t, "ParseTree of nine loggers")(impl.ParseTree(text + loggers + "logger z 0 - - -\n"))
	mustFail(t, "ParseTree of many handlers")(impl.ParseTree("quiet 0\n" + strings.Repeat("handler h 0 -\n", 10000) + "logger root 0 - - -\n"))
	mustFail(t, "ParseTree of many loggers")(impl.ParseTree("quiet 0\n" + strings.Repeat("logger root 0 - - -\n", 10000)))
	mustFail(t, "ParseTree of many lines")(impl.ParseTree(strings.Repeat("\n", 100000)))
	mustFail(t, "ParseTree of a long line")(impl.ParseTree("quiet 0\nlogger root 0 " + strings.Repeat("h,", 100000) + "h - -\n"))
	mustFail(t, "ParseTree of many words")(impl.ParseTree("quiet" + strings.Repeat(" 0", 100000) + "\n"))
}
