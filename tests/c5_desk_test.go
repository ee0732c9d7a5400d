package tests

import (
	"math/rand"
	"regexp"
	"slices"
	"strings"
	"testing"

	"loop.example/loggertree/impl"
)

// deskShape is the shape of a line of a desk that is about something.
var deskShape = regexp.MustCompile(`\A(path|level|send|why) ((?s).*)\z`)

// askedName is the shape of a name that a line is about, also that of the root.
var askedName = regexp.MustCompile(`\A` + namePart + `?\z`)

// askedSend is the shape of a name and a level that a line is about.
var askedSend = regexp.MustCompile(`\A` + namePart + `? ` + levelPart + `\z`)

// wantAnswer returns the answer to a line about a valid tree, told in another way than the program: by shapes.
func wantAnswer(x impl.Tree, line string) string {
	parts := deskShape.FindStringSubmatch(line)
	if parts == nil {
		return "what"
	}
	word, rest, answer := parts[1], parts[2], ""
	name, send := askedName.MatchString(rest), askedSend.FindStringSubmatch(rest)
	switch {
	case word == "path" && name:
		for _, up := range wantPath(x, rest) {
			answer += up + ","
		}
		return answer[:len(answer)-1] + "root" // the last one is the root, of no name
	case word == "level" && name:
		level := 0
		for _, up := range wantPath(x, rest) {
			if level == 0 {
				level = ownLevel(x, up)
			}
		}
		return wantLevel(level)
	case word != "send" && word != "why" || send == nil || send[2] == "0":
		return "unknown"
	}
	sent, why := wantRoute(x, impl.Record{Name: send[1], Level: levelIn(send[2])})
	if word == "send" {
		for _, s := range sent {
			answer += "," + s.Handler
		}
		return orNone(answer)
	}
	for _, reason := range why {
		answer += "," + []string{"sent", "off", "quiet", "level", "filter", "low", "dropped"}[reason.Kind]
	}
	return orNone(answer)
}

// askLines are lines of all kinds about some names and levels, and lines that are of none.
func askLines() []string {
	var list []string
	for _, name := range []string{"", "a", "a.b", "a.b.c", "a.b.c.d", "a.bc", "ab", "b", "b.x.y", "c.d", "e", "root", "root.x", "z.a"} {
		list = append(list, "path "+name, "level "+name)
		for _, level := range []int{1, 10, 20, 29, 30, 45, impl.MaxLevel} {
			list = append(list, "send "+name+" "+wantLevel(level), "why "+name+" "+wantLevel(level))
		}
	}
	return append(list, "", " ", "path", "help", "path a b", "level A", "send a", "why a 0", "send a 30", "why a warn ")
}

// deskTexts are texts of trees, and some of none.
func deskTexts() []string {
	list := []string{"", "x", "quiet 0\n", wantText(bare()), houseText, officeText, wantText(full()), wantText(post()), houseText + "\n"}
	for _, x := range append(settingTrees()[42:82], routeTrees()[41:61]...) {
		list = append(list, wantText(x))
	}
	return list
}

// wantDesk returns RunDesk of no more lines than there may be, told in another way than the program.
func wantDesk(text string, lines []string) string {
	x, ok := wantParsed(text)
	answers := ""
	for _, line := range lines {
		if ok {
			answers += wantAnswer(x, line) + "\n"
		} else {
			answers += "wrong\n"
		}
	}
	return answers
}

// Promise 80: RunDesk has as many newlines as there are lines, and of the first lines it is the beginning of that of all.
func TestEachLineHasAnAnswer(t *testing.T) {
	r := rand.New(rand.NewSource(27))
	asks := askLines()
	for _, text := range deskTexts() {
		for n := range impl.MaxDesk + 1 {
			var lines []string
			for range n {
				lines = append(lines, asks[r.Intn(len(asks))])
			}
			got := impl.RunDesk(text, lines)
			if got != wantDesk(text, lines) {
				t.Fatalf("RunDesk(%q, %q) = %q, not %q", text, lines, got, wantDesk(text, lines))
			}
			if strings.Count(got, "\n") != n {
				t.Errorf("RunDesk(%q, %q) = %q", text, lines, got)
			}
			for k := range n {
				if first := impl.RunDesk(text, lines[:k]); !strings.HasPrefix(got, first) {
					t.Errorf("RunDesk(%q, %q) = %q", text, lines[:k], first)
				}
			}
		}
	}
}

func TestAllLinesOfDesks(t *testing.T) {
	told := map[string]int{}
	for _, text := range deskTexts() {
		for lines := range slices.Chunk(askLines(), impl.MaxDesk) {
			got := impl.RunDesk(text, lines)
			if got != wantDesk(text, lines) {
				t.Fatalf("RunDesk(%q, %q) = %q, not %q", text, lines, got, wantDesk(text, lines))
			}
			for _, word := range strings.FieldsFunc(got, func(c rune) bool { return c == ',' || c == '\n' }) {
				told[word]++
			}
		}
	}
	for _, word := range []string{"sent", "off", "quiet", "level", "filter", "low", "dropped", "-", "root", "last", "unknown", "what", "wrong", "debug", "warn", "0"} {
		if told[word] < 5 {
			t.Errorf("%s is told %d times only", word, told[word])
		}
	}
}

// answer checks the answer to one line.
func answer(t *testing.T, text, line, want string) {
	t.Helper()
	if got := impl.RunDesk(text, []string{line}); got != want+"\n" {
		t.Errorf("RunDesk of %.50q = %q, not %q", line, got, want)
	}
}

func TestAnswersAboutTheHouse(t *testing.T) {
	for line, want := range map[string]string{
		"path ": "root", "path a": "root", "path root": "root", "path a.b": "a.b,root", "path a.b.c.d": "a.b.c.d,a.b,root", "path b.x.y": "b.x,b,root", "path last": "root", "path ab": "ab,root",
		"level ": "warn", "level a": "warn", "level root": "warn", "level a.b": "debug", "level a.b.c.d": "debug", "level ab": "fatal", "level b.x": "info",
		"send a.b 10": "unknown", "send a.b debug": "h", "send a.b 9": "-", "why a.b debug": "low,sent,low,low", "why a.b 9": "level",
		"send a.b error": "h,out,out", "why a.b error": "low,sent,sent,sent", "send a.b 60": "a,h", "why a.b 60": "sent,sent,dropped,dropped",
		"send a.b.c.d fatal": "-", "why a.b.c.d fatal": "off", "why a.b.c.d 1": "off", "send a.b.c fatal": "h,out,out", "why a.b.c 5": "quiet", "why a.b.c 6": "level",
		"send  warn": "-", "why  warn": "dropped", "why  29": "level", "why  5": "quiet", "send root warn": "-", "why root warn": "low", "send root error": "out", "send z error": "out",
		"send b.x.y info": "h", "why b.x.y info": "sent", "send b.x.y 19": "-", "why b.x.y 19": "level", "why a.bc.x warn": "sent", "send a.bc.x warn": "last", "send a.bc.x 29": "-", "why a.bc.x 29": "level",
		"why a.bc fatal": "off", "why ab fatal": "sent", "send ab fatal": "out",
	} {
		answer(t, houseText, line, want)
	}
	answer(t, wantText(bare()), "send a 29", "-")
	answer(t, wantText(bare()), "why a 29", "low")
	answer(t, wantText(bare()), "send a warn", "last")
	answer(t, wantText(bare()), "why a warn", "sent")
	answer(t, wantText(bare()), "level a", "0")
	answer(t, wantText(post()), "why a.b debug", "level")
	answer(t, wantText(post()), "why a.b info", "low,sent,sent,sent,sent")
	answer(t, wantText(post()), "send a.b info", "most,up,drop,low")
	answer(t, "quiet 0\nlogger root 0 - name=a -\n", "why b warn", "sent") // the filters of the root are for its own records
	answer(t, "quiet 0\nlogger root 0 - name=a -\n", "why  warn", "filter")
	answer(t, "quiet 0\nlogger root 0 - - off\n", "why  warn", "off")
	answer(t, "quiet 0\nlogger root 0 - - off\n", "why root warn", "sent")
}

func TestLinesThatAskNothing(t *testing.T) {
	for _, word := range []string{"path", "level", "send", "why"} {
		answer(t, houseText, word, "what")
		for _, s := range []string{" ", "\t", "\n", "x", "-", "\x00"} {
			answer(t, houseText, s+word+" a warn", "what")
			if s != " " {
				answer(t, houseText, word+s, "what")
				answer(t, houseText, word+s+"a", "what")
				answer(t, houseText, word+s+" a warn", "what")
			}
		}
		answer(t, houseText, strings.ToUpper(word)+" a", "what")
		answer(t, houseText, word[1:]+" a", "what")
		for _, s := range []string{"a ", " a", "a b", "a,b", "a\n", "A", "a.", "abcde", "a.b.c.d.e", "é", "\xff", "  ", "a\u00a0warn", strings.Repeat("a.", 100000), strings.Repeat(" ", 100000)} {
			answer(t, houseText, word+" "+s, "unknown")
		}
		for _, name := range badNames() {
			answer(t, houseText, word+" "+name, "unknown")
		}
	}
	for _, line := range []string{"", " ", "  ", "\n", "help", "help a", "paths a", "pat a", "what", "wrong", "unknown", "root", "a", "a warn", "path,a", "send", strings.Repeat("x", 100000), strings.Repeat("path", 100000)} {
		answer(t, houseText, line, "what")
	}
	for _, word := range []string{"send ", "why "} {
		for _, level := range []string{"0", "-1", "61", "10", "20", "30", "40", "50", "01", "+1", "Warn", "warning", "", "warn ", " warn", "warn x", "warn\n", "1.0", "60 ", "1000", "root", "-"} {
			answer(t, houseText, word+"a.b "+level, "unknown")
		}
		for _, name := range append(badNames(), "a b", "a ", " ") {
			answer(t, houseText, word+name+" warn", "unknown")
		}
		for _, s := range []string{"", "a", "a.b", "warn", "a.b,warn", "a.b\twarn", "a.b=warn"} {
			answer(t, houseText, word+s, "unknown")
		}
	}
	for _, word := range []string{"path ", "level "} {
		for _, s := range []string{"a.b warn", "warn a", "0", "10", "-", "a.b ", " warn"} {
			answer(t, houseText, word+s, "unknown")
		}
	}
}

func TestDesksOfNoTree(t *testing.T) {
	bad := []string{"", "x", "quiet 0\n", "quiet 0\nlogger root 30 - - -\n", "quiet 0\nlogger root 0 - - -", "logger root 0 - - -\n", "quiet 0\nlogger root 0 - - -\nlogger root 0 - - -\n"}
	for _, text := range bad {
		for _, line := range askLines() {
			answer(t, text, line, "wrong")
		}
		if got := impl.RunDesk(text, nil); got != "" {
			t.Errorf("RunDesk of no lines = %q", got)
		}
	}
}

func TestDesksOfManyLines(t *testing.T) {
	for _, text := range []string{houseText, "x"} {
		for n := range 25 {
			for _, line := range []string{"path a", "", "help", "path A"} {
				got := impl.RunDesk(text, slices.Repeat([]string{line}, n))
				want := strings.Repeat(impl.RunDesk(text, []string{line}), n)
				if n > 20 {
					want = ""
				}
				if got != want {
					t.Errorf("RunDesk of %d lines %q = %q", n, line, got)
				}
			}
		}
	}
	if got := impl.RunDesk(houseText, make([]string, 100000)); got != "" {
		t.Errorf("RunDesk of many lines = %.100q", got)
	}
}
