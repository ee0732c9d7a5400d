package impl

import (
	"slices"
	"strings"
)

// MaxWord is the largest number of letters of a word.
const MaxWord = 4

// MaxParts is the largest number of words of a name.
const MaxParts = 4

// MaxLevel is the greatest level.
const MaxLevel = 60

// MaxFilters is the largest number of filters of a logger or a handler.
const MaxFilters = 3

// MaxHandlers is the largest number of handlers.
const MaxHandlers = 6

// MaxLoggers is the largest number of loggers.
const MaxLoggers = 8

// LastName is the name of the handler of the last resort.
const LastName = "last"

// FiName is a kind of filter: records of a branch pass.
const FiName = 0

// FiMost is a kind of filter: records of at most a level pass.
const FiMost = 1

// FiWord is a kind of filter: records with a word do not pass.
const FiWord = 2

// FiRaise is a kind of filter: records get at least a level.
const FiRaise = 3

// Filter lets records pass or not, or changes them.
type Filter struct {
	Kind int
	Name string
	N    int
}

// Handler takes records: its name, the least level, and filters.
type Handler struct {
	Name    string
	Level   int
	Filters []Filter
}

// Logger gives records to handlers: its name, its level, 0 for none, the handlers, filters, whether it does not give records to loggers above it, and whether it is off.
type Logger struct {
	Name     string
	Level    int
	Handlers []string
	Filters  []Filter
	Stop     bool
	Off      bool
}

// Tree is loggers and handlers, and the greatest level that no logger takes.
type Tree struct {
	Loggers  []Logger
	Handlers []Handler
	Quiet    int
}

// node is a logger that hangs at the one above it, the root at none.
type node struct {
	logger *Logger
	up     *node
}

// ValidName reports whether a text is a name.
func ValidName(s string) bool {
	_, ok := wordsOf(s)
	return ok
}

// PartsOf returns the words of a name.
func PartsOf(name string) []string {
	words, _ := wordsOf(name)
	return words
}

// wordsOf returns the words of a name, and whether the text is one.
func wordsOf(s string) ([]string, bool) {
	if s == "" {
		return nil, true
	}
	var words []string
	for len(words) < MaxParts {
		n := wordLength(s)
		if n == 0 {
			return nil, false
		}
		words = append(words, s[:n])
		if n == len(s) {
			return words, true
		}
		s = s[n+1:]
	}
	return nil, false
}

// wordLength returns the length of the word ahead of the first point of a text, 0 if there is no word.
func wordLength(s string) int {
	length := 0
letters:
	for i, c := range s {
		switch {
		case c == '.':
			break letters
		case c < 'a' || c > 'z' || i == MaxWord:
			return 0
		}
		length++
	}
	return length
}

// isWord reports whether a text is a name of one word.
func isWord(s string) bool {
	return s != "" && wordLength(s) == len(s)
}

// above returns a name without its last word.
func above(name string) string {
	return name[:max(0, strings.LastIndexByte(name, '.'))]
}

// IsBelow reports whether a name is another one, or below it.
func IsBelow(a string, b string) bool {
	return ValidName(a) && ValidName(b) && inBranch(a, b)
}

// inBranch is IsBelow of two texts that are known to be names.
func inBranch(a string, b string) bool {
	// The point keeps ab out of the branch of a.
	return b == "" || a == b || strings.HasPrefix(a, b+".")
}

// CommonName returns the name with which two names begin.
func CommonName(a string, b string) string {
	if !ValidName(a) || !ValidName(b) {
		return ""
	}
	common := b
	for !inBranch(a, common) {
		common = above(common)
	}
	return common
}

// ValidTree reports whether a tree is valid.
func ValidTree(t Tree) bool {
	return isLevel(t.Quiet) && validHandlers(t.Handlers) && validLoggers(t)
}

// isLevel reports whether a number is a level, or 0 for none.
func isLevel(n int) bool {
	return n >= 0 && n <= MaxLevel
}

// validHandlers reports whether a tree may have the handlers.
func validHandlers(list []Handler) bool {
	if len(list) > MaxHandlers {
		return false
	}
	seen := map[string]bool{}
	for _, h := range list {
		if !isWord(h.Name) || h.Name == LastName || seen[h.Name] {
			return false
		}
		if !isLevel(h.Level) || !ValidFilters(h.Filters) {
			return false
		}
		seen[h.Name] = true
	}
	return true
}

// validLoggers reports whether a tree of valid handlers may have its loggers.
func validLoggers(t Tree) bool {
	if len(t.Loggers) == 0 || len(t.Loggers) > MaxLoggers || t.Loggers[0].Name != "" {
		return false
	}
	seen := map[string]bool{}
	for _, l := range t.Loggers {
		if !ValidName(l.Name) || seen[l.Name] || !isLevel(l.Level) {
			return false
		}
		if !ValidFilters(l.Filters) || !differentHandlers(l.Handlers, t.Handlers) {
			return false
		}
		seen[l.Name] = true
	}
	return true
}

// differentHandlers reports whether names are different ones of handlers.
func differentHandlers(names []string, handlers []Handler) bool {
	left := map[string]bool{}
	for _, h := range handlers {
		left[h.Name] = true
	}
	for _, name := range names {
		if !left[name] {
			return false
		}
		left[name] = false
	}
	return true
}

// ValidFilters reports whether filters are valid.
func ValidFilters(list []Filter) bool {
	if len(list) > MaxFilters {
		return false
	}
	for _, f := range list {
		if !validFilter(f) {
			return false
		}
	}
	return true
}

// validFilter reports whether a filter is of a kind, and has what this takes and nothing else.
func validFilter(f Filter) bool {
	switch f.Kind {
	case FiName:
		return f.Name != "" && ValidName(f.Name) && f.N == 0
	case FiWord:
		return isWord(f.Name) && f.N == 0
	case FiMost, FiRaise:
		return f.Name == "" && f.N >= 1 && f.N <= MaxLevel
	}
	return false
}

// LoggerAt returns the logger of a name.
func LoggerAt(t Tree, name string) int {
	if !ValidTree(t) {
		return -1
	}
	return slices.IndexFunc(t.Loggers, func(l Logger) bool { return l.Name == name })
}

// hang returns the nodes of the loggers of a valid tree, by their names.
func hang(t Tree) map[string]*node {
	nodes := map[string]*node{}
	for i := range t.Loggers {
		l := &t.Loggers[i]
		nodes[l.Name] = &node{logger: l}
	}
	for name, n := range nodes {
		if name != "" {
			n.up = nearest(nodes, above(name))
		}
	}
	return nodes
}

// nearest returns the node of the name, or of the longest name above it, at last of the root.
func nearest(nodes map[string]*node, name string) *node {
	for nodes[name] == nil {
		name = above(name)
	}
	return nodes[name]
}

// nearestNode returns the node of the nearest logger to a name, nil for a tree or a name that is not valid.
func nearestNode(t Tree, name string) *node {
	if !ValidTree(t) || !ValidName(name) {
		return nil
	}
	return nearest(hang(t), name)
}

// NearestTo returns the logger that a name is, or is below.
func NearestTo(t Tree, name string) string {
	n := nearestNode(t, name)
	if n == nil {
		return ""
	}
	return n.logger.Name
}

// PathOf returns the loggers from a name up to the root.
func PathOf(t Tree, name string) []string {
	var path []string
	for n := nearestNode(t, name); n != nil; n = n.up {
		path = append(path, n.logger.Name)
	}
	return path
}

// ParentOf returns the logger above a logger.
func ParentOf(t Tree, name string) (string, bool) {
	n := nearestNode(t, name)
	if n == nil || n.logger.Name != name || n.up == nil {
		return "", false
	}
	return n.up.logger.Name, true
}

// ChildrenOf returns the loggers right below a logger.
func ChildrenOf(t Tree, name string) []string {
	if !ValidTree(t) {
		return nil
	}
	nodes := hang(t)
	var children []string
	for _, l := range t.Loggers {
		up := nodes[l.Name].up
		if up != nil && up.logger.Name == name {
			children = append(children, l.Name)
		}
	}
	return children
}

// BranchOf returns the loggers below a name.
func BranchOf(t Tree, name string) []string {
	if !ValidTree(t) || !ValidName(name) {
		return nil
	}
	var branch []string
	for _, l := range t.Loggers {
		if inBranch(l.Name, name) {
			branch = append(branch, l.Name)
		}
	}
	return branch
}

// EffectiveLevel returns the level that counts for a name.
func EffectiveLevel(t Tree, name string) int {
	n := nearestNode(t, name)
	if n == nil {
		return -1
	}
	return n.level()
}

// level returns the level of the node, inherited if it has none of its own.
func (n *node) level() int {
	for n.logger.Level == 0 && n.up != nil {
		n = n.up
	}
	return n.logger.Level
}

// IsEnabled reports whether a logger takes records of a level.
func IsEnabled(t Tree, name string, level int) bool {
	n := nearestNode(t, name)
	if n == nil || level < 1 || level > MaxLevel {
		return false
	}
	// Off is not inherited: it does not count for names below the logger.
	if n.logger.Name == name && n.logger.Off {
		return false
	}
	return level > t.Quiet && level >= n.level()
}

// freshList returns a list in memory of its own, also if it is empty.
func freshList[T any](list []T) []T {
	return append([]T(nil), list...)
}

// copyTree returns a tree in memory of its own.
func copyTree(t Tree) Tree {
	t.Loggers = freshList(t.Loggers)
	for i := range t.Loggers {
		l := &t.Loggers[i]
		l.Handlers = freshList(l.Handlers)
		l.Filters = freshList(l.Filters)
	}
	t.Handlers = freshList(t.Handlers)
	for i := range t.Handlers {
		h := &t.Handlers[i]
		h.Filters = freshList(h.Filters)
	}
	return t
}

// changedTree returns a copy of a valid tree that was changed, and true; false if the change fails, or the copy is not valid then.
func changedTree(t Tree, change func(c *Tree) bool) (Tree, bool) {
	if !ValidTree(t) {
		return Tree{}, false
	}
	c := copyTree(t)
	if !change(&c) || !ValidTree(c) {
		return Tree{}, false
	}
	return c, true
}

// changedLogger is changedTree for a change of the logger of a name, and fails if there is none.
func changedLogger(t Tree, name string, change func(l *Logger)) (Tree, bool) {
	at := LoggerAt(t, name)
	if at < 0 {
		return Tree{}, false
	}
	return changedTree(t, func(c *Tree) bool {
		change(&c.Loggers[at])
		return true
	})
}

// AddLogger returns a tree with a logger.
func AddLogger(t Tree, name string) (Tree, bool) {
	return changedTree(t, func(c *Tree) bool {
		if LoggerAt(t, name) < 0 {
			c.Loggers = append(c.Loggers, Logger{Name: name})
		}
		return true
	})
}

// DropLogger returns a tree without a logger.
func DropLogger(t Tree, name string) (Tree, bool) {
	at := LoggerAt(t, name)
	if at <= 0 { // the root is the first one
		return Tree{}, false
	}
	return changedTree(t, func(c *Tree) bool {
		c.Loggers = slices.Delete(c.Loggers, at, at+1)
		return true
	})
}

// SetLevel returns a tree with another level of a logger.
func SetLevel(t Tree, name string, level int) (Tree, bool) {
	return changedLogger(t, name, func(l *Logger) { l.Level = level })
}

// SetStop returns a tree with a logger that gives records to those above it, or not.
func SetStop(t Tree, name string, stop bool) (Tree, bool) {
	return changedLogger(t, name, func(l *Logger) { l.Stop = stop })
}

// SetOff returns a tree with a logger that is off, or not.
func SetOff(t Tree, name string, off bool) (Tree, bool) {
	return changedLogger(t, name, func(l *Logger) { l.Off = off })
}

// SetQuiet returns a tree with another level that no logger takes.
func SetQuiet(t Tree, level int) (Tree, bool) {
	return changedTree(t, func(c *Tree) bool {
		c.Quiet = level
		return true
	})
}

// MoveBranch returns a tree with a branch at another name.
func MoveBranch(t Tree, from string, to string) (Tree, bool) {
	if from == "" || to == "" || !ValidName(from) || !ValidName(to) {
		return Tree{}, false
	}
	return changedTree(t, func(c *Tree) bool {
		moved := false
		for i := range c.Loggers {
			l := &c.Loggers[i]
			if inBranch(l.Name, from) {
				l.Name = to + l.Name[len(from):]
				moved = true
			}
		}
		return moved
	})
}
