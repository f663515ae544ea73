package tests

import (
	"fmt"
	"math"
	"regexp"
	"slices"
	"strconv"
	"strings"
	"testing"

	"loop.example/g00327/impl"
)

// eventForm is what the lines of a kind of event look like: N is a number, M any one of several, K a key or a name, and W a text.
func eventForm(form string) *regexp.Regexp {
	const number = "0|[1-9][0-9]{0,8}|1000000000"
	form = strings.ReplaceAll(form, " ", " +")
	form = strings.ReplaceAll(form, "N", "("+number+")")
	form = strings.ReplaceAll(form, "M", "(?:"+number+")")
	form = strings.ReplaceAll(form, "K", "([!-~]{1,6})")
	return regexp.MustCompile("^ *" + strings.ReplaceAll(form, "W", "([!-~]{1,20})") + " *$")
}

// eventForms stand at the numbers of the kinds. A fall has at most eight KEEP: more do not fit into ten parts.
var eventForms = []*regexp.Regexp{
	nil, eventForm("begin"), eventForm("get N K"), eventForm("scan N K W"), eventForm("put N K W"), eventForm("delete N K"), eventForm("commit N"),
	eventForm("abort N"), eventForm("prepare N K"), eventForm("yes K"), eventForm("no K"), eventForm("fix"), eventForm("fall (M(?: M){0,8})"),
}

var (
	passedForm = regexp.MustCompile("^ *(#.*)?$")
	plainForm  = regexp.MustCompile("^[ -~]*$")
	partForm   = regexp.MustCompile("[^ ]+")
)

// lineOf is what a line of a script is: one that is passed over, or an event, or else (false) a fault.
func lineOf(line string) (e impl.Event, passed, ok bool) {
	if len(line) > 600 || !plainForm.MatchString(line) || len(partForm.FindAllString(line, -1)) > 10 {
		return e, false, false
	}
	if passedForm.MatchString(line) {
		return e, true, true
	}
	for kind, form := range eventForms {
		if kind == 0 || !form.MatchString(line) {
			continue
		}
		return ev(strings.Join(append([]string{eventWords[kind]}, form.FindStringSubmatch(line)[1:]...), " ")), false, true
	}
	return e, false, false
}

// scriptOf is the document's sentence.
func scriptOf(s string) ([]impl.Event, int) {
	if len(s) > 2500 {
		return nil, -1
	}
	var events []impl.Event
	for at, rest, more := 1, s, len(s) > 0; more; at++ {
		var line string
		line, rest, _ = strings.Cut(rest, "\n")
		more = len(rest) > 0
		e, passed, ok := lineOf(line)
		if !ok || !passed && len(events) == 90 {
			return nil, at
		}
		if !passed {
			events = append(events, e)
		}
	}
	return events, 0
}

// checkReads ends the test with the first wrong answer, as all below do, since it is asked of very many.
func checkReads(t *testing.T, what, s string, want []impl.Event, line int) {
	t.Helper()
	got, fault := impl.ReadScript(s)
	if fault != line || !slices.EqualFunc(got, want, sameEvent) {
		t.Fatalf("%s: ReadScript(%.300q) is %+v, %d; want %+v, %d", what, s, got, fault, want, line)
	}
}

func checkTold(t *testing.T, what, s, want string) {
	t.Helper()
	if got := impl.Console(s); got != want {
		t.Fatalf("%s: Console(%.300q) is %q; want %q", what, s, got, want)
	}
}

// checkScript holds a script against the document's sentences, and answers what is read.
func checkScript(t *testing.T, what, s string) ([]impl.Event, int) {
	t.Helper()
	events, line := scriptOf(s)
	checkReads(t, what, s, events, line)
	if line != 0 {
		checkTold(t, what, s, fmt.Sprintf("fault %d\n", line))
		return events, line
	}
	w, ok := impl.RunWorld(events)
	checkAnswer(t, what+": what is read is run", ok, true)
	checkTold(t, what, s, impl.ShowWorld(w))
	return events, line
}

// checkEventsRead tells whether a script is these events, each told as ev takes it.
func checkEventsRead(t *testing.T, what, s string, lines ...string) {
	t.Helper()
	checkReads(t, what, s, evs(lines...), 0)
	checkScript(t, what, s)
}

func checkFault(t *testing.T, what, s string, line int) {
	t.Helper()
	checkReads(t, what, s, nil, line)
	checkTold(t, what, s, "fault "+strconv.Itoa(line)+"\n")
	checkScript(t, what, s)
}

// checkLine asks for one line alone, and for one between others.
func checkLine(t *testing.T, what, line string, want impl.Event) {
	t.Helper()
	for _, s := range []string{line, line + "\n", "\n" + line, "# one\n" + line + "\n\n# two\n"} {
		checkReads(t, what, s, []impl.Event{want}, 0)
		checkScript(t, what, s)
	}
	checkReads(t, what, "begin\n"+line+"\nfix\n", []impl.Event{{Kind: 1}, want, {Kind: 11}}, 0)
	checkScript(t, what, "begin\n"+line+"\nfix\n")
}

func checkLineFault(t *testing.T, what, line string) {
	t.Helper()
	for at, s := range []string{line, "\n" + line, "begin\n\n" + line + "\n", "#\n \nbegin\n" + line + "\nfix\n"} {
		checkFault(t, what, s, at+1)
	}
}

// scripted is a script, and the lines that must be told of it.
func scripted(t *testing.T, script []string, want ...string) {
	t.Helper()
	for _, s := range []string{strings.Join(script, "\n"), strings.Join(script, "\n") + "\n"} {
		checkTold(t, script[0]+" ..", s, strings.Join(want, "\n")+"\n")
		checkScript(t, script[0]+" ..", s)
	}
}

// Behind this script there is one of each kind, of which most are refused: nobody is open.
const everyWord = "begin\nget 1 ab\nscan 2 a b\nput 3 c word\ndelete 4 d\ncommit 5\nabort 6\nprepare 7 p\nyes q\nno r\nfix\nfall 8 9 10\n"

func TestScriptLimits(t *testing.T) {
	if impl.MaxScript != 2500 || impl.MaxEvents != 90 || impl.MaxParts != 10 || impl.MaxWords != 600 {
		t.Error("a limit is another one")
	}
}

func TestReadScriptOfEachWord(t *testing.T) {
	for line, want := range map[string]impl.Event{
		"begin":              {Kind: 1},
		"get 1 ab":           {Kind: 2, At: 1, Key: "ab"},
		"scan 2 a b":         {Kind: 3, At: 2, Key: "a", Text: "b"},
		"scan 2 b a":         {Kind: 3, At: 2, Key: "b", Text: "a"},
		"put 3 c word":       {Kind: 4, At: 3, Key: "c", Text: "word"},
		"delete 4 d":         {Kind: 5, At: 4, Key: "d"},
		"commit 5":           {Kind: 6, At: 5},
		"abort 6":            {Kind: 7, At: 6},
		"prepare 7 p":        {Kind: 8, At: 7, Key: "p"},
		"yes q":              {Kind: 9, Key: "q"},
		"no r":               {Kind: 10, Key: "r"},
		"yes 1":              {Kind: 9, Key: "1"},
		"no -1":              {Kind: 10, Key: "-1"},
		"fix":                {Kind: 11},
		"fall 8":             {Kind: 12, At: 8},
		"fall 8 9 10":        {Kind: 12, At: 8, Keep: []int{9, 10}},
		"get 10 1":           {Kind: 2, At: 10, Key: "1"},
		"put 1 get begin":    {Kind: 4, At: 1, Key: "get", Text: "begin"},
		"put 1 A -1":         {Kind: 4, At: 1, Key: "A", Text: "-1"},
		"put 1 = ,":          {Kind: 4, At: 1, Key: "=", Text: ","},
		"scan 1 a zzz":       {Kind: 3, At: 1, Key: "a", Text: "zzz"},
		"scan 1 a abcdefghi": {Kind: 3, At: 1, Key: "a", Text: "abcdefghi"},
	} {
		checkLine(t, line, line, want)
		checkLine(t, "blanks at the ends", "  "+line+"   ", want)
		checkLine(t, "blanks between", strings.ReplaceAll(line, " ", "     "), want)
		checkLine(t, "blanks everywhere", " "+strings.ReplaceAll(line, " ", "  ")+" ", want)
		checkLine(t, "a line of 600 bytes", line+strings.Repeat(" ", 600-len(line)), want)
		checkLineFault(t, "a line of 601 bytes", line+strings.Repeat(" ", 601-len(line)))
	}
	checkReads(t, "every word", everyWord, []impl.Event{
		{Kind: 1}, {Kind: 2, At: 1, Key: "ab"}, {Kind: 3, At: 2, Key: "a", Text: "b"}, {Kind: 4, At: 3, Key: "c", Text: "word"}, {Kind: 5, At: 4, Key: "d"}, {Kind: 6, At: 5},
		{Kind: 7, At: 6}, {Kind: 8, At: 7, Key: "p"}, {Kind: 9, Key: "q"}, {Kind: 10, Key: "r"}, {Kind: 11}, {Kind: 12, At: 8, Keep: []int{9, 10}},
	}, 0)
	checkTold(t, "every word", everyWord, "0 1\n0 -\n1 .\n1 .\n1 .\n1 .\n1 .\n1 .\n1 .\n1 .\n0 .\n0 .\ncs 0 open 0 ready 0\n")
	checkScript(t, "every word", everyWord)
}

func TestConsoleTellsLives(t *testing.T) {
	scripted(t, []string{"begin", "put 1 a x", "", "commit 1"}, "0 1", "0 .", "0 .", "cs 1 open 0 ready 0", "a=78")
	scripted(t, []string{"# nothing at all", "", " "}, "cs 0 open 0 ready 0")
	scripted(t, []string{"begin"}, "0 1", "cs 0 open 1 ready 0")
	scripted(t, []string{"fix"}, "0 .", "cs 0 open 0 ready 0")
	scripted(t, []string{"fall 0"}, "0 .", "cs 0 open 0 ready 0")
	scripted(t, []string{"get 0 a"}, "1 .", "cs 0 open 0 ready 0")
	scripted(t, []string{
		"# two that read what the other one writes", "begin", "begin", "get 1 b", "scan 2 a c", "put 1 a one", "put 2 b two", "commit 1", "commit 2",
	}, "0 1", "0 2", "0 -", "0 .", "0 .", "0 .", "0 .", "5 .", "cs 1 open 0 ready 0", "a=6f6e65")
	scripted(t, []string{
		"begin", "begin", "put 1 a 1", "put 2 a 2", "# the first one is through", "commit 1", "# so the second one is late", "commit 2", "begin", "get 3 a", "delete 3 a", "get 3 a", "scan 3 a zzz",
	}, "0 1", "0 2", "0 .", "0 .", "0 .", "4 .", "0 3", "0 1", "0 .", "0 -", "0 .", "cs 1 open 1 ready 0", "a=31")
	scripted(t, []string{
		"begin", "put 1 b 2", "put 1 a 1", "scan 1 a b", "prepare 1 p", "begin", "scan 2 a b", "abort 2", "fall 3 1 0 1", "get 1 a", "yes p", "begin", "scan 2 a b", "no p",
	}, "0 1", "0 .", "0 .", "0 a=1,b=2", "0 .", "0 2", "0 .", "0 .", "0 .", "1 .", "0 .", "0 2", "0 a=1,b=2", "1 .", "cs 1 open 1 ready 0", "a=31", "b=32")
	scripted(t, []string{
		"begin", "put 1 a x", "prepare 1 p", "begin", "prepare 2 q", "no p", "fix", "put 2 a x", "begin", "put 4 aa a.b,c=d", "get 4 aa", "commit 4", "put 3 zzz #", "commit 3",
	}, "0 1", "0 .", "0 .", "0 2", "0 .", "0 .", "0 .", "1 .", "0 3", "1 .", "1 .", "1 .", "0 .", "0 .", "cs 1 open 0 ready 1", "zzz=23")
	scripted(t, []string{"begin", "put 1 A x", "put 1 abcdef x", "put 1 a " + strings.Repeat("v", 13), "prepare 1 P", "get 1 Z", "scan 1 b a"},
		"0 1", "2 .", "2 .", "2 .", "2 .", "2 .", "2 .", "cs 0 open 1 ready 0")
}

// passedLines say nothing to the store.
func passedLines() []string {
	return []string{"", " ", "   ", strings.Repeat(" ", 600), "#", "##", "# a remark", "#remark", "  #  indented", "#begin", "# begin", "#commit 1", "# get 1 2 3 4 5 6 7 8", "#\"!~", "#" + strings.Repeat("=", 599)}
}

func TestLinesThatArePassedOver(t *testing.T) {
	lines := []string{"begin", "put 1 a x", "commit 1"}
	const want = "0 1\n0 .\n0 .\ncs 1 open 0 ready 0\na=78\n"
	for _, passed := range passedLines() {
		for at := range len(lines) + 1 {
			script := slices.Insert(slices.Clone(lines), at, passed)
			for _, s := range []string{strings.Join(script, "\n"), strings.Join(script, "\n") + "\n"} {
				checkEventsRead(t, "passed over", s, lines...)
				checkTold(t, "passed over", s, want)
			}
			twice := slices.Insert(slices.Clone(script), at, passed, "")
			checkEventsRead(t, "passed over more than once", strings.Join(twice, "\n"), lines...)
			checkFault(t, "counted, though passed over", strings.Join(append(twice, "what"), "\n"), 7)
			checkFault(t, "counted, though passed over", strings.Join(slices.Insert(slices.Clone(twice), at+3, "what"), "\n"), at+4)
		}
		checkEventsRead(t, "nothing else", passed)
		checkEventsRead(t, "nothing else", passed+"\n"+passed)
		checkFault(t, "a fault behind it", passed+"\n?", 2)
		checkFault(t, "a fault ahead of it", "?\n"+passed, 1)
	}
}

func TestRemarks(t *testing.T) {
	for _, line := range []string{"#" + strings.Repeat("r", 599), "# " + strings.Repeat("r", 598), strings.Repeat(" ", 599) + "#", "#" + strings.Repeat(" ", 599), "# 2 3 4 5 6 7 8 9 10", " #1  2  3  4  5  6  7  8  9  10  ", "# begin", "#!", "#~", "# # #"} {
		checkEventsRead(t, "a remark", "begin\n"+line+"\nfix", "begin", "fix")
		checkEventsRead(t, "a remark alone", line)
	}
	// What PartsOf refuses is a fault, a remark or not.
	for _, line := range []string{"#" + strings.Repeat("r", 600), strings.Repeat(" ", 600) + "#", "#" + strings.Repeat(" ", 600), "# 2 3 4 5 6 7 8 9 10 11", "#\t", "\t#", "# \x7f", "#\r", "# ä", "#\x00", strings.Repeat(" ", 601)} {
		checkLineFault(t, "a remark that is refused", line)
	}
	for line, want := range map[string]impl.Event{
		"get 1 #":         {Kind: 2, At: 1, Key: "#"},
		"get 1 a#":        {Kind: 2, At: 1, Key: "a#"},
		"put 1 #a #b":     {Kind: 4, At: 1, Key: "#a", Text: "#b"},
		"scan 1 # ##":     {Kind: 3, At: 1, Key: "#", Text: "##"},
		"yes #p":          {Kind: 9, Key: "#p"},
		"prepare 1 #":     {Kind: 8, At: 1, Key: "#"},
		"no #":            {Kind: 10, Key: "#"},
		"delete 0 #begin": {Kind: 5, Key: "#begin"},
	} {
		checkLine(t, "further on it is no remark", line, want)
	}
	for _, line := range []string{"begin #", "begin # a remark", "begin#", "fix #", "fix#", "commit 1 #", "commit #", "commit 1#", "commit #1", "fall 1 #", "fall #", "get 1 a #b", "put 1 a b # c", "a#", "a #", "!#", "yes p #"} {
		checkLineFault(t, "further on it is no remark", line)
	}
}

func TestScriptEnds(t *testing.T) {
	for _, s := range []string{"", "\n", "\n\n", "\n\n\n", " ", " \n", "\n ", "#", "#\n"} {
		checkEventsRead(t, "no event", s)
		checkTold(t, "no event", s, "cs 0 open 0 ready 0\n")
	}
	for _, s := range []string{"begin", "begin\n", "\nbegin", "\nbegin\n", "begin\n\n\n", "\n\n\nbegin", "begin\n "} {
		checkEventsRead(t, "one event", s, "begin")
		checkTold(t, "one event", s, "0 1\ncs 0 open 1 ready 0\n")
	}
	checkEventsRead(t, "two events", "begin\nfix", "begin", "fix")
	checkEventsRead(t, "two events", "begin\nfix\n", "begin", "fix")
	for s, line := range map[string]int{"x": 1, "x\n": 1, "x\n\n": 1, "\nx": 2, "\nx\n": 2, "begin\nx": 2, "begin\nx\n": 2, "begin\n\n\nx": 4, "begin fix": 1, "beginfix": 1, "begin\nfix begin": 2} {
		checkFault(t, "a fault", s, line)
	}
	// The byte 10 alone ends a line.
	for _, s := range []string{"begin\r\n", "begin\r", "begin\rfix", "begin\x00", "begin\x0b", "begin\x0c", "begin\u0085", "begin\u2028", "begin\\n"} {
		checkFault(t, "another end", s, 1)
	}
}

// longScript has s ahead, and lines behind it that are passed over, up to n bytes.
func longScript(s string, n int, filler string) string {
	return (s + strings.Repeat(filler, n))[:n]
}

func TestScriptsOfMaxScriptBytes(t *testing.T) {
	for _, filler := range []string{"\n", " \n", "#\n", strings.Repeat(" ", 600) + "\n", "# " + strings.Repeat("remark ", 8) + "\n", "\n#"} {
		for _, n := range []int{2498, 2499, 2500} {
			checkEventsRead(t, "long", longScript("begin\nfix\n", n, filler), "begin", "fix")
			checkEventsRead(t, "long, of nothing", longScript("", n, filler))
			checkFault(t, "long, with a fault", longScript("begin\nwhat\n", n, filler), 2)
		}
		for _, n := range []int{2501, 2502, 3000, 100000} {
			checkFault(t, "too long", longScript("begin\nfix\n", n, filler), -1)
			checkFault(t, "too long, of nothing", longScript("", n, filler), -1)
			checkFault(t, "too long, with a fault", longScript("what\n", n, filler), -1)
			checkFault(t, "too long, with a byte", longScript("\x00\n", n, filler), -1)
		}
	}
	whole := longScript("", 2494, "\n")
	checkEventsRead(t, "the last bytes", whole+"begin\n", "begin")
	checkEventsRead(t, "the last bytes", whole+"\nbegin", "begin")
	checkFault(t, "the last bytes are a fault", whole+"begins", 2495)
	checkFault(t, "a byte more", whole+"\nbegin\n", -1)
	checkFault(t, "a byte more", whole+"\nbegin ", -1)
	checkFault(t, "bytes that are none, and one more", strings.Repeat("\xff", 2501), -1)
	checkFault(t, "bytes that are none", strings.Repeat("\xff", 2500), 1)
	checkFault(t, "one line", strings.Repeat("#", 2500), 1)
	checkFault(t, "very long", strings.Repeat("begin\n", 300000), -1)
	checkFault(t, "letters of two bytes", strings.Repeat("ä", 1251), -1)
	checkFault(t, "letters of two bytes", strings.Repeat("ä", 1250), 1)
	// As many lines as there may be events take all of it.
	checkScript(t, "long lines", strings.Repeat("put 1 a "+strings.Repeat("x", 18)+"\n", 90))
	checkScript(t, "long lines", strings.Repeat("put 1 a "+strings.Repeat("x", 18)+"\n", 92))
}

func TestScriptsOfMaxEvents(t *testing.T) {
	for _, line := range []string{"begin", "fix", "get 1 a", "fall 1", "put 1 a x", "yes p"} {
		for _, between := range []string{"\n", "\n\n", "\n#\n", "\n \n\n"} {
			many := func(n int) string { return strings.Repeat(line+between, n) }
			lines := strings.Count(between, "\n")
			for _, n := range []int{1, 89, 90} {
				checkReads(t, "so many", many(n), slices.Repeat(evs(line), n), 0)
				checkScript(t, "so many", many(n))
				checkScript(t, "so many, the last without a byte 10", strings.TrimRight(many(n), " \n#"))
			}
			checkFault(t, "one more", many(91), 90*lines+1)
			checkFault(t, "two more", many(92), 90*lines+1)
			checkFault(t, "one more, the last without a byte 10", many(90)+line, 90*lines+1)
			checkFault(t, "another one more", many(90)+"begin", 90*lines+1)
			checkScript(t, "what is passed over, behind all of them", many(90)+"\n# that is all\n\n")
			checkFault(t, "a fault behind all of them", many(90)+"\n\nwhat", 90*lines+3)
			checkFault(t, "a refused line behind all of them", many(90)+"\x01", 90*lines+1)
			checkFault(t, "one more, ahead of a fault", many(91)+"what", 90*lines+1)
			checkFault(t, "a fault ahead of one more", many(89)+"what\n"+many(2), 89*lines+1)
			checkFault(t, "a fault, then one more", many(90)+"what\nbegin", 90*lines+1)
			checkFault(t, "one more, which is not right", many(90)+"yes abcdefg", 90*lines+1)
			checkFault(t, "a fault far ahead of one more", "what\n"+many(91), 1)
		}
	}
	got, _ := impl.ReadScript(strings.Repeat("begin\n", 90))
	w, ok := impl.RunWorld(got)
	checkAnswer(t, "90 are run", ok, true)
	checkTold(t, "90", strings.Repeat("begin\n", 90), worldTold(w))
}

func TestScriptFalls(t *testing.T) {
	words := "fall 64"
	want := impl.Event{Kind: 12, At: 64}
	for n := range 12 {
		if n <= 8 {
			checkLine(t, fmt.Sprint(n, " KEEP"), words, want)
		} else {
			checkLineFault(t, fmt.Sprint(n, " KEEP"), words)
		}
		words += " " + fmt.Sprint(n*n)
		want.Keep = append(slices.Clone(want.Keep), n*n)
	}
	checkLine(t, "all 0", "fall 0 0 0 0", impl.Event{Kind: 12, Keep: []int{0, 0, 0}})
	checkLine(t, "some twice", "fall 1 2 1 2", impl.Event{Kind: 12, At: 1, Keep: []int{2, 1, 2}})
	checkLineFault(t, "no number", "fall")
	for _, keep := range []string{"x", "-1", "01", "+1", "1.0", "0x1", "1,2", "1000000001"} {
		for at := range 8 {
			parts := slices.Insert(strings.Fields("fall 1 2 3 4 5 6 7 8")[:at+1], at+1, keep)
			checkLineFault(t, "a number that is none", strings.Join(parts, " "))
			checkLineFault(t, "a number that is none, ahead of others", strings.Join(append(parts, "5"), " "))
		}
	}
}

// lineForms have a number at each place at which there may be one.
func lineForms() map[string]func(n int) impl.Event {
	return map[string]func(n int) impl.Event{
		"get % a":      func(n int) impl.Event { return impl.Event{Kind: 2, At: n, Key: "a"} },
		"scan % a b":   func(n int) impl.Event { return impl.Event{Kind: 3, At: n, Key: "a", Text: "b"} },
		"put % a x":    func(n int) impl.Event { return impl.Event{Kind: 4, At: n, Key: "a", Text: "x"} },
		"delete % a":   func(n int) impl.Event { return impl.Event{Kind: 5, At: n, Key: "a"} },
		"commit %":     func(n int) impl.Event { return impl.Event{Kind: 6, At: n} },
		"abort %":      func(n int) impl.Event { return impl.Event{Kind: 7, At: n} },
		"prepare % p":  func(n int) impl.Event { return impl.Event{Kind: 8, At: n, Key: "p"} },
		"fall %":       func(n int) impl.Event { return impl.Event{Kind: 12, At: n} },
		"fall % 5":     func(n int) impl.Event { return impl.Event{Kind: 12, At: n, Keep: []int{5}} },
		"fall 5 %":     func(n int) impl.Event { return impl.Event{Kind: 12, At: 5, Keep: []int{n}} },
		"fall 5 1 % 1": func(n int) impl.Event { return impl.Event{Kind: 12, At: 5, Keep: []int{1, n, 1}} },
	}
}

func TestScriptNumbers(t *testing.T) {
	wrong := []string{
		"-1", "-0", "--1", "-", "+", "+1", "+0", "00", "01", "007", "1-", "1000000001", "9999999999", "10000000000", "01000000000", "-1000000000", "9223372036854775807",
		"9223372036854775808", "-9223372036854775808", "18446744073709551616", "18446744073709551617", "1" + strings.Repeat("0", 80), strings.Repeat("0", 80),
		"1.0", "1.", ".1", "1e3", "0x1", "0b1", "0o7", "1_0", "1,0", "a", "one", "1a", "a1", "'1'", "\"1\"", "#1", "1#", "~", "T", "Inf", "NaN", "nil", "*",
	}
	for form, want := range lineForms() {
		for _, n := range []int{0, 1, 2, 9, 10, 11, 64, 65, 99, 100, 127, 128, 999, 1000, 65536, 99999, 999999999, 1000000000} {
			line := strings.ReplaceAll(form, "%", strconv.Itoa(n))
			checkLine(t, line, line, want(n))
		}
		for _, n := range wrong {
			line := strings.ReplaceAll(form, "%", n)
			checkLineFault(t, line, line)
		}
	}
	for _, line := range []string{"get  a", "scan  a b", "put  a x", "delete  a", "commit ", "abort  ", "prepare  p", "fall ", "get a 1", "put a 1 x", "put a x 1", "prepare p 1", "delete a 1", "scan a b 1"} {
		checkLineFault(t, "a number that is empty, or elsewhere", line)
	}
}

// A key of six bytes, and a text of twenty, are those of an event; which of them a store takes is told by the codes.
func TestScriptTexts(t *testing.T) {
	for _, n := range []int{1, 2, 3, 5, 6, 7, 8, 19, 20, 21, 22, 100, 500} {
		word := strings.Repeat("w", n)
		for kind, form := range map[int]string{2: "get 1 %", 3: "scan 1 % z", 4: "put 1 % x", 5: "delete 1 %", 8: "prepare 1 %", 9: "yes %", 10: "no %"} {
			line := strings.ReplaceAll(form, "%", word)
			if n <= 6 {
				checkLine(t, line, line, ev(line))
				got, _ := impl.ReadScript(line)
				checkAnswer(t, "its kind, and its key", len(got) == 1 && got[0].Kind == kind && got[0].Key == word, true)
			} else {
				checkLineFault(t, line, line)
			}
		}
		for kind, form := range map[int]string{3: "scan 1 a %", 4: "put 1 a %"} {
			line := strings.ReplaceAll(form, "%", word)
			if n <= 20 {
				checkLine(t, line, line, impl.Event{Kind: kind, At: 1, Key: "a", Text: word})
			} else {
				checkLineFault(t, line, line)
			}
		}
	}
	checkLine(t, "both as long as may be", "put 1000000000 abcdef 12345678901234567890", impl.Event{Kind: 4, At: 1000000000, Key: "abcdef", Text: "12345678901234567890"})
	scripted(t, []string{"begin", "put 1 abc " + strings.Repeat("v", 12), "put 1 abc " + strings.Repeat("v", 13), "put 1 abcdef v", "get 1 abc"}, "0 1", "0 .", "2 .", "2 .", "0 vvvvvvvvvvvv", "cs 0 open 1 ready 0")
}

func TestScriptBytes(t *testing.T) {
	for b := range 256 {
		one := string([]byte{byte(b)})
		plain := b > 32 && b < 127
		for _, line := range []string{"put 1 a" + one + " x", "put 1 a x" + one, "put 1 " + one + "a " + one, "get 1 " + one + one, "yes p" + one + "q"} {
			if plain {
				checkLine(t, "a byte", line, ev(line))
			} else {
				checkScript(t, "a byte that no word has", line)
			}
		}
		if plain || b == 10 || b == 32 {
			continue
		}
		for _, line := range []string{one, "begin" + one, one + "begin", "be" + one + "gin", "#" + one, one + "#", "# remark " + one, "commit" + one + "1", "commit 1" + one, "fall 1 " + one + " 2", " " + one + " ", "put 1 a" + one + "b x"} {
			checkLineFault(t, "a byte that no line has", line)
		}
	}
	checkFault(t, "all bytes", allBytes(), 1)
	for _, text := range anyTexts() {
		checkScript(t, "any text", text)
		checkScript(t, "any text", "begin\nput 1 "+text+" x")
		checkScript(t, "any text", "begin\nput 1 a "+text)
	}
}

func TestScriptWords(t *testing.T) {
	behind := strings.Split("begin|get 1 a|scan 1 a b|put 1 a x|delete 1 a|commit 1|abort 1|prepare 1 p|yes p|no p|fix|fall 1", "|")
	for kind, line := range behind {
		word, rest, _ := strings.Cut(line, " ")
		checkAnswer(t, "it is the word of its kind", word == eventWords[kind+1], true)
		checkLine(t, line, line, ev(line))
		wrong := []string{
			strings.ToUpper(word), strings.ToUpper(word[:1]) + word[1:], word[:1] + strings.ToUpper(word[1:]), word[:len(word)-1], word[1:], word + "s", word + ".", word + ":", "." + word,
			word + word, "-" + word, word[:len(word)-1] + "_", fmt.Sprint(kind + 1), word + "#", "!" + word, "\"" + word + "\"", word + "()", "Ev" + word, word + "1", "1" + word,
		}
		for _, other := range wrong {
			checkLineFault(t, "no word", strings.TrimRight(other+" "+rest, " "))
			checkLineFault(t, "no word, alone", other)
		}
		for k, other := range behind {
			// Behind the word of another one there is what belongs to that one.
			_, rest, _ := strings.Cut(other, " ")
			line := strings.TrimRight(word+" "+rest, " ")
			if e, passed, ok := lineOf(line); ok && !passed {
				checkLine(t, "another one's words", line, e)
			} else {
				checkLineFault(t, "another one's words", line)
			}
			checkAnswer(t, "its own are right", k != kind || line == other, true)
		}
		for _, other := range []string{"begin", "fix", "commit 1", "put 1 a x", line} {
			checkLineFault(t, "two in one line", line+" "+other)
		}
	}
	for _, word := range []string{"what", "open", "read", "write", "set", "del", "rollback", "end", "store", "show", "switch", "crash", "rise", "0", "1", "-", "=", "a", "begin,", "begin;", "//", ";", "%", "--", "'", "help", "quit", "fault"} {
		checkLineFault(t, word, word)
		checkLineFault(t, word, word+" 1")
		checkLineFault(t, word, word+" 1 a")
	}
}

// Each word, with so many parts behind it: numbers, so that they would do as keys, texts and names, too.
func TestScriptPartsOfEachWord(t *testing.T) {
	parts := map[string][]int{"begin": {0}, "get": {2}, "scan": {3}, "put": {3}, "delete": {2}, "commit": {1}, "abort": {1}, "prepare": {2}, "yes": {1}, "no": {1}, "fix": {0}, "fall": {1, 2, 3, 4, 5, 6, 7, 8, 9}}
	for word, counts := range parts {
		line := word
		for n := range 14 {
			if slices.Contains(counts, n) {
				checkLine(t, line, line, ev(line))
			} else {
				checkLineFault(t, line, line)
			}
			line += " " + fmt.Sprint(n+1)
		}
	}
}

// faultyLines are each a fault of its own kind.
func faultyLines() []string {
	return []string{"\x01", strings.Repeat("#", 601), "1 2 3 4 5 6 7 8 9 10 11", "what", "Begin", "get 1", "commit 1 2", "commit x", "commit -1", "yes abcdefg", "put 1 a " + strings.Repeat("v", 21), "fall"}
}

func TestTheFirstFaultCounts(t *testing.T) {
	good := []string{"begin", "# one", "put 1 a x", "", "commit 1", "fix"}
	for at := range len(good) + 1 {
		for _, one := range faultyLines() {
			script := slices.Insert(slices.Clone(good), at, one)
			checkFault(t, "one fault", strings.Join(script, "\n"), at+1)
			for _, other := range faultyLines() {
				behind := slices.Insert(slices.Clone(script), min(at+2, len(script)), other)
				checkFault(t, "two faults", strings.Join(behind, "\n")+"\n", at+1)
			}
		}
	}
	for _, one := range faultyLines() {
		checkFault(t, "faults alone", strings.Repeat(one+"\n", 3), 1)
		for n := range 20 {
			checkFault(t, "faults behind lines that are passed over", strings.Repeat("\n", n)+one+"\n"+one, n+1)
			checkFault(t, "faults behind events", strings.Repeat("begin\n", n)+one+"\nbegin", n+1)
		}
	}
	checkFault(t, "a line of two figures", strings.Repeat("\n", 98)+"x", 99)
	checkFault(t, "a line of three figures", strings.Repeat("\n", 99)+"x", 100)
	checkFault(t, "a line of four figures", strings.Repeat("\n", 999)+"x", 1000)
	checkFault(t, "the last line that there may be", strings.Repeat("\n", 2499)+"x", 2500)
	checkFault(t, "one byte more", strings.Repeat("\n", 2500)+"x", -1)
}

// toldAs is the line of an event, and false when it has none: what belongs to it can't be told, or would not be read.
func toldAs(e impl.Event) (string, bool) {
	parts := []string{}
	if e.Kind > 0 && e.Kind <= 12 {
		parts = append(parts, eventWords[e.Kind])
	}
	if slices.Contains([]int{2, 3, 4, 5, 6, 7, 8, 12}, e.Kind) {
		parts = append(parts, strconv.Itoa(e.At))
	}
	if slices.Contains([]int{2, 3, 4, 5, 8, 9, 10}, e.Kind) {
		parts = append(parts, e.Key)
	}
	if e.Kind == 3 || e.Kind == 4 {
		parts = append(parts, e.Text)
	}
	for _, k := range e.Keep[:min(len(e.Keep), 8)] {
		parts = append(parts, strconv.Itoa(max(k, -k)))
	}
	line := strings.Join(parts, " ")
	_, passed, ok := lineOf(line)
	return line, ok && !passed
}

// drawnScript is a life, what the document tells of it, and a script of it with lines between that are passed over.
func drawnScript(seed int, counts map[string]int) (script []string, w impl.World, events []impl.Event) {
	l := newDrawnLife(seed, counts)
	room := 2500
	put := func(line string) {
		script, room = append(script, line), room-len(line)-1
	}
	// The longest line that is put here has below 140 bytes.
	for len(events) < 90 && room > 140 {
		line, ok := toldAs(l.event())
		if !ok {
			counts["can't be told"]++
			continue
		}
		if l.draw.below(6) == 0 {
			put(passedLines()[4+l.draw.below(9)*l.draw.below(2)])
			put(strings.Repeat(" ", l.draw.below(2)))
		}
		before := len(l.world.Codes)
		l.world = stepOf(l.world, ev(line))
		events = append(events, ev(line))
		counts[fmt.Sprint(strings.Fields(line)[0], " ", l.world.Codes[before])]++
		blanks := strings.Repeat(" ", l.draw.below(12)/9)
		put(blanks + strings.ReplaceAll(line, " ", " "+blanks) + blanks)
	}
	return script, l.world, events
}

// Promise 18: a script tells what its events do. Lives that are drawn and told as scripts are read as they are, and told as the document
// tells each of their events; what is told comes back as codes, what was said, and keys.
func TestDrawnLivesAsScripts(t *testing.T) {
	counts := map[string]int{}
	for seed := range 60 {
		script, w, events := drawnScript(seed, counts)
		s := strings.Join(script, "\n")
		if seed%2 == 0 {
			s += "\n"
		}
		if len(s) > 2500 || len(events) < 60 {
			t.Fatalf("a script of %d bytes, %d events", len(s), len(events))
		}
		checkReads(t, "a drawn life", s, events, 0)
		checkTold(t, "a drawn life", s, worldTold(w))
		codes, said, numbers, values := readBack(t, impl.Console(s))
		checkAnswer(t, "codes and what was said", slices.Equal(codes, w.Codes) && len(said) == len(w.Said), true)
		base := w.Store.Engine.Base
		checkAnswer(t, "the three numbers", numbers == [3]int{base.Cs, len(w.Store.Engine.Open), len(base.Ready)}, true)
		checkAnswer(t, "the keys", len(values) == len(impl.ScanAt(base.Versions, everyKey, base.Cs)), true)
		for at, line := range faultyLines() {
			place := (at*17 + seed) % len(script)
			spoiled := strings.Join(slices.Replace(slices.Clone(script), place, place+1, line), "\n")
			if len(spoiled) > 2500 {
				place = -2
			}
			checkFault(t, "a drawn life with a fault", spoiled, place+1)
		}
	}
	for kind, codes := range []string{"", "03", "01", "01", "01", "01", "0145", "01", "01", "01", "01", "0", "0"} {
		for _, code := range codes {
			if what := eventWords[kind] + " " + string(code); counts[what] == 0 {
				t.Errorf("%s never came", what)
			}
		}
	}
}

// drawnBytes are words, numbers and bytes beside each other, in any way.
func drawnBytes(d *drawn) string {
	pieces := append(slices.Clone(eventWords), "\n", "\n", "\n", "\n", " ", " ", " ", "  ", "1", "0", "2 ", " 10", "1000000000", "-1", "01", "a", "b ", "zzz", "#", "# ", "abcdef", "\t", "\x00", "\xff", "p")
	lines := strings.SplitAfter(everyWord+"begin\n#\n\n  \nput 1 a x\nput 1 b y\nscan 1 a z\nget 1 a\ncommit 1\n", "\n")
	s := ""
	for range d.below(20) {
		s += lines[d.below(len(lines))]
		for range d.below(4) * (d.below(12) / 11) {
			s += pieces[d.below(len(pieces))]
		}
	}
	return s
}

// Scripts of anything are held against the document's sentences; so are right ones of which a byte is another one, is gone, or is one more.
func TestScriptsOfAnything(t *testing.T) {
	d := drawn(77)
	right, faults := 0, map[int]int{}
	for range 6000 {
		if _, line := checkScript(t, "anything", drawnBytes(&d)); line == 0 {
			right++
		} else {
			faults[line]++
		}
	}
	for range 1500 {
		s := []byte(everyWord)
		at := d.below(len(s))
		one := allBytes()[d.below(256)]
		if d.below(2) == 0 {
			one = []byte("0123 #\nagpx")[d.below(11)]
		}
		for range 1 + d.below(3) {
			switch d.below(3) {
			case 0:
				s[at] = one
			case 1:
				s = slices.Insert(s, at, one)
			case 2:
				s = slices.Delete(s, at, at+1)
			}
			at = d.below(len(s))
		}
		if _, line := checkScript(t, "a byte is another one", string(s)); line == 0 {
			right++
		} else {
			faults[line]++
		}
	}
	if right < 1000 || len(faults) < 12 {
		t.Errorf("%d were right, the others had faults in %d lines", right, len(faults))
	}
}

func eventTexts(events []impl.Event) []string {
	var texts []string
	for _, e := range events {
		texts = append(texts, e.Key, e.Text)
	}
	return texts
}

// memoryScripts have words and numbers that are there more than once.
func memoryScripts() []string {
	scripts := []string{everyWord, "", "what", strings.Repeat("put 1 abc abc\n", 90), strings.Repeat("fall 1 2 3 4 5\n", 90), strings.Repeat("fall 7\n", 3) + "fall 1 2 3\nfall 1 2 3 4 5 6 7 8 9\n", "yes p\nno p\nyes p\nget 1 p\nscan 1 p p\n"}
	for seed := range 12 {
		script, _, _ := drawnScript(seed, map[string]int{})
		scripts = append(scripts, strings.Join(script, "\n"))
	}
	return scripts
}

func TestScriptsAnswerNewMemory(t *testing.T) {
	for i, plain := range memoryScripts() {
		what, s := fmt.Sprint("script ", i), fresh(plain)
		first, _ := impl.ReadScript(s)
		second, _ := impl.ReadScript(s)
		want, _ := scriptOf(plain)
		checkApart(t, what, eventTexts(first), append(eventTexts(second), s))
		for k, e := range first {
			checkApart(t, what+", one and those behind it", []string{e.Key, e.Text}, eventTexts(first[k+1:]))
			checkApart(t, what+", both texts of one", []string{e.Key}, []string{e.Text})
			for at := range e.Keep {
				e.Keep[at] = math.MinInt
			}
			_ = append(e.Keep, -9, -9, -9, -9)
			checkAnswer(t, what+": those behind it", slices.EqualFunc(first[k+1:], want[k+1:], sameEvent), true)
		}
		for k := range first {
			first[k] = impl.Event{Kind: -9}
		}
		_ = append(first, impl.Event{Kind: -9})
		checkAnswer(t, what+": an answer beside", slices.EqualFunc(second, want, sameEvent), true)
		checkScript(t, what+", once more", s)
		told := impl.Console(s)
		checkApart(t, what+": what is told", []string{told}, []string{s, impl.Console(s)})
		checkAnswer(t, what+": the script is as it was", s == plain, true)
	}
}

// Nothing stays from one script to the next, whatever came between.
func TestConsolesKeepNothing(t *testing.T) {
	const script = "begin\nput 1 a x\nprepare 1 p\n"
	const want = "0 1\n0 .\n0 .\ncs 0 open 0 ready 1\n"
	for _, between := range append(memoryScripts(), script, "begin\nx", strings.Repeat("begin\n", 91), strings.Repeat("#", 2501), "yes p", "get 1 a") {
		checkTold(t, "ahead", script, want)
		impl.ReadScript(between)
		impl.Console(between)
		checkTold(t, "behind", script, want)
	}
	scripts := memoryScripts()
	var told []string
	for _, s := range scripts {
		told = append(told, impl.Console(s))
	}
	answers := make(chan string, 4)
	for range cap(answers) {
		go func() {
			all := ""
			for _, s := range scripts {
				all += impl.Console(s)
			}
			answers <- all
		}()
	}
	for range cap(answers) {
		checkAnswer(t, "several at once", <-answers == strings.Join(told, ""), true)
	}
}
