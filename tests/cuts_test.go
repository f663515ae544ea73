package tests

import (
	"fmt"
	"math"
	"slices"
	"strings"
	"testing"

	"loop.example/g00327/impl"
)

// cutting is a change of a log that may be stopped: the log before and after it, the texts of both, and the disk at each
// step, with the writes that wait there.
type cutting struct {
	what          string
	was, then     impl.Disk
	before, after []string
	steps         []impl.Disk
	cut           func(step int, keep []int, tear int) impl.Disk
}

// waitingOver is d with the writes that wait while these bytes are laid from a place on, counted over all sectors: one for
// each sector that they touch.
func waitingOver(d impl.Disk, from int, text string) impl.Disk {
	laid := overlaid(d, from, text)
	out := impl.Disk{Sectors: slices.Clone(d.Sectors)}
	for at := from / 64; at <= (from+len(text)-1)/64; at++ {
		out.Cache = append(out.Cache, impl.Put{At: at, Text: laid.Sectors[at]})
	}
	return out
}

// appending follows the document's words for an AppendLog that has room: the texts are those that the log tells.
func appending(what string, d impl.Disk, texts []string, text string) cutting {
	area := int(d.Sectors[0][0]) % 2
	place := recordPlace(area) + len(allRecords(texts))
	flushed := overlaid(d, place, recordBytes(text))
	return cutting{
		what: what, was: d, then: withPut(d, area, texts, text), before: texts, after: append(slices.Clone(texts), text),
		steps: []impl.Disk{
			waitingOver(d, place, recordBytes(text)),
			waitingOver(flushed, countPlace(area), string([]byte{byte(len(texts) + 1)})),
		},
		cut: func(step int, keep []int, tear int) impl.Disk { return impl.CutAppend(d, text, step, keep, tear) },
	}
}

// switching follows the document's words for a SwitchLog of which every text has room.
func switching(what string, d impl.Disk, texts, list []string) cutting {
	first := d.Sectors[0][0]
	other := 1 - int(first)%2
	filled := areaLaid(d, other, byte(len(list)), allRecords(list))
	return cutting{
		what: what, was: d, then: withSwitch(d, list), before: texts, after: list,
		steps: []impl.Disk{
			waitingOver(d, countPlace(other), "\x00"),
			filled,
			waitingOver(filled, 0, string([]byte{first + 1})),
		},
		cut: func(step int, keep []int, tear int) impl.Disk { return impl.CutSwitch(d, list, step, keep, tear) },
	}
}

// told tells the texts that count behind a cut: all hangs on the one byte that is written last.
func (c cutting) told(step int, keep []int, tear int) []string {
	last := len(c.steps) - 1
	lost := len(keep) == 0 || keep[0]&1 == 0 || tear%65 == 0
	if step >= 0 && step < last || step == last && lost {
		return c.before
	}
	return c.after
}

// check holds what is left against the bytes that must be there, and against promise 13. It ends the test with the first
// wrong one, since it is asked of very many.
func (c cutting) check(t *testing.T, step int, keep []int, tear int) impl.Disk {
	t.Helper()
	what := fmt.Sprintf("%s, stopped at %d, keeping %v, torn at %d", c.what, step, keep, tear)
	got, want, told := c.cut(step, keep, tear), c.then, c.told(step, keep, tear)
	if step >= 0 && step < len(c.steps) {
		want = leftOf(c.steps[step], keep, tear%65)
	}
	if !sameDisk(got, want) {
		t.Fatalf("%s: %s", what, unlike(got, want))
	}
	if !impl.LogOk(got) || !slices.Equal(impl.LogTexts(got), told) {
		t.Fatalf("%s: not LogOk, or %d texts are told; want %d", what, len(impl.LogTexts(got)), len(told))
	}
	if !impl.CutRight(c.was, c.then, got) {
		t.Fatalf("%s: not CutRight", what)
	}
	if impl.SameTexts(got, c.was) != slices.Equal(told, c.before) || impl.SameTexts(c.then, got) != slices.Equal(told, c.after) {
		t.Fatalf("%s: SameTexts with the log before is %v, after %v", what, impl.SameTexts(got, c.was), impl.SameTexts(c.then, got))
	}
	return got
}

// checkAll asks every step with every choice of what is kept and every tear.
func (c cutting) checkAll(t *testing.T) {
	t.Helper()
	for step, d := range c.steps {
		for _, keep := range choices(len(d.Cache)) {
			for tear := range impl.SectorSize + 1 {
				c.check(t, step, keep, tear)
			}
		}
	}
	c.checkEnds(t)
}

// checkEnds asks every step with nothing kept, and with all kept and nothing torn, and behind the last one.
func (c cutting) checkEnds(t *testing.T) {
	t.Helper()
	all := slices.Repeat([]int{1}, 60)
	for step := range c.steps {
		c.check(t, step, nil, 64)
		c.check(t, step, all, 64)
		c.check(t, step, all, 1)
		c.check(t, step, all, 0)
	}
	for _, keep := range [][]int{nil, all} {
		c.check(t, len(c.steps), keep, 0)
		c.check(t, len(c.steps), keep, 64)
	}
}

// choices are all that may be chosen of n writes.
func choices(n int) [][]int {
	var out [][]int
	for bits := range 1 << n {
		keep := []int{}
		for i := range n {
			keep = append(keep, bits>>i&1)
		}
		out = append(out, keep)
	}
	return out
}

// textUpTo is a text whose record lies from one place to another; there is none that takes 129 bytes.
func textUpTo(from, to int) string {
	n := to - from - 1
	if n > 127 {
		n--
	}
	return pattern(from+to, n)
}

// Ordinary logs, of either area, and records over one sector and over several: all that the power may leave.
func TestCutAppendOfEveryChoice(t *testing.T) {
	for first := range 2 {
		texts, others := []string{"one", "two", "and three"}, []string{"what", "the", "other", "one", "has"}
		both := [][]string{others, others}
		both[first] = texts
		d := logOf(byte(first+6), both[0], both[1])
		from := len(allRecords(texts))
		for _, to := range []int{from + 2, from + 20, 63, 64, 65, 100, 127, 128, 129, 191, 192, 193} {
			c := appending(fmt.Sprintf("a record from %d to %d in area %d", from, to, first), d, texts, textUpTo(from, to))
			if want := (to-1)/64 + 1; len(c.steps[0].Cache) != want || len(c.steps[1].Cache) != 1 || len(allRecords(c.after)) != to {
				t.Fatalf("%s touches %d sectors; want %d", c.what, len(c.steps[0].Cache), want)
			}
			if (to+first)%2 == 0 || to < 66 {
				c.checkAll(t)
			} else {
				c.checkEnds(t)
			}
		}
	}
}

// A record that begins just where a sector does, or with a sector's last byte, so that even its length may be torn.
func TestCutAppendFromEverywhere(t *testing.T) {
	for _, from := range []int{0, 2, 62, 63, 64, 65, 127, 128, 2943, 2944} {
		var texts []string
		if from > 0 {
			texts = []string{textUpTo(0, from)}
		}
		for i, n := range []int{1, 62, 63} {
			d := logOf(byte(from+i), texts, texts)
			c := appending(fmt.Sprintf("%d bytes from %d on", n, from), d, texts, pattern(from, n))
			if i == from%3 {
				c.checkAll(t)
			}
			c.checkEnds(t)
		}
	}
	// A length of two bytes, with the end of a sector between them.
	texts := []string{textUpTo(0, 63)}
	appending("a length over two sectors", logOf(0, texts, nil), texts, pattern(1, 130)).checkAll(t)
}

// cutLengths are lengths of texts whose records touch up to 47 sectors.
var cutLengths = []int{1, 62, 63, 64, 126, 127, 128, 250, 700, 1500, 2990, 3005, 3006}

// Records as long as an area: drawn choices of what is kept, and drawn tears.
func TestCutAppendOfLongRecords(t *testing.T) {
	draw := drawn(13)
	for i, n := range cutLengths {
		for first := range 2 {
			d := logOf(byte(first), nil, nil)
			c := appending(fmt.Sprintf("%d bytes", n), d, nil, pattern(n, n))
			c.checkEnds(t)
			for range 30 + i {
				var keep []int
				for range draw.below(50) {
					keep = append(keep, draw.below(7)-3)
				}
				c.check(t, draw.below(2), keep, draw.below(65))
			}
		}
	}
}

// Every count that a log may have, also none, 253 and 254: its byte torn at 0, at 1 and at SectorSize.
func TestCutAppendOfEveryCount(t *testing.T) {
	for n := range 255 {
		texts := ones(n)
		both := [][]string{{"other"}, {"other"}}
		both[n%2] = texts
		c := appending(fmt.Sprintf("a record behind %d", n), logOf(byte(n), both[0], both[1]), texts, "next")
		for _, tear := range []int{0, 1, 64} {
			c.check(t, 1, []int{1}, tear)
			c.check(t, 1, []int{0}, tear)
		}
		c.check(t, 0, []int{1}, 2)
		c.check(t, 2, nil, 0)
	}
	for _, n := range []int{0, 1, 253, 254} {
		for first := range 2 {
			texts := ones(n)
			appending(fmt.Sprintf("a record behind %d", n), logOf(byte(first), texts, texts), texts, "n").checkAll(t)
		}
	}
}

// The last record fills the area just to its last byte, and there is none behind it.
func TestCutAppendThatFillsAnArea(t *testing.T) {
	for first := range 2 {
		for _, texts := range [][]string{textsOf(3003), textsOf(2940), textsOf(2880), filledBy255()[:254], nil} {
			text := textUpTo(len(allRecords(texts)), 3008)
			d := logOf(byte(first), texts, texts)
			c := appending(fmt.Sprintf("%d bytes that fill area %d", len(text), first), d, texts, text)
			if len(allRecords(c.after)) != 3008 {
				t.Fatalf("the area is filled to %d", len(allRecords(c.after)))
			}
			c.checkEnds(t)
			if len(text) < 200 {
				c.checkAll(t)
			}
			for step := range 3 {
				checkDisk(t, "a byte more than there is room for", impl.CutAppend(d, text+"x", step, []int{1, 1, 1}, 64), d)
				checkDisk(t, "a record in a full area", impl.CutAppend(c.then, "x", step, []int{1, 1, 1}, 64), c.then)
			}
		}
	}
}

// oddSteps are neither of the steps of an append nor of a switch.
var oddSteps = []int{-1, -2, 3, 4, 64, 65, 256, math.MinInt, math.MaxInt, math.MinInt + 1}

func TestCutsBehindAllOfIt(t *testing.T) {
	for first := range 2 {
		texts := []string{"one", "two"}
		d := logOf(byte(first), texts, texts)
		for _, step := range append(slices.Clone(oddSteps), 2) {
			for _, keep := range [][]int{nil, {0}, {1}, {1, 1, 1, 1}} {
				for _, tear := range []int{0, 1, 64, 65} {
					appending("an append", d, texts, pattern(1, 130)).check(t, step, keep, tear)
					if step != 2 {
						switching("a switch", d, texts, []string{"a", "b"}).check(t, step, keep, tear)
					}
				}
			}
		}
	}
}

// cutLists are lists of texts that a switch may have: none, one, several, and those that fill an area.
func cutLists() [][]string {
	return [][]string{nil, {"a"}, {"one", "two", "three"}, textsOf(62), textsOf(63, 64), textsOf(700, 127, 128), textsOf(3006), textsOf(1502, 1502), ones(254), ones(255), filledBy255()}
}

// A switch from either area, whose other one had no records, one, several or as many as there may be.
func TestCutSwitchOfEveryChoice(t *testing.T) {
	for first := range 2 {
		for i, list := range [][]string{nil, {"a"}, {"one", "two", "three"}, textsOf(63, 64)} {
			for k, had := range [][]string{nil, {"some"}, textsOf(3, 60, 200), textsOf(3006)} {
				texts := []string{"what", "counts"}
				both := [][]string{had, had}
				both[first] = texts
				d := logOf(byte(first+10), both[0], both[1])
				c := switching(fmt.Sprintf("a switch from area %d to %d texts, where %d were", first, len(list), len(had)), d, texts, list)
				if i == k || len(list) == 1 {
					c.checkAll(t)
				}
				c.checkEnds(t)
			}
		}
	}
}

func TestCutSwitchOfAllLists(t *testing.T) {
	for i, list := range cutLists() {
		for k, had := range cutLists() {
			// Long lists take long, so they don't meet all the others.
			if (i+k)%3 > 0 && (k > 1 || len(list) > 100) {
				continue
			}
			first, texts := (i+k)%2, cutLists()[(i*3+k)%len(cutLists())]
			both := [][]string{had, had}
			both[first] = texts
			c := switching(fmt.Sprintf("a switch to list %d where %d was", i, k), logOf(byte(first), both[0], both[1]), texts, list)
			for step := range 4 {
				c.check(t, step, []int{1}, 1)
			}
			c.check(t, 0, nil, 64)
			c.check(t, 2, []int{1}, 0)
		}
	}
}

// The first byte of the disk goes on from every one that it may be, 255 among them, and is torn at 0, at 1 and at SectorSize.
func TestCutSwitchOfEveryFirstByte(t *testing.T) {
	for first := range 256 {
		both := [][]string{{"zero", "more"}, {"one"}}
		d := logOf(byte(first), both[0], both[1])
		c := switching(fmt.Sprintf("the first byte %d", first), d, both[first%2], []string{"new"})
		for _, tear := range []int{0, 1, 2, 63, 64} {
			c.check(t, 2, []int{1}, tear)
			c.check(t, 2, []int{2}, tear)
		}
		for step := range 2 {
			c.check(t, step, []int{1}, 64)
			c.check(t, step, nil, 64)
		}
		got := impl.CutSwitch(d, []string{"new"}, 2, []int{1}, 1)
		if int(got.Sectors[0][0]) != (first+1)%256 || got.Sectors[0][1:] != d.Sectors[0][1:] {
			t.Errorf("the first sector behind %d is %q", first, got.Sectors[0])
		}
	}
}

// Tears of every size: beyond SectorSize they begin again, and below 0 they come from its end.
func TestCutsTornAnywhere(t *testing.T) {
	texts := []string{"one", "two"}
	d := logOf(1, []string{"other"}, texts)
	both := []cutting{appending("an append", d, texts, pattern(1, 100)), switching("a switch", d, texts, []string{"a", "b"})}
	for _, c := range both {
		for tear := -140; tear <= 140; tear++ {
			for step := range 4 {
				c.check(t, step, []int{1, 1}, tear)
			}
		}
		for tear, same := range map[int]int{math.MaxInt: 7, math.MaxInt - 7: 0, math.MaxInt - 8: 64, math.MinInt: 57, math.MinInt + 7: 64, math.MinInt + 8: 0} {
			for step := range 4 {
				got := c.check(t, step, []int{1, 1}, tear)
				checkDisk(t, fmt.Sprint(c.what, " torn at ", tear), got, c.cut(step, []int{1, 1}, same))
			}
		}
	}
}

// What is kept may be told of fewer writes than wait, or of more; odd numbers keep, also those below 0.
func TestCutsKeepWhatIsOdd(t *testing.T) {
	texts := []string{"one", "two"}
	d := logOf(2, texts, []string{"other"})
	both := []cutting{appending("an append", d, texts, pattern(1, 200)), switching("a switch", d, texts, []string{"a", "b"})}
	for _, c := range both {
		for _, keep := range [][]int{
			nil, {}, {0}, {1}, {0, 1}, {1, 0, 1}, {0, 0, 0, 1}, {0, 0, 0, 0, 1}, {1, 1, 1, 1, 1, 1, 1, 1},
			{-1}, {-2}, {-3, -1}, {3, 5, 7, 9}, {2, 4, 6, 8}, {-2, -1, -2, -1}, {math.MaxInt, math.MinInt}, {math.MinInt, math.MaxInt}, {math.MinInt + 1},
			slices.Repeat([]int{1}, 1000), slices.Repeat([]int{-2}, 1000),
		} {
			for _, tear := range []int{0, 1, 30, 63, 64} {
				for step := range 4 {
					c.check(t, step, keep, tear)
				}
			}
		}
	}
}

// What stands behind the records of an area is no matter, even when it looks like a record, or is one that was cut.
func TestCutsOverWhatStoodThere(t *testing.T) {
	texts := []string{"one", "two"}
	old := slices.Concat(texts, []string{"old and longer than the new", "more", "and more"})
	for first := range 2 {
		d := logOf(byte(first), old, old)
		d = overlaid(d, countPlace(first), "\x02")
		for _, n := range []int{1, 5, 27, 60, 130} {
			c := appending(fmt.Sprintf("%d bytes over others", n), d, texts, pattern(n, n))
			c.checkAll(t)
			torn := c.check(t, 0, []int{1, 1, 1}, 9)
			appending(fmt.Sprintf("%d bytes over what was torn", n), torn, texts, "again").checkAll(t)
		}
		c := switching("a switch over others", d, texts, []string{"base"})
		c.checkAll(t)
		for step := range 3 {
			again := c.check(t, step, []int{1}, 0)
			switching("a switch that comes again", again, texts, []string{"base", "more"}).checkEnds(t)
		}
	}
}

// Where AppendLog is false it is as it is, whatever is to be kept or torn, and writes that wait go on waiting.
func TestCutAppendRefuses(t *testing.T) {
	refused := func(what string, d impl.Disk, text string) {
		t.Helper()
		for _, step := range append(slices.Clone(oddSteps), 0, 1, 2) {
			for _, keep := range [][]int{nil, {1}, slices.Repeat([]int{1}, 70)} {
				checkDisk(t, what+": CutAppend", impl.CutAppend(d, text, step, keep, 64+step%2), d)
			}
		}
	}
	for what, d := range wrongLogs() {
		for _, text := range []string{"", "a", full("a"), strings.Repeat("a", 3007)} {
			refused(what, d, text)
		}
	}
	for first := range 2 {
		texts := []string{"one", "two"}
		d := logOf(byte(first), texts, texts)
		refused("an empty text", d, "")
		refused("a text too long by one", logOf(byte(first), nil, nil), strings.Repeat("a", 3007))
		refused("a text far too long", d, strings.Repeat("a", impl.MaxText+1))
		refused("no room", logOf(byte(first), textsOf(3006), textsOf(3006)), "a")
		refused("no room but one byte", logOf(byte(first), textsOf(3005), textsOf(3005)), "a")
		refused("255 records", logOf(byte(first), ones(255), ones(255)), "a")
		refused("255 records that fill an area", logOf(byte(first), filledBy255(), filledBy255()), "a")
	}
	// The other area, which has room, is not asked.
	refused("255 records in the area that counts", logOf(0, ones(255), nil), "a")
	refused("255 records in the area that counts", logOf(1, nil, ones(255)), "a")
	for first, both := range [][][]string{{ones(254), ones(255)}, {ones(255), ones(254)}} {
		appending("255 records in the other area", logOf(byte(first), both[0], both[1]), ones(254), "a").checkEnds(t)
	}
}

func TestCutSwitchRefuses(t *testing.T) {
	refused := func(what string, d impl.Disk, list []string) {
		t.Helper()
		for _, step := range []int{0, 1, 2, 3, -1, math.MaxInt} {
			checkDisk(t, what+": CutSwitch", impl.CutSwitch(d, list, step, slices.Repeat([]int{1}, 70), 64+step%2), d)
		}
	}
	for what, d := range wrongLogs() {
		for _, list := range [][]string{nil, {"a"}, {""}, {"a", "b"}} {
			refused(what, d, list)
		}
	}
	for first := range 2 {
		texts := []string{"one", "two"}
		for _, d := range []impl.Disk{logOf(byte(first), texts, texts), logOf(byte(first), textsOf(3006), ones(255))} {
			for what, list := range map[string][]string{
				"an empty text alone":         {""},
				"an empty text ahead":         {"", "a", "b"},
				"an empty text between":       {"a", "", "b"},
				"an empty text behind":        {"a", "b", ""},
				"256 texts":                   ones(256),
				"a text too long":             textsOf(3007),
				"a text far too long":         {strings.Repeat("x", impl.MaxText+1)},
				"a last text of one byte":     textsOf(3006, 1),
				"a last text too long by one": textsOf(1502, 1503),
			} {
				refused(what, d, list)
			}
		}
	}
}

// telling is a disk, the texts that it tells, and whether it is LogOk.
type telling struct {
	what  string
	d     impl.Disk
	texts []string
	right bool
}

// tellings are logs, and disks that are none, of which several tell the same.
func tellings() []telling {
	two, waits := []string{"one", "two"}, logOf(0, []string{"one", "two"}, nil)
	waits.Cache = []impl.Put{{At: 1, Text: full("\x01")}}
	short := logOf(1, two, two)
	short.Sectors[96] = short.Sectors[96][1:]
	return []telling{
		{"a new log", impl.LogNew(), nil, true},
		{"a log without records", logOf(1, two, nil), nil, true},
		{"one record", logOf(0, []string{"one"}, two), []string{"one"}, true},
		{"two records", logOf(0, two, nil), two, true},
		{"two records in the other area", logOf(255, []string{"a", "b", "c"}, two), two, true},
		{"two records the other way round", logOf(4, []string{"two", "one"}, two), []string{"two", "one"}, true},
		{"two records, one byte unlike", logOf(6, []string{"one", "twp"}, two), []string{"one", "twp"}, true},
		{"two records that are one", logOf(1, two, []string{"onetwo"}), []string{"onetwo"}, true},
		{"two records cut elsewhere", logOf(1, two, []string{"on", "etwo"}), []string{"on", "etwo"}, true},
		{"three records", logOf(1, two, []string{"one", "two", "one"}), []string{"one", "two", "one"}, true},
		{"255 records", logOf(0, ones(255), two), ones(255), true},
		{"no disk", impl.Disk{}, nil, false},
		{"one record, since its count waits", waits, []string{"one"}, false},
		{"two records, and a sector more", impl.Disk{Sectors: append(logOf(0, two, nil).Sectors, full("x"))}, two, false},
		{"two records, and half of the other area", impl.Disk{Sectors: logOf(0, two, nil).Sectors[:70]}, two, false},
		{"two records, with another area that is none", areaLaid(logOf(0, two, nil), 1, 1, "\x00"), two, false},
		{"an area that is none", areaLaid(logOf(1, two, two), 1, 1, "\x00"), nil, false},
		{"two records, and a sector too short", short, two, false},
	}
}

// Every two of them, both ways round: nothing is asked but what is told.
func TestSameTexts(t *testing.T) {
	for _, a := range tellings() {
		for _, b := range tellings() {
			checkAnswer(t, "SameTexts of "+a.what+" and "+b.what, impl.SameTexts(a.d, b.d), slices.Equal(a.texts, b.texts))
		}
	}
	for what, d := range wrongLogs() {
		checkAnswer(t, "SameTexts of itself: "+what, impl.SameTexts(d, d), true)
		told := len(impl.LogTexts(d)) > 0
		checkAnswer(t, "SameTexts of a new log and "+what, impl.SameTexts(d, impl.LogNew()), !told)
		checkAnswer(t, "SameTexts of a new log and "+what, impl.SameTexts(impl.LogNew(), d), !told)
	}
}

// Every three of them: left is a log, and tells what one of both tells; both are not asked whether they are logs.
func TestCutRight(t *testing.T) {
	for _, was := range tellings() {
		for _, then := range tellings() {
			for _, left := range tellings() {
				want := left.right && (slices.Equal(left.texts, was.texts) || slices.Equal(left.texts, then.texts))
				if got := impl.CutRight(was.d, then.d, left.d); got != want {
					t.Errorf("CutRight of %s, %s and %s is %v", was.what, then.what, left.what, got)
				}
			}
		}
	}
	for what, d := range wrongLogs() {
		checkAnswer(t, "CutRight of itself: "+what, impl.CutRight(d, d, d), false)
		told := len(impl.LogTexts(d)) > 0
		checkAnswer(t, "CutRight behind "+what, impl.CutRight(d, d, impl.LogNew()), !told)
		checkAnswer(t, "CutRight ahead of "+what, impl.CutRight(d, impl.LogNew(), impl.LogNew()), true)
	}
}

// Promise 13, of drawn lives: a log in which the power fails at nearly every change is as before, or as after, and goes on
// from there; a full area is left by a switch.
func TestLogsLiveThroughCuts(t *testing.T) {
	befores, afters, switches := 0, 0, 0
	for seed := range 40 {
		draw := drawn(seed * 7919)
		d, texts := logOf(byte(draw.below(256)), nil, nil), []string(nil)
		for at := range 70 {
			var list []string
			for i := range draw.below(4) {
				list = append(list, pattern(at+i, 1+draw.below(200)))
			}
			text := pattern(at, 1+draw.below(1+draw.below(600)))
			c := switching(fmt.Sprint("life ", seed, ", switch ", at), d, texts, list)
			if room := 3008 - len(allRecords(texts)); draw.below(6) > 0 && len(recordBytes(text)) <= room {
				c = appending(fmt.Sprint("life ", seed, ", append ", at), d, texts, text)
			} else {
				switches++
			}
			var keep []int
			for range draw.below(12) {
				keep = append(keep, draw.below(9)-4)
			}
			step, tear := draw.below(len(c.steps)+1), draw.below(200)-67
			d, texts = c.check(t, step, keep, tear), c.told(step, keep, tear)
			if slices.Equal(texts, c.before) {
				befores++
			} else {
				afters++
			}
		}
	}
	if befores < 300 || afters < 300 || switches < 100 {
		t.Errorf("%d times as before, %d times as after, %d switches", befores, afters, switches)
	}
}

// A store whose record was being kept comes up as it was before that, or as after; and one that was being fixed as it was.
func TestStoresComeUpBehindCuts(t *testing.T) {
	base := tidiedOf(someBase(), nil)
	for i, r := range []impl.Record{throughRecord(writing(pastOne(17, 9, 10), "a", "b", "c")), throughRecord(pastOne(17, 9, 10)), endRecord("m", true), endRecord("m", false), baseRecord(impl.BaseNew())} {
		after, ok := playedOf(base, r)
		if !ok {
			t.Fatalf("record %d can't be played", i)
		}
		d := logSaying(baseRecord(someBase()))
		texts := impl.LogTexts(d)
		for _, c := range []cutting{appending(fmt.Sprint("record ", i), d, texts, textOf(r)), switching("a fix", d, texts, []string{textOf(baseRecord(base))})} {
			for step := range 4 {
				for _, keep := range choices(3) {
					for _, tear := range []int{0, 1, 17, 64} {
						risen, ok := impl.RiseStore(c.check(t, step, keep, tear))
						want := base
						if c.what != "a fix" && len(c.told(step, keep, tear)) > len(texts) {
							want = after
						}
						if !ok || !impl.StoreOk(risen) || !likeOf(risen.Engine.Base, want) {
							t.Fatalf("%s, stopped at %d, keeping %v, torn at %d: it does not come up so", c.what, step, keep, tear)
						}
					}
				}
			}
		}
	}
}

// cutAnswers are what the chapter answers of d, in every way.
func cutAnswers(d impl.Disk, text string, list []string, keep []int) map[string]impl.Disk {
	answers := map[string]impl.Disk{}
	for step := -1; step < 4; step++ {
		for _, tear := range []int{0, 30, 64} {
			answers[fmt.Sprint("CutAppend ", step, tear)] = impl.CutAppend(d, text, step, keep, tear)
			answers[fmt.Sprint("CutSwitch ", step, tear)] = impl.CutSwitch(d, list, step, keep, tear)
		}
		answers[fmt.Sprint("CutAppend of nothing ", step)] = impl.CutAppend(d, "", step, keep, 64)
		answers[fmt.Sprint("CutSwitch to nothing ", step)] = impl.CutSwitch(d, nil, step, nil, 64)
		answers[fmt.Sprint("CutSwitch refused ", step)] = impl.CutSwitch(d, append(slices.Clone(list), ""), step, keep, 64)
	}
	return answers
}

func TestCutsAnswerNewMemory(t *testing.T) {
	logs := []impl.Disk{impl.LogNew(), logOf(0, []string{"zero"}, []string{"one"}), logOf(1, textsOf(3006), ones(255)), logOf(0, ones(255), nil)}
	for _, d := range wrongLogs() {
		logs = append(logs, d)
	}
	for _, plain := range logs {
		d := roomyStore(impl.Store{Disk: plain}).Disk
		text, list := fresh(strings.Repeat("t", 200)), append(textsOf(64, 100), "mark", "mark")[:2]
		keep := []int{1, 1, 0, 1, -9, -9}[:4]
		was := withSpare(d)
		given := append(diskTexts(d), text, list[0], list[1])
		first, second := cutAnswers(d, text, list, keep), cutAnswers(d, text, list, keep)
		for what, answer := range first {
			checkApart(t, what, diskTexts(answer), append(diskTexts(second[what]), given...))
			for _, w := range answer.Cache {
				checkApart(t, what+", its Cache", []string{w.Text}, answer.Sectors)
			}
			checkDisk(t, what, answer, second[what])
			spoilDisk(answer)
		}
		// Nothing is kept: what was done to an answer is not seen in a later one.
		for what, answer := range cutAnswers(d, text, list, keep) {
			checkDisk(t, what+" once more", answer, second[what])
		}
		other := logOf(0, []string{"zero"}, nil)
		impl.SameTexts(d, other)
		impl.SameTexts(other, d)
		impl.CutRight(d, d, d)
		impl.CutRight(other, d, other)
		checkDisk(t, "an argument, and what is behind it", withSpare(d), was)
		if !slices.Equal(list[:cap(list)], append(textsOf(64, 100), "mark", "mark")[:cap(list)]) {
			t.Error("something is written into a list of texts, or behind it")
		}
		if !slices.Equal(keep[:6], []int{1, 1, 0, 1, -9, -9}) {
			t.Error("something is written into keep, or behind it")
		}
	}
}

// A disk whose sectors and writes are one and the same text is answered in memory of its own, list by list.
func TestCutsOfSharedTexts(t *testing.T) {
	one := full("\x00")
	d := impl.Disk{Sectors: slices.Repeat([]string{one}, 97)}
	waits := impl.Disk{Sectors: d.Sectors, Cache: []impl.Put{{At: 3, Text: one}}}
	for _, answers := range []map[string]impl.Disk{cutAnswers(d, one, []string{one, one}, []int{1}), cutAnswers(waits, one, []string{one}, []int{1})} {
		for what, answer := range answers {
			checkApart(t, what, diskTexts(answer), []string{one})
			for _, w := range answer.Cache {
				checkApart(t, what+", its Cache", []string{w.Text}, answer.Sectors)
			}
		}
	}
}
