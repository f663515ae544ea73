package tests

import (
	"fmt"
	"math"
	"runtime"
	"slices"
	"strconv"
	"strings"
	"sync"
	"testing"

	"loop.example/g00327/impl"
)

// eventWords are the kinds of events, each at its number.
var eventWords = []string{"", "begin", "get", "scan", "put", "delete", "commit", "abort", "prepare", "yes", "no", "fix", "fall"}

// ev is an event that is told in words: its kind, then At, Key and Text, as far as it has them; of a fall At and Keep, of yes and no the Key.
func ev(line string) impl.Event {
	words := strings.Fields(line)
	e := impl.Event{Kind: slices.Index(eventWords, words[0])}
	if e.Kind == 9 || e.Kind == 10 {
		words = slices.Insert(words, 1, "0")
	}
	for i, word := range words[1:] {
		n, err := strconv.Atoi(word)
		switch {
		case i == 0 && err == nil:
			e.At = n
		case e.Kind == 12 && err == nil:
			e.Keep = append(e.Keep, n)
		case i == 1:
			e.Key = word
		case i == 2:
			e.Text = word
		default:
			panic("no event: " + line)
		}
	}
	return e
}

func evs(lines ...string) []impl.Event {
	var events []impl.Event
	for _, line := range lines {
		events = append(events, ev(line))
	}
	return events
}

// eventRight is the document's sentence.
func eventRight(e impl.Event) bool {
	most := 0
	if e.Kind == 12 {
		most = 10
	}
	return e.Kind >= 1 && e.Kind <= 12 && e.At >= 0 && len(e.Key) <= 6 && len(e.Text) <= 20 && len(e.Keep) <= most
}

func saidOf(pairs []impl.Pair) string {
	said := ""
	for i, p := range pairs {
		if i > 0 {
			said += ","
		}
		said += p.Key + "=" + p.Value
	}
	return said
}

func riseOf(d impl.Disk) (impl.Store, bool) {
	played, ok := playLogOf(d)
	if !ok || !impl.LogOk(d) {
		return impl.Store{}, false
	}
	return impl.Store{Engine: impl.Engine{Base: played}, Disk: d}, true
}

// fallenOf is what is left of a log to which a record x was being written, byte by byte; where there is no room for it, all.
func fallenOf(d impl.Disk, keep []int, tear int) impl.Disk {
	if _, ok := appendedOf(d, "x"); !ok {
		return d
	}
	return leftOf(appending("x", d, impl.LogTexts(d), "x").steps[0], keep, tear%65)
}

// throughAt is who was let through, as it was ahead of that.
func throughAt(x impl.Txn, cs int) impl.Txn {
	x.State, x.Cs, x.Name = 3, cs, ""
	return x
}

// stepOf is the document's sentence, from one kind to the next.
func stepOf(w impl.World, e impl.Event) impl.World {
	if !eventRight(e) {
		return w
	}
	was, code, said := w.Store, 0, ""
	var through []impl.Txn
	switch e.Kind {
	case 1:
		id := 0
		if w.Store.Engine, id, code = beginOf(was.Engine); code == 0 {
			said = fmt.Sprint(id)
		}
	case 2:
		there := false
		if w.Store.Engine, said, there, code = getOf(was.Engine, e.At, e.Key); code == 0 && !there {
			said = "-"
		}
	case 3:
		var pairs []impl.Pair
		w.Store.Engine, pairs, code = scanOf(was.Engine, e.At, impl.Range{From: e.Key, To: e.Text})
		said = saidOf(pairs)
	case 4:
		w.Store.Engine, code = putOf(was.Engine, e.At, put(e.Key, e.Text))
	case 5:
		w.Store.Engine, code = putOf(was.Engine, e.At, gone(e.Key))
	case 6:
		if w.Store, code = storeCommitOf(was, e.At); code == 0 {
			through = was.Engine.Open[openPlace(was.Engine, e.At):]
		}
	case 7:
		w.Store.Engine, code = leaveOf(was.Engine, e.At)
	case 8:
		w.Store, code = storePrepareOf(was, e.At, e.Key)
	case 9:
		if w.Store, code = storeFinishOf(was, e.Key, true); code == 0 {
			ready := was.Engine.Base.Ready
			through = ready[slices.IndexFunc(ready, func(x impl.Txn) bool { return x.Name == e.Key }):]
		}
	case 10:
		w.Store, code = storeFinishOf(was, e.Key, false)
	case 11:
		ok := false
		if w.Store.Disk, ok = fixedOf(was.Disk); !ok {
			code = 3
		}
	case 12:
		ok := false
		if w.Store, ok = riseOf(fallenOf(was.Disk, e.Keep, e.At)); !ok {
			w.Store, code = was, 1
		}
	}
	if len(through) > 0 {
		w.Past = append(slices.Clone(w.Past), throughAt(through[0], was.Engine.Base.Cs+1))
	}
	w.Codes, w.Said = append(slices.Clone(w.Codes), code), append(slices.Clone(w.Said), said)
	return w
}

func sameWorld(a, b impl.World) bool {
	return sameStore(a.Store, b.Store) && slices.EqualFunc(a.Past, b.Past, sameTxn) && slices.Equal(a.Codes, b.Codes) && slices.Equal(a.Said, b.Said)
}

// checkWorld ends the test with the first wrong one, since it is asked of very many.
func checkWorld(t *testing.T, what string, got, want impl.World) {
	t.Helper()
	if !slices.Equal(got.Codes, want.Codes) || !slices.Equal(got.Said, want.Said) {
		t.Fatalf("%s: %v, %q; want %v, %q", what, got.Codes, got.Said, want.Codes, want.Said)
	}
	if !slices.EqualFunc(got.Past, want.Past, sameTxn) {
		t.Fatalf("%s: Past is %#v; want %#v", what, got.Past, want.Past)
	}
	checkStore(t, what, got.Store, want.Store)
}

// checkStep asks for one event, holds all of the answer against the document's sentence, and answers it.
func checkStep(t *testing.T, what string, w impl.World, e impl.Event) impl.World {
	t.Helper()
	got := impl.StepWorld(w, e)
	checkWorld(t, what, got, stepOf(w, e))
	return got
}

// lives takes a world through lines: each is an event, and what must be answered, its code and what is said.
func lives(t *testing.T, w impl.World, lines ...string) impl.World {
	t.Helper()
	for _, line := range lines {
		event, answer, _ := strings.Cut(line, " -> ")
		code, said, _ := strings.Cut(answer, " ")
		n := len(w.Codes)
		w = checkStep(t, line, w, ev(event))
		if len(w.Codes) != n+1 || len(w.Said) != n+1 || fmt.Sprint(w.Codes[n]) != code || w.Said[n] != said {
			t.Fatalf("%q: codes %v, said %q", line, w.Codes[n:], w.Said[n:])
		}
	}
	return w
}

// runs is a life from its beginning on, which is the same when it is run.
func runs(t *testing.T, lines ...string) impl.World {
	t.Helper()
	w := lives(t, impl.WorldNew(), lines...)
	var events []impl.Event
	for _, line := range lines {
		event, _, _ := strings.Cut(line, " -> ")
		events = append(events, ev(event))
	}
	got, ok := impl.RunWorld(events)
	checkAnswer(t, "it is run", ok, true)
	checkWorld(t, "run as stepped", got, w)
	checkAnswer(t, "its store is right", impl.StoreOk(w.Store), true)
	return w
}

func checkPast(t *testing.T, w impl.World, want ...impl.Txn) {
	t.Helper()
	if !slices.EqualFunc(w.Past, want, sameTxn) {
		t.Errorf("Past is %#v; want %#v", w.Past, want)
	}
}

// checkKeys tells whether a new one would see just this of all keys.
func checkKeys(t *testing.T, w impl.World, want string) {
	t.Helper()
	if got := saidOf(impl.ScanAt(w.Store.Engine.Base.Versions, everyKey, w.Store.Engine.Base.Cs)); got != want {
		t.Errorf("%q is seen; want %q", got, want)
	}
}

func TestEventKinds(t *testing.T) {
	kinds := []int{impl.EvBegin, impl.EvGet, impl.EvScan, impl.EvPut, impl.EvDelete, impl.EvCommit, impl.EvAbort, impl.EvPrepare, impl.EvYes, impl.EvNo, impl.EvFix, impl.EvFall, impl.MaxEvents}
	if !slices.Equal(kinds, []int{1, 2, 3, 4, 5, 6, 7, 8, 9, 10, 11, 12, 90}) {
		t.Errorf("the kinds are %v", kinds)
	}
}

func TestEventOk(t *testing.T) {
	for kind := 1; kind <= 12; kind++ {
		fall := kind == 12
		for _, c := range []struct {
			what string
			e    impl.Event
			want bool
		}{
			{"nothing", impl.Event{}, true},
			{"At 1", impl.Event{At: 1}, true},
			{"the greatest At", impl.Event{At: math.MaxInt}, true},
			{"At -1", impl.Event{At: -1}, false},
			{"the least At", impl.Event{At: math.MinInt}, false},
			{"a Key of 6 bytes", impl.Event{Key: "abcdef"}, true},
			{"a Key of 7 bytes", impl.Event{Key: "abcdefg"}, false},
			{"a Key of 6 bytes, no letters", impl.Event{Key: "\x00 A\xff9\n"}, true},
			{"a Key of 6 bytes, 3 letters", impl.Event{Key: "äöü"}, true},
			{"a Key of 7 bytes, 4 letters", impl.Event{Key: "äöüa"}, false},
			{"a very long Key", impl.Event{Key: strings.Repeat("a", 30000)}, false},
			{"a Text of 20 bytes", impl.Event{Text: strings.Repeat("t", 20)}, true},
			{"a Text of 21 bytes", impl.Event{Text: strings.Repeat("t", 21)}, false},
			{"a Text of 20 bytes, 10 letters", impl.Event{Text: strings.Repeat("ü", 10)}, true},
			{"a Text of 22 bytes, 11 letters", impl.Event{Text: strings.Repeat("ü", 11)}, false},
			{"a Text of bytes 0", impl.Event{Text: strings.Repeat("\x00", 20)}, true},
			{"a very long Text", impl.Event{Text: strings.Repeat("t", 30000)}, false},
			{"both of their lengths", impl.Event{Key: "abcdef", Text: strings.Repeat("t", 20), At: 7}, true},
			{"Keep that is empty, but there", impl.Event{Keep: []int{}}, true},
			{"1 Keep", impl.Event{Keep: []int{1}}, fall},
			{"1 Keep that is 0", impl.Event{Keep: []int{0}}, fall},
			{"10 Keep", impl.Event{Keep: slices.Repeat([]int{1}, 10)}, fall},
			{"11 Keep", impl.Event{Keep: slices.Repeat([]int{1}, 11)}, false},
			{"11 Keep that are 0", impl.Event{Keep: make([]int, 11)}, false},
			{"1000 Keep", impl.Event{Keep: make([]int, 1000)}, false},
			{"Keep of any numbers", impl.Event{Keep: []int{-1, math.MinInt, math.MaxInt, 2}}, fall},
			{"all at its limit", impl.Event{At: math.MaxInt, Key: "abcdef", Text: strings.Repeat("t", 20), Keep: make([]int, 10)}, fall},
		} {
			c.e.Kind = kind
			checkAnswer(t, eventWords[kind]+", "+c.what, impl.EventOk(c.e), c.want)
		}
	}
	for _, kind := range []int{0, 13, -1, -12, 14, 100, 256 + 1, math.MinInt, math.MaxInt} {
		checkAnswer(t, fmt.Sprint("kind ", kind), impl.EventOk(impl.Event{Kind: kind, At: 1, Key: "a"}), false)
	}
}

// mixedEvents are all mixes of kinds, numbers and lengths, at their limits and beside them.
func mixedEvents() []impl.Event {
	var all []impl.Event
	for kind := -1; kind <= 14; kind++ {
		for _, at := range []int{-1, 0, 1, 64} {
			for _, key := range []string{"", "a", "bcdefg", "bcdefgh"} {
				for _, n := range []int{0, 1, 12, 20, 21} {
					for _, keep := range []int{0, 1, 10, 11} {
						all = append(all, impl.Event{Kind: kind, At: at, Key: key, Text: strings.Repeat("t", n), Keep: slices.Repeat([]int{1}, keep)})
					}
				}
			}
		}
	}
	return all
}

func TestEventOkOfEveryMix(t *testing.T) {
	right := 0
	for _, e := range mixedEvents() {
		if impl.EventOk(e) != eventRight(e) {
			t.Fatalf("EventOk of %#v is %v", e, !eventRight(e))
		}
		if eventRight(e) {
			right++
		}
	}
	// 12 kinds, three At, three Key and four Text without Keep, and those of a fall with two lengths of it.
	if right != 12*3*3*4+3*3*4*2 {
		t.Errorf("%d are right", right)
	}
}

func TestWorldNew(t *testing.T) {
	w := impl.WorldNew()
	checkWorld(t, "WorldNew", w, impl.World{Store: impl.Store{Engine: impl.Engine{Base: impl.Base{Next: 1}}, Disk: impl.Disk{Sectors: slices.Repeat([]string{full("\x00")}, 97)}}})
	checkAnswer(t, "its store is right", impl.StoreOk(w.Store), true)
	w.Store.Disk.Sectors[0] = "other"
	checkAnswer(t, "WorldNew once more", impl.StoreOk(impl.WorldNew().Store), true)
}

// Two read what the other one writes: the second one is refused, and leaves nothing.
func TestLifeOfTwoThatReadEachOthers(t *testing.T) {
	w := runs(t, "begin -> 0 1", "begin -> 0 2", "get 1 a -> 0 -", "get 2 b -> 0 -", "put 1 b by1 -> 0", "put 2 a by2 -> 0", "commit 1 -> 0", "commit 2 -> 5",
		"commit 2 -> 1", "begin -> 0 3", "scan 3 a z -> 0 b=by1", "commit 3 -> 0", "get 3 b -> 1")
	checkPast(t, w, doing(pastOne(1, 0, 1), "a", "b"), doing(pastOne(3, 1, 2), "a..z", ""))
	checkKeys(t, w, "b=by1")
}

// Two write one key: who is let through first has it. Who gives up leaves nothing.
func TestLifeOfTwoThatWriteTheSame(t *testing.T) {
	w := runs(t, "begin -> 0 1", "begin -> 0 2", "begin -> 0 3", "put 1 a by1 -> 0", "put 2 a by2 -> 0", "put 3 a by3 -> 0", "put 3 c by3 -> 0", "get 2 a -> 0 by2", "get 1 a -> 0 by1",
		"commit 2 -> 0", "get 1 a -> 0 by1", "commit 1 -> 4", "abort 1 -> 1", "abort 3 -> 0", "abort 3 -> 1", "put 3 c by3 -> 1", "begin -> 0 4", "scan 4 a zzz -> 0 a=by2", "delete 4 a -> 0",
		"scan 4 a zzz -> 0", "get 4 a -> 0 -", "begin -> 0 5", "get 5 a -> 0 by2", "commit 4 -> 0", "get 5 a -> 0 by2", "begin -> 0 6", "get 6 a -> 0 -", "commit 6 -> 0", "commit 5 -> 0")
	checkPast(t, w, doing(pastOne(2, 0, 1), "a", "a"), doing(pastOne(4, 1, 2), "a..zzz a", "-a"), doing(pastOne(6, 2, 3), "a", ""), doing(pastOne(5, 1, 4), "a", ""))
	checkKeys(t, w, "")
}

// Some are made ready: nobody sees them until they are finished with yes; with no they leave nothing.
func TestLifeOfSomeThatAreReady(t *testing.T) {
	w := runs(t, "begin -> 0 1", "put 1 a by1 -> 0", "begin -> 0 2", "put 2 b by2 -> 0", "get 2 q -> 0 -", "prepare 1 p -> 0", "get 1 a -> 1", "commit 1 -> 1", "prepare 2 p -> 6", "get 2 b -> 0 by2",
		"prepare 2 P -> 2", "prepare 2 o -> 0", "begin -> 0 3", "scan 3 a z -> 0", "abort 3 -> 0", "begin -> 0 4", "put 4 a by4 -> 0", "commit 4 -> 4", "yes q -> 1", "no q -> 1", "yes o -> 0",
		"yes o -> 1", "no o -> 1", "begin -> 0 5", "scan 5 a z -> 0 b=by2", "no p -> 0", "no p -> 1", "yes p -> 1", "begin -> 0 6", "put 6 a by6 -> 0", "commit 6 -> 0", "scan 5 a z -> 0 b=by2", "commit 5 -> 0")
	checkPast(t, w, doing(pastOne(2, 0, 1), "q b", "b"), doing(pastOne(6, 1, 2), "", "a"), doing(pastOne(5, 1, 3), "a..z", ""))
	checkKeys(t, w, "a=by6,b=by2")
}

// Past tells who was let through as it was just ahead of that: one that was open is never Out, though the engine has it as
// Out behind that; one that was ready is Out when it was then, whatever fell between.
func TestPastTellsOutAsItWas(t *testing.T) {
	w := runs(t, "begin -> 0 1", "begin -> 0 2", "begin -> 0 3", "get 2 a -> 0 -", "put 2 b by2 -> 0", "put 3 a by3 -> 0", "commit 3 -> 0", "commit 2 -> 0")
	writer, reader := doing(pastOne(3, 0, 1), "", "a"), doing(pastOne(2, 0, 2), "a", "b")
	checkPast(t, w, writer, reader)
	if past := w.Store.Engine.Base.Past; !slices.EqualFunc(past, []impl.Txn{writer, markedOut(reader)}, sameTxn) {
		t.Errorf("the engine has %#v", past)
	}
	ready := []string{"begin -> 0 1", "begin -> 0 2", "get 1 a -> 0 -", "put 1 b by1 -> 0", "prepare 1 p -> 0", "put 2 a by2 -> 0", "commit 2 -> 0"}
	late := []string{"begin -> 0 1", "begin -> 0 2", "get 1 a -> 0 -", "put 1 b by1 -> 0", "put 2 a by2 -> 0", "commit 2 -> 0", "prepare 1 p -> 0"}
	first, second := doing(pastOne(2, 0, 1), "", "a"), markedOut(doing(pastOne(1, 0, 2), "a", "b"))
	for _, begin := range [][]string{ready, late} {
		for _, between := range [][]string{nil, {"fall 3 1 -> 0"}, {"fix -> 0"}, {"fix -> 0", "fall 0 -> 0", "fix -> 0", "fall 64 1 1 -> 0"}} {
			w := runs(t, slices.Concat(begin, between, []string{"yes p -> 0"})...)
			checkPast(t, w, first, second)
			w = runs(t, slices.Concat(begin, between, []string{"no p -> 0"})...)
			checkPast(t, w, first)
		}
	}
	w = runs(t, "begin -> 0 1", "begin -> 0 2", "get 1 a -> 0 -", "put 1 b by1 -> 0", "put 2 c by2 -> 0", "prepare 1 p -> 0", "commit 2 -> 0", "yes p -> 0")
	checkPast(t, w, doing(pastOne(2, 0, 1), "", "c"), doing(pastOne(1, 0, 2), "a", "b"))
}

// Who wrote nothing is let through with a number of its own, too.
func TestLifeOfSomeThatWriteNothing(t *testing.T) {
	w := runs(t, "begin -> 0 1", "commit 1 -> 0", "begin -> 0 2", "get 2 a -> 0 -", "commit 2 -> 0", "begin -> 0 3", "prepare 3 p -> 0", "fall 9 1 -> 0", "yes p -> 0", "begin -> 0 4", "scan 4 a b -> 0", "prepare 4 q -> 0", "no q -> 0")
	checkPast(t, w, pastOne(1, 0, 1), doing(pastOne(2, 1, 2), "a", ""), pastOne(3, 2, 3))
	checkKeys(t, w, "")
	if b := w.Store.Engine.Base; b.Cs != 3 || b.Next != 5 {
		t.Errorf("Cs %d, Next %d", b.Cs, b.Next)
	}
}

// A fall with many open and some ready: who was open is not there any more, and their Ids may come again; who was ready is still in
// doubt, and may be let through; what was answered stays.
func TestLifeThatFallsWithManyOpen(t *testing.T) {
	begin := []string{"begin -> 0 1", "begin -> 0 2", "begin -> 0 3", "begin -> 0 4", "put 1 a by1 -> 0", "get 2 a -> 0 -", "put 3 c by3 -> 0", "put 4 e by4 -> 0", "commit 1 -> 0", "prepare 3 p -> 0",
		"begin -> 0 5", "begin -> 0 6", "begin -> 3", "put 5 d by5 -> 0", "get 6 a -> 0 by1"}
	for _, fall := range []string{"fall 0", "fall 64", "fall 1000", "fall 64 1", "fall 0 1", "fall 1 1", "fall 30 1 1 1 1 1 1 1 1 1 1", "fall 64 0 1"} {
		w := runs(t, append(slices.Clone(begin), fall+" -> 0", "get 2 a -> 1", "scan 2 a b -> 1", "put 5 d by5 -> 1", "delete 6 d -> 1", "commit 4 -> 1", "abort 5 -> 1", "prepare 6 q -> 1",
			"begin -> 0 4", "get 4 a -> 0 by1", "scan 4 a z -> 0 a=by1", "put 4 c by4 -> 0", "commit 4 -> 4", "yes p -> 0", "begin -> 0 5", "scan 5 a z -> 0 a=by1,c=by3", "commit 5 -> 0", fall+" -> 0", "yes p -> 1")...)
		checkPast(t, w, doing(pastOne(1, 0, 1), "", "a"), doing(pastOne(3, 0, 2), "", "c"), doing(pastOne(5, 2, 3), "a..z", ""))
		checkKeys(t, w, "a=by1,c=by3")
	}
	w := runs(t, append(slices.Clone(begin), "fall 7 1 -> 0")...)
	if len(w.Store.Engine.Open) != 0 || !slices.Equal(impl.InDoubt(w.Store), []string{"p"}) || w.Store.Engine.Base.Next != 4 {
		t.Errorf("%#v behind a fall", w.Store.Engine)
	}
}

// What a fall leaves of what was being written, byte by byte: of a new log the record x is two bytes at the beginning of
// sector 2, of which one write waits.
func TestFallLeavesBytes(t *testing.T) {
	for line, want := range map[string]string{
		"fall 64 1": "\x01x", "fall 2 1": "\x01x", "fall 1 1": "\x01\x00", "fall 0 1": "\x00\x00", "fall 63 1": "\x01x", "fall 0": "\x00\x00", "fall 64": "\x00\x00",
		"fall 64 0": "\x00\x00", "fall 64 2": "\x00\x00", "fall 64 0 1": "\x00\x00", "fall 64 -1": "\x01x", "fall 64 3": "\x01x", "fall 64 1 0": "\x01x",
		"fall 65 1": "\x00\x00", "fall 66 1": "\x01\x00", "fall 67 1": "\x01x", "fall 129 1": "\x01x", "fall 130 1": "\x00\x00", "fall 131 1": "\x01\x00",
		"fall 64 1 1 1 1 1 1 1 1 1 1": "\x01x", "fall 1 1 1": "\x01\x00", "fall 64 -2": "\x00\x00", "fall 64 9223372036854775807": "\x01x",
		"fall 9223372036854775807 1": "\x01x", // The greatest number leaves 7 of 65.
	} {
		w := lives(t, impl.WorldNew(), line+" -> 0")
		d := impl.LogNew()
		d.Sectors[2] = want + d.Sectors[2][2:]
		checkWorld(t, line, w, impl.World{Store: impl.Store{Engine: impl.EngineNew(), Disk: d}, Codes: []int{0}, Said: []string{""}})
		// What is left there is of no account: the next one is written over it, and so is the next fall.
		w = lives(t, w, "begin -> 0 1", "put 1 a by1 -> 0", "commit 1 -> 0", line+" -> 0", line+" -> 0", "begin -> 0 2", "get 2 a -> 0 by1")
		checkAnswer(t, line+": right", impl.StoreOk(w.Store), true)
	}
}

// Where the record lies over two sectors two writes wait, and each may be lost; the last one that is kept is torn.
func TestFallOverTwoSectors(t *testing.T) {
	s := storeOf(impl.Engine{Base: baseOfSize(27*64 - 1)})
	head, tail := s.Disk.Sectors[28], s.Disk.Sectors[29]
	laidHead, laidTail := head[:63]+"\x01", "x"+tail[1:]
	for line, want := range map[string][2]string{
		"fall 64 1 1": {laidHead, laidTail}, "fall 1 1 1": {laidHead, laidTail}, "fall 0 1 1": {laidHead, tail}, "fall 64 1 0": {laidHead, tail}, "fall 63 1 0": {head, tail}, "fall 63 1": {head, tail},
		"fall 64 0 1": {head, laidTail}, "fall 0 0 1": {head, tail}, "fall 64": {head, tail}, "fall 64 0 0 1 1": {head, tail}, "fall 65 1 1 1": {laidHead, tail}, "fall 66 1 1": {laidHead, laidTail}, "fall 129 5": {laidHead, tail},
	} {
		w := lives(t, impl.World{Store: s}, line+" -> 0")
		d := impl.Disk{Sectors: slices.Clone(s.Disk.Sectors)}
		d.Sectors[28], d.Sectors[29] = want[0], want[1]
		checkDisk(t, line, w.Store.Disk, d)
		checkAnswer(t, line+": right", impl.StoreOk(w.Store) && impl.SameTexts(w.Store.Disk, s.Disk), true)
	}
}

// inWorld is a world in which something happened already.
func inWorld(s impl.Store) impl.World {
	return impl.World{Store: s, Past: []impl.Txn{doneTxn()}, Codes: []int{0, 5}, Said: []string{"1", ""}}
}

// A fall of a log that has no room for what was being written leaves all as it was, and it comes up.
func TestFallOfAFullLog(t *testing.T) {
	base := tidiedOf(someBase(), nil)
	for what, d := range map[string]impl.Disk{
		"no byte is left":           logWithRoom(someBase(), 0),
		"one byte is left":          logWithRoom(someBase(), 1),
		"255 records":               logSaying(append(slices.Repeat([]impl.Record{baseRecord(impl.BaseNew())}, 254), baseRecord(someBase()))...),
		"a base that fills an area": logSaying(baseRecord(baseOfSize(3008))),
	} {
		w := inWorld(impl.Store{Engine: someEngine(), Disk: d})
		for _, line := range []string{"fall 0", "fall 64 1 1 1", "fall 1 1"} {
			got := lives(t, w, line+" -> 0")
			checkDisk(t, what, got.Store.Disk, d)
			checkPast(t, got, w.Past...)
			if want := base; what != "a base that fills an area" {
				checkEngine(t, what, got.Store.Engine, impl.Engine{Base: want})
			}
		}
	}
	w := inWorld(impl.Store{Engine: someEngine(), Disk: logWithRoom(someBase(), 2)})
	got := lives(t, w, "fall 64 1 -> 0")
	checkAnswer(t, "two bytes are left", got.Store.Disk.Sectors[48] == w.Store.Disk.Sectors[48][:62]+"\x01x", true)
}

// What can't come up leaves all as it is, who is open too.
func TestFallThatCantComeUp(t *testing.T) {
	disks := wrongLogs()
	for what, texts := range unplayableTexts() {
		disks["log: "+what] = logWith(texts...)
	}
	for what, d := range disks {
		for _, e := range []impl.Engine{impl.EngineNew(), someEngine(), {}} {
			w := inWorld(impl.Store{Engine: e, Disk: d})
			for _, line := range []string{"fall 0", "fall 64 1 1", "fall 1 0 1"} {
				got := lives(t, w, line+" -> 1")
				checkWorld(t, what, got, impl.World{Store: w.Store, Past: w.Past, Codes: []int{0, 5, 1}, Said: []string{"1", "", ""}})
			}
		}
	}
}

// Logs that are full where something is to be kept: it is let through behind a switch; where that can't be it is refused.
func TestLifeWithAFullLog(t *testing.T) {
	e := judgedOne(6, "f g", "e")
	e.Base = impl.GivenUp(e.Base, "c")
	e.Open = append(e.Open, openAt(18, 7))
	for left := range 30 {
		w := inWorld(impl.Store{Engine: e, Disk: logWithRoom(e.Base, left)})
		for line, through := range map[string]impl.Txn{"commit 17": e.Open[0], "prepare 17 k": {}, "yes m": e.Base.Ready[0], "no m": {}, "fix": {}} {
			got := lives(t, w, line+" -> 0")
			checkAnswer(t, line+": right", impl.StoreOk(got.Store), true)
			if through.Id == 0 {
				checkPast(t, got, w.Past...)
			} else {
				checkPast(t, got, w.Past[0], throughAt(through, 10))
			}
		}
	}
	for what, d := range unkeeping() {
		w := inWorld(impl.Store{Engine: e, Disk: d})
		for _, line := range []string{"commit 17", "prepare 17 k"} {
			got := lives(t, w, line+" -> 3", "get 17 a -> 1", "get 18 a -> 0 a7")
			checkAnswer(t, what+": nothing is seen of it", got.Store.Engine.Base.Cs == 9 && sameDisk(got.Store.Disk, d) && impl.ReadyAt(got.Store.Engine.Base, "k") < 0, true)
			checkPast(t, got, w.Past...)
		}
		for _, line := range []string{"yes m", "no m", "yes mm", "no mm"} {
			got := lives(t, w, line+" -> 3")
			checkStore(t, what+": "+line, got.Store, w.Store)
			checkPast(t, got, w.Past...)
		}
	}
	for what, texts := range unplayableTexts() {
		w := inWorld(impl.Store{Engine: e, Disk: logWith(texts...)})
		checkStore(t, what, lives(t, w, "fix -> 3").Store, w.Store)
	}
	for what, d := range wrongLogs() {
		w := inWorld(impl.Store{Engine: e, Disk: d})
		checkStore(t, what, lives(t, w, "fix -> 3").Store, w.Store)
	}
}

// A log is fixed: who is open, and what they see, stays.
func TestLifeThatIsFixed(t *testing.T) {
	w := runs(t, "fix -> 0", "begin -> 0 1", "put 1 a by1 -> 0", "put 1 b by1 -> 0", "commit 1 -> 0", "begin -> 0 2", "put 2 c by2 -> 0", "prepare 2 p -> 0", "begin -> 0 3", "get 3 a -> 0 by1", "put 3 a by3 -> 0", "fix -> 0",
		"get 3 a -> 0 by3", "commit 3 -> 0", "begin -> 0 4", "delete 4 b -> 0", "commit 4 -> 0", "fix -> 0", "fix -> 0", "fall 2 1 -> 0", "yes p -> 0", "fix -> 0", "begin -> 0 5", "scan 5 a z -> 0 a=by3,c=by2", "fall 0 -> 0")
	want := impl.Base{Versions: []impl.Version{ver("a", "by3", 2), ver("c", "by2", 4)}, Cs: 4, Next: 5}
	if got := impl.LogTexts(w.Store.Disk); !slices.Equal(got, []string{textOf(baseRecord(want))}) || impl.ActiveOf(w.Store.Disk) != 1 {
		t.Errorf("the log has %q", got)
	}
	checkPast(t, w, doing(pastOne(1, 0, 1), "", "a b"), doing(pastOne(3, 1, 2), "a", "a"), doing(pastOne(4, 2, 3), "", "-b"), doing(pastOne(2, 1, 4), "", "c"))
}

// What is said of a value, of an empty one, of what is not there, of what one wrote oneself, and of what is gone.
func TestWhatIsSaid(t *testing.T) {
	looks := []string{"get %d b -> 0", "get %d c -> 0 -", "get %d d -> 0 a=b,c", "get %d e -> 0 -", "get %d f -> 0 -", "scan %d a zzz -> 0 a=by1,b=,c=-,d=a=b,c,zzz=twelve_bytes", "scan %d b b -> 0 b=", "scan %d e g -> 0", "get %d g -> 0 -"}
	others := []string{"scan %d a a -> 0 a=by1", "scan %d a b -> 0 a=by1,b=", "scan %d aa b -> 0 b=", "scan %d dd zzz -> 0 zzz=twelve_bytes", "scan %d dd zzy -> 0", "scan %d c zz -> 0 c=-,d=a=b,c", "get %d a -> 0 by1", "get %d zzz -> 0 twelve_bytes"}
	lines := []string{"begin -> 0 1", "put 1 b -> 0", "put 1 a by1 -> 0", "put 1 d a=b,c -> 0", "put 1 c - -> 0", "delete 1 e -> 0", "put 1 zzz twelve_bytes -> 0"}
	by := func(id int, looks []string) {
		for _, line := range looks {
			lines = append(lines, strings.Replace(line, "%d", strconv.Itoa(id), 1))
		}
	}
	by(1, looks)
	// There is no room for one more, not even for what is there already.
	lines = append(lines, "get 1 a -> 3", "get 1 b -> 3", "scan 1 e g -> 3", "scan 1 g e -> 2", "get 1 B -> 2", "commit 1 -> 0", "begin -> 0 2")
	by(2, looks)
	lines = append(lines, "commit 2 -> 0", "begin -> 0 3")
	by(3, others)
	lines = append(lines, "abort 3 -> 0", "begin -> 0 4", "delete 4 a -> 0", "put 4 aa own -> 0", "delete 4 d -> 0", "put 4 d again -> 0", "put 4 c -> 0", "get 4 a -> 0 -", "get 4 c -> 0", "scan 4 a zzz -> 0 aa=own,b=,c=,d=again,zzz=twelve_bytes",
		"begin -> 0 5", "scan 5 a c -> 0 a=by1,b=,c=-", "commit 4 -> 0", "scan 5 b c -> 0 b=,c=-", "fall 64 1 -> 0", "begin -> 0 5", "scan 5 a e -> 0 aa=own,b=,c=,d=again", "get 5 a -> 0 -")
	w := runs(t, lines...)
	checkKeys(t, w, "aa=own,b=,c=,d=again,zzz=twelve_bytes")
}

// Values of any bytes are said as they are.
func TestWhatIsSaidOfAnyBytes(t *testing.T) {
	for _, value := range []string{"\x00", "\n", ",", "=", "-", "\xff\xfe", "a,b=c,", "ünüb", strings.Repeat("\x80", 12), " ", "0"} {
		w := impl.WorldNew()
		for i, e := range []impl.Event{{Kind: 1}, {Kind: 4, At: 1, Key: "k", Text: value}, {Kind: 2, At: 1, Key: "k"}, {Kind: 6, At: 1}, {Kind: 1}, {Kind: 2, At: 2, Key: "k"}, {Kind: 3, At: 2, Key: "a", Text: "z"}} {
			w = checkStep(t, value, w, e)
			checkCode(t, value, w.Codes[i], 0)
		}
		if !slices.Equal(w.Said, []string{"1", "", value, "", "2", value, "k=" + value}) {
			t.Errorf("%q is said", w.Said)
		}
	}
}

// everyKind is an event of each kind, of the transaction at.
func everyKind(at int) []impl.Event {
	return evs("begin", fmt.Sprint("get ", at, " a"), fmt.Sprint("scan ", at, " a c"), fmt.Sprint("put ", at, " a v"), fmt.Sprint("delete ", at, " a"), fmt.Sprint("commit ", at), fmt.Sprint("abort ", at), fmt.Sprint("prepare ", at, " p"), "yes p", "no p", "fix", "fall 1 1")
}

// checkEveryKind asks for each kind alone, from w on: the codes, and what is said.
func checkEveryKind(t *testing.T, what string, w impl.World, at int, codes []int, said ...string) {
	t.Helper()
	for i, e := range everyKind(at) {
		got := checkStep(t, what, w, e)
		n := len(w.Codes)
		want := ""
		if i < len(said) {
			want = said[i]
		}
		if got.Codes[n] != codes[i] || got.Said[n] != want || len(got.Codes) != n+1 || len(got.Said) != n+1 {
			t.Errorf("%s, %s: code %d, said %q", what, eventWords[i+1], got.Codes[n], got.Said[n])
		}
		if !slices.Equal(got.Codes[:n], w.Codes) || !slices.Equal(got.Said[:n], w.Said) {
			t.Errorf("%s, %s: what was told before is not there", what, eventWords[i+1])
		}
	}
}

func TestEveryKindWithNobodyAndWithFour(t *testing.T) {
	none := []int{0, 1, 1, 1, 1, 1, 1, 1, 1, 1, 0, 0}
	all := []int{0, 0, 0, 0, 0, 0, 0, 0, 1, 1, 0, 0}
	for _, at := range []int{0, 1, 2, math.MaxInt} {
		checkEveryKind(t, "nobody open", impl.WorldNew(), at, none, "1")
	}
	w := impl.WorldNew()
	for id := 1; id <= 4; id++ {
		checkEveryKind(t, "one that is not begun", w, id, none, fmt.Sprint(id))
		w = lives(t, w, fmt.Sprint("begin -> 0 ", id))
		if id < 4 {
			checkEveryKind(t, "some open", w, id, all, fmt.Sprint(id+1), "-")
		}
	}
	none[0], all[0] = 3, 3
	for id := 1; id <= 4; id++ {
		checkEveryKind(t, "four open", w, id, all, "", "-")
	}
	for _, at := range []int{0, 5, 6, math.MaxInt} {
		checkEveryKind(t, "four open, and one that is not there", w, at, none)
	}
	w = lives(t, w, "abort 2 -> 0", "prepare 3 p -> 0")
	yes := []int{0, 0, 0, 0, 0, 0, 0, 6, 0, 0, 0, 0}
	for _, id := range []int{1, 4} {
		checkEveryKind(t, "one is ready", w, id, yes, "5", "-")
	}
	for _, id := range []int{2, 3} {
		checkEveryKind(t, "one that left, or is ready", w, id, []int{0, 1, 1, 1, 1, 1, 1, 1, 0, 0, 0, 0}, "5")
	}
}

// A code of one that is not there comes ahead of one of a key that is not right; that one ahead of one of no room.
func TestCodesInTheirOrder(t *testing.T) {
	w := lives(t, impl.WorldNew(), "begin -> 0 1", "begin -> 0 2", "put 2 z v -> 0", "prepare 2 p -> 0", "get 9 A -> 1", "scan 9 b a -> 1", "put 9 A v -> 1", "delete 9 A -> 1", "prepare 9 A -> 1", "prepare 9 p -> 1",
		"get 1 -> 2", "get 1 A -> 2", "get 1 abcd -> 2", "get 1 abcdef -> 2", "scan 1 b a -> 2", "scan 1 a -> 2", "scan 1 -> 2", "scan 1 a A -> 2", "scan 1 a abcd -> 2", "scan 1 abcd b -> 2", "scan 1 zzz zzy -> 2",
		"put 1 -> 2", "put 1 abcd v -> 2", "put 1 a thirteen_long -> 2", "put 1 a 20bytes_20bytes_20by -> 2", "put 1 a twelve_bytes -> 0", "delete 1 -> 2", "delete 1 abcdef -> 2", "delete 1 A -> 2",
		"prepare 1 -> 2", "prepare 1 abcd -> 2", "prepare 1 P -> 2", "prepare 1 p -> 6", "yes -> 1", "yes P -> 1", "no abcdef -> 1", "get 1 a -> 0 twelve_bytes")
	for i, key := range letters(7) {
		w = lives(t, w, fmt.Sprint("get 1 b", key, " -> 0 -"), fmt.Sprint("put 1 b", key, " v", i, " -> 0"))
	}
	w = lives(t, w, "get 1 a -> 3", "get 1 c -> 3", "scan 1 a c -> 3", "get 1 A -> 2", "scan 1 c a -> 2", "put 1 c v -> 3", "delete 1 c -> 3", "put 1 C v -> 2", "delete 1 C -> 2", "put 1 ba v -> 0", "delete 1 bb -> 0", "commit 1 -> 0")
	checkKeys(t, w, "a=twelve_bytes,ba=v,bc=v2,bd=v3,be=v4,bf=v5,bg=v6")
}

// Where there is no room for one more in Past, nobody is let through or made ready, until who is open from of old leaves.
func TestLifeWithMaxPast(t *testing.T) {
	lines := []string{"begin -> 0 1", "begin -> 0 2", "put 2 p by2 -> 0", "prepare 2 p -> 0"}
	for id := 3; id < 15; id++ {
		lines = append(lines, fmt.Sprint("begin -> 0 ", id), fmt.Sprint("commit ", id, " -> 0"))
	}
	w := runs(t, append(lines, "begin -> 0 15", "commit 15 -> 3", "commit 15 -> 1", "begin -> 0 16", "prepare 16 q -> 3", "prepare 16 q -> 1", "yes p -> 3", "begin -> 0 17", "abort 1 -> 0", "yes p -> 0", "commit 17 -> 0")...)
	if len(w.Past) != 14 || w.Past[12].Id != 2 || w.Past[13].Id != 17 || w.Past[12].Cs != 13 || w.Past[13].Cs != 14 {
		t.Errorf("Past is %#v", w.Past)
	}
	w = runs(t, append(lines, "no p -> 0", "begin -> 0 15", "fall 0 -> 0", "begin -> 0 15", "commit 15 -> 0")...)
	if len(w.Past) != 13 {
		t.Errorf("Past is %#v", w.Past)
	}
}

func TestLifeWithMaxReady(t *testing.T) {
	w := runs(t, "begin -> 0 1", "begin -> 0 2", "begin -> 0 3", "begin -> 0 4", "prepare 1 b -> 0", "prepare 2 a -> 0", "prepare 3 c -> 0", "prepare 4 c -> 6", "prepare 4 d -> 3", "prepare 4 d -> 1", "begin -> 0 5", "commit 5 -> 0",
		"fall 64 1 -> 0", "begin -> 0 6", "no a -> 0", "prepare 6 d -> 0", "yes c -> 0", "yes d -> 0", "yes b -> 0", "yes a -> 1")
	checkPast(t, w, pastOne(5, 0, 1), pastOne(3, 0, 2), pastOne(6, 1, 3), pastOne(1, 0, 4))
}

// With more than 100 versions nobody is let through any more.
func TestLifeWithManyVersions(t *testing.T) {
	w := lives(t, impl.WorldNew(), "begin -> 0 1", "prepare 1 p -> 0")
	for i := range 13 {
		id := i + 2
		w = lives(t, w, fmt.Sprint("begin -> 0 ", id))
		for k, key := range letters(8) {
			w = lives(t, w, fmt.Sprintf("put %d %s%s by%d -> 0", id, letters(26)[i], key, k))
		}
		w = lives(t, w, fmt.Sprint("commit ", id, " -> 0"))
	}
	w = lives(t, w, "begin -> 0 15", "begin -> 0 16", "delete 15 aa -> 0", "yes p -> 3", "commit 15 -> 3", "prepare 16 q -> 3", "no p -> 0", "fix -> 0", "fall 0 -> 0", "begin -> 0 15", "get 15 mh -> 0 by7", "commit 15 -> 3")
	checkAnswer(t, "right", impl.StoreOk(w.Store) && len(w.Past) == 13 && len(w.Store.Engine.Base.Versions) == 104, true)
}

func TestLifeWithTheGreatestNumbers(t *testing.T) {
	w := lives(t, impl.World{Store: storeOf(impl.Engine{Base: impl.Base{Cs: 9998, Next: 9998}})}, "begin -> 0 9998", "begin -> 3", "get 9998 a -> 0 -", "commit 9998 -> 0", "begin -> 3")
	checkPast(t, w, doing(pastOne(9998, 9998, 9999), "a", ""))
	w = lives(t, impl.World{Store: storeOf(impl.Engine{Base: impl.Base{Cs: 9999, Next: 5, Ready: []impl.Txn{namedOne(3, 7, "p")}}})}, "begin -> 0 5", "commit 5 -> 3", "begin -> 0 6", "prepare 6 q -> 3", "yes p -> 3", "no p -> 0")
	checkPast(t, w)
}

// An event looks at no field but its own.
func TestEventsLookAtTheirFieldsAlone(t *testing.T) {
	w := lives(t, impl.WorldNew(), "begin -> 0 1", "begin -> 0 2", "put 1 a by1 -> 0", "put 2 b by2 -> 0", "prepare 2 p -> 0", "begin -> 0 3")
	for i, own := range []string{"", "at key", "at key text", "at key text", "at key", "at", "at", "at key", "key", "key", "", "at keep"} {
		want := impl.StepWorld(w, everyKind(1)[i])
		for _, at := range []int{0, 2, 3, math.MaxInt} {
			for _, key := range []string{"", "b", "p", "q", "ABCDEF"} {
				for _, text := range []string{"", "a", "z", "thirteen_long", strings.Repeat("\xff", 20)} {
					e := everyKind(1)[i]
					if !strings.Contains(own, "at") {
						e.At = at
					}
					if !strings.Contains(own, "key") {
						e.Key = key
					}
					if !strings.Contains(own, "text") {
						e.Text = text
					}
					checkWorld(t, fmt.Sprintf("%#v", e), checkStep(t, "other fields", w, e), want)
				}
			}
		}
	}
}

// An event that is not right leaves a world as it is: nothing is told of it either.
func TestStepWorldOfEveryMix(t *testing.T) {
	w := lives(t, impl.WorldNew(), "begin -> 0 1", "put 1 a by1 -> 0", "begin -> 0 2", "commit 1 -> 0", "begin -> 0 3", "prepare 3 p -> 0")
	for _, e := range mixedEvents() {
		got := checkStep(t, fmt.Sprintf("%#v", e), w, e)
		checkAnswer(t, "something happens", len(got.Codes) == 7, eventRight(e))
	}
	for _, e := range []impl.Event{{}, {Kind: 13}, {Kind: 6, At: -1}, {Kind: 2, At: 1, Key: "abcdefg"}, {Kind: 4, At: 1, Key: "a", Text: strings.Repeat("v", 21)}, {Kind: 6, At: 2, Keep: []int{1}}, {Kind: 12, Keep: make([]int, 11)}} {
		checkWorld(t, fmt.Sprintf("%#v", e), impl.StepWorld(w, e), w)
		for _, s := range []impl.Store{{}, storeOf(someEngine()), {Engine: someEngine(), Disk: diskOf(3, manyWrites(4, 3)...)}} {
			checkWorld(t, "as it is", impl.StepWorld(inWorld(s), e), inWorld(s))
		}
		checkWorld(t, "nothing", impl.StepWorld(impl.World{}, e), impl.World{})
	}
}

func checkNotRun(t *testing.T, what string, events []impl.Event) {
	t.Helper()
	got, ok := impl.RunWorld(events)
	checkAnswer(t, what, ok, false)
	checkWorld(t, what, got, impl.World{})
}

// checkRun tells whether what is run is what is stepped one by one.
func checkRun(t *testing.T, what string, events []impl.Event) impl.World {
	t.Helper()
	want := impl.WorldNew()
	for _, e := range events {
		want = impl.StepWorld(want, e)
	}
	got, ok := impl.RunWorld(events)
	checkAnswer(t, what, ok, true)
	checkWorld(t, what, got, want)
	return got
}

// manyEvents are n of all kinds, all of them right.
func manyEvents(n int) []impl.Event {
	lines := []string{"begin", "get 1 a", "put 1 a v", "put 1 b w", "begin", "commit 1", "scan 2 a z", "delete 2 b", "prepare 2 p", "fall 5 1", "yes p", "fix", "no p", "abort 2", "begin", "get 3 a", "commit 3"}
	var events []impl.Event
	for i := range n {
		events = append(events, ev(lines[i%len(lines)]))
	}
	return events
}

func TestRunWorldOfSoMany(t *testing.T) {
	for _, events := range [][]impl.Event{nil, {}} {
		got, ok := impl.RunWorld(events)
		checkAnswer(t, "no event", ok, true)
		checkWorld(t, "no event", got, impl.WorldNew())
	}
	for n := range 91 {
		w := checkRun(t, fmt.Sprint(n, " events"), manyEvents(n))
		if len(w.Codes) != n || len(w.Said) != n {
			t.Errorf("%d codes, %d said of %d events", len(w.Codes), len(w.Said), n)
		}
	}
	for _, n := range []int{91, 92, 180, 5000} {
		checkNotRun(t, fmt.Sprint(n, " events"), manyEvents(n))
		checkNotRun(t, fmt.Sprint(n, " begin"), slices.Repeat(evs("begin"), n))
		checkNotRun(t, fmt.Sprint(n, " that are not right"), make([]impl.Event, n))
	}
	w := checkRun(t, "90 begin", slices.Repeat(evs("begin"), 90))
	checkAnswer(t, "four of 90", slices.Equal(w.Said[:5], []string{"1", "2", "3", "4", ""}) && slices.Equal(w.Codes[:5], []int{0, 0, 0, 0, 3}) && w.Codes[89] == 3, true)
	checkRun(t, "90 falls", slices.Repeat(evs("fall 1 1"), 90))
	checkRun(t, "90 fixes", slices.Repeat(evs("fix"), 90))
}

// One that is not right, wherever it stands, and nothing is run.
func TestRunWorldOfOneThatIsNotRight(t *testing.T) {
	wrong := []impl.Event{{}, {Kind: -1}, {Kind: 13, At: 1}, {Kind: 1, At: -1}, {Kind: 2, At: 1, Key: "abcdefg"}, {Kind: 4, At: 1, Key: "a", Text: strings.Repeat("v", 21)}, {Kind: 1, Keep: []int{0}}, {Kind: 12, Keep: make([]int, 11)}}
	for _, n := range []int{1, 2, 3, 20, 90, 91} {
		for at := range n {
			events := manyEvents(n)
			events[at] = wrong[(at+n)%len(wrong)]
			checkNotRun(t, fmt.Sprint("at ", at, " of ", n), events)
		}
	}
	for i, e := range wrong {
		checkNotRun(t, fmt.Sprint("alone: ", i), []impl.Event{e})
		checkNotRun(t, fmt.Sprint("first: ", i), append([]impl.Event{e}, manyEvents(89)...))
		checkNotRun(t, fmt.Sprint("in the middle: ", i), slices.Insert(manyEvents(30), 15, e))
		checkNotRun(t, fmt.Sprint("last: ", i), append(manyEvents(89), e))
		checkNotRun(t, fmt.Sprint("all: ", i), slices.Repeat([]impl.Event{e}, 90))
	}
}

// Lives that are run at the same time do not disturb each other, and nothing runs on when they have answered.
func TestRunWorldAtOnce(t *testing.T) {
	before := runtime.NumGoroutine()
	want := make([]impl.World, 8)
	for i := range want {
		want[i], _ = impl.RunWorld(manyEvents(83 + i%8))
		if n := runtime.NumGoroutine(); n > before {
			t.Errorf("%d run, %d before", n, before)
		}
	}
	events := manyEvents(90)
	got := make([]impl.World, 64)
	var all sync.WaitGroup
	for i := range got {
		all.Add(1)
		go func() {
			defer all.Done()
			got[i], _ = impl.RunWorld(events[:83+i%8])
		}()
	}
	all.Wait()
	for i, w := range got {
		checkWorld(t, "at once", w, want[i%8])
	}
}

// valuesAt is what those that were let through up to a number made, one behind the other.
func valuesAt(past []impl.Txn, snap int) map[string]string {
	values := map[string]string{}
	for _, x := range past {
		if x.Cs <= snap {
			changeValues(values, x.Writes)
		}
	}
	return values
}

func changeValues(values map[string]string, writes []impl.Write) {
	for _, w := range writes {
		values[w.Key] = w.Value
		if w.Gone {
			delete(values, w.Key)
		}
	}
}

// drawnLife is a life whose events are drawn, mostly of those that are open or in doubt, now and then of others.
type drawnLife struct {
	draw    drawn
	world   impl.World
	events  []impl.Event
	keys    []string
	value   string
	weights []int
	stays   bool
	counts  map[string]int
}

func (l *drawnLife) key() string {
	if l.draw.below(40) == 0 {
		return anyTexts()[l.draw.below(len(anyTexts()))]
	}
	return l.keys[l.draw.below(len(l.keys))]
}

func (l *drawnLife) id() int {
	open := l.world.Store.Engine.Open
	if l.stays && len(open) > 1 {
		open = open[1:]
	}
	if len(open) > 0 && l.draw.below(25) > 0 {
		return open[l.draw.below(len(open))].Id
	}
	return l.draw.below(l.world.Store.Engine.Base.Next + 1)
}

func (l *drawnLife) name() string {
	ready := l.world.Store.Engine.Base.Ready
	if len(ready) > 0 && l.draw.below(2) > 0 {
		return ready[l.draw.below(len(ready))].Name
	}
	return letters(4)[l.draw.below(4)]
}

func (l *drawnLife) keep() []int {
	var keep []int
	for range l.draw.below(12) {
		keep = append(keep, l.draw.below(5)-2)
	}
	return keep
}

// lifeWeights are how often each kind of event comes, at its number; at 0 one of any kind, which may be not right.
func lifeWeights() [][]int {
	return [][]int{
		{2, 18, 20, 8, 26, 6, 16, 2, 10, 8, 4, 1, 2},  // a bit of all
		{2, 8, 60, 20, 60, 10, 6, 1, 4, 4, 2, 1, 1},   // who looks and writes much ahead of being let through
		{1, 40, 6, 2, 20, 3, 40, 0, 8, 4, 1, 1, 0},    // who is soon let through
		{1, 30, 10, 4, 100, 6, 30, 1, 10, 8, 2, 0, 1}, // who writes much, in a log that is not fixed
	}
}

// event draws the next one.
func (l *drawnLife) event() impl.Event {
	left := 0
	for _, weight := range l.weights {
		left += weight
	}
	left = l.draw.below(left)
	e := impl.Event{At: l.id(), Key: l.key()}
	for left >= l.weights[e.Kind] {
		left -= l.weights[e.Kind]
		e.Kind++
	}
	switch e.Kind {
	case 0:
		e = impl.Event{Kind: l.draw.below(15) - 1, At: l.draw.below(9) - 1, Key: l.key(), Text: strings.Repeat("t", l.draw.below(25))}
		if l.draw.below(2) == 0 {
			e.Keep = l.keep()
		}
	case 3:
		e.Text = l.key()
		if e.Text < e.Key && l.draw.below(8) > 0 {
			e.Key, e.Text = e.Text, e.Key
		}
	case 4:
		e.Text = l.value[l.draw.below(len(l.value)):]
	case 8, 9, 10:
		if l.draw.below(12) > 0 {
			e.Key = l.name()
		}
	case 12:
		e.At, e.Keep = l.draw.below(140), l.keep()
	}
	return e
}

// checkSaid holds what is said of one that looks against what those in Past made, up to when it began, and what it wrote itself.
func (l *drawnLife) checkSaid(t *testing.T, was impl.World, e impl.Event, said string) {
	t.Helper()
	x := was.Store.Engine.Open[openPlace(was.Store.Engine, e.At)]
	values := valuesAt(was.Past, x.Snap)
	changeValues(values, x.Writes)
	want := saidOf(pairsIn(values, impl.Range{From: e.Key, To: e.Text}))
	if e.Kind == 2 {
		value, there := values[e.Key]
		if want = value; !there {
			want = "-"
		}
	}
	if said != want {
		t.Fatalf("%#v says %q; want %q", e, said, want)
	}
}

// step lets the next one happen, and holds it against the document's sentence, and against what happened before.
func (l *drawnLife) step(t *testing.T) {
	t.Helper()
	e, was := l.event(), l.world
	l.world = checkStep(t, "a drawn life", was, e)
	if !eventRight(e) {
		l.counts["not right"]++
		return
	}
	l.events = append(l.events, e)
	n := len(l.events) - 1
	if len(l.world.Codes) != n+1 || len(l.world.Said) != n+1 {
		t.Fatalf("%d codes, %d said of %d events", len(l.world.Codes), len(l.world.Said), n+1)
	}
	code, said := l.world.Codes[n], l.world.Said[n]
	l.counts[fmt.Sprint(eventWords[e.Kind], " ", code)]++
	if code != 0 && said != "" {
		t.Fatalf("%#v says %q with the code %d", e, said, code)
	}
	if code == 0 && (e.Kind == 2 || e.Kind == 3) {
		l.checkSaid(t, was, e, said)
	}
	if impl.ActiveOf(was.Store.Disk) != impl.ActiveOf(l.world.Store.Disk) && e.Kind != 11 {
		l.counts["switched"]++
	}
	if base := l.world.Store.Engine.Base; len(l.world.Past) != base.Cs || base.Cs > 0 && l.world.Past[base.Cs-1].Cs != base.Cs {
		t.Fatalf("%d in Past, the last number is %d", len(l.world.Past), base.Cs)
	}
}

// newDrawnLife has few keys or many, short values or long ones; in some the one that began first stays open.
func newDrawnLife(seed int, counts map[string]int) *drawnLife {
	l := &drawnLife{draw: drawn(seed*7919 + 1), world: impl.WorldNew(), keys: letters(2 + seed%5), value: "value", weights: lifeWeights()[seed%4], stays: seed%8 == 2, counts: counts}
	if seed%3 == 2 {
		l.keys = letters(14)
	}
	if seed%4 == 3 {
		l.keys, l.value = nil, "thirteen_long"
		for _, v := range keysOf(90) {
			l.keys = append(l.keys, v.Key)
		}
	}
	return l
}

// Promise 15: in drawn lives the code of each event, and what is said, are what the document tells; the store and Past are, too. What
// is run is what is stepped. Who was let through is in order, each seeing what it saw.
func TestDrawnLives(t *testing.T) {
	counts := map[string]int{}
	for seed := range 120 {
		l := newDrawnLife(seed, counts)
		for range 90 {
			l.step(t)
		}
		w := checkRun(t, "a drawn life", l.events)
		checkWorld(t, "a drawn life, run", w, l.world)
		n := l.draw.below(len(l.events))
		checkRun(t, "its beginning", l.events[:n])
		// Some go on for so long that their logs are full.
		for range 30 + 600*(seed%4/3) {
			l.step(t)
		}
		if !impl.StoreOk(l.world.Store) || !impl.SerialRight(l.world.Past) {
			t.Fatalf("what is left is not right: %#v", l.world.Past)
		}
		if got := saidOf(impl.ScanAt(l.world.Store.Engine.Base.Versions, everyKey, len(l.world.Past))); got != saidOf(pairsIn(valuesAt(l.world.Past, len(l.world.Past)), everyKey)) {
			t.Fatalf("%q is seen in the end", got)
		}
	}
	for kind, codes := range []string{"", "03", "0123", "0123", "0123", "0123", "01345", "01", "0123456", "013", "01", "0", "0"} {
		for _, code := range codes {
			if what := eventWords[kind] + " " + string(code); counts[what] == 0 {
				t.Errorf("%s never came", what)
			}
		}
	}
	if counts["not right"] < 20 || counts["switched"] < 8 {
		t.Errorf("%d not right, %d switched", counts["not right"], counts["switched"])
	}
}

// Every kind of event, in worlds of every engine beside disks of all sorts, right or wrong, held against the document's sentences.
func TestWorldsOfAnything(t *testing.T) {
	disks, names := anyDisks(), append(anyTexts(), "p", "c", "mm", "m", "k")
	pasts := [][]impl.Txn{nil, allTxns(), someBase().Past, {{}, {}}}
	for i, e := range anyEngines() {
		ids := []int{0, 1, 20, math.MaxInt}
		for _, x := range slices.Concat(e.Open, e.Base.Past, e.Base.Ready) {
			ids = append(ids, x.Id)
		}
		slices.Sort(ids)
		ids = slices.Compact(ids)
		for k, id := range ids[:min(len(ids), 7)] {
			w := impl.World{Store: impl.Store{Engine: e, Disk: disks[(i*7+k)%len(disks)]}, Past: pasts[(i+k)%4], Codes: []int{math.MinInt, 7, -1}[:k%4], Said: anyTexts()[:k%3]}
			if k%2 == 0 {
				w.Store.Disk = disks[(i+k)%5]
			}
			name := names[(i*3+k)%len(names)]
			for kind := range 13 {
				event := impl.Event{Kind: kind, At: id, Key: name, Text: names[(i+k)%len(names)]}
				if (i+k+kind)%2 == 0 {
					event.Key, event.Text = letters(26)[(i+k)%26], "z"
				}
				if kind == 12 {
					event.At, event.Keep = i+k, []int{k, i, 1}
				}
				checkStep(t, "any", w, event)
			}
		}
		for k, x := range e.Base.Ready[:min(len(e.Base.Ready), 8)] {
			for _, d := range []impl.Disk{disks[i%len(disks)], disks[(i+k)%5]} {
				w := impl.World{Store: impl.Store{Engine: e, Disk: d}}
				checkStep(t, "any", w, impl.Event{Kind: 9, Key: x.Name})
				checkStep(t, "any", w, impl.Event{Kind: 10, Key: x.Name})
			}
		}
	}
	for kind := range 14 {
		checkStep(t, "nothing", impl.World{}, impl.Event{Kind: kind})
	}
}

// Worlds with very long lists are answered, too.
func TestWorldsOfLongLists(t *testing.T) {
	e := impl.Engine{Base: impl.Base{Versions: manyVersions(900), Cs: 5000, Next: 3}}
	for i := range 200 {
		e.Base.Past = append(e.Base.Past, writing(pastOne(-i, 1, 5000-i), "p"))
		e.Base.Ready = append(e.Base.Ready, reading(namedOne(1000+i, 1, fmt.Sprintf("%05d", i*2)), "r"))
		e.Open = append(e.Open, reading(writing(openAt(2000+i, 4000+i), letters(26)[i%26]), "w"))
	}
	w := impl.World{Past: slices.Repeat(allTxns(), 30), Codes: make([]int, 2000), Said: slices.Repeat([]string{"said", strings.Repeat("s", 300)}, 500)}
	for _, s := range []impl.Store{{Engine: e, Disk: impl.LogNew()}, {Engine: e, Disk: diskOf(400, manyWrites(200, 300)...)}, storeOf(someEngine())} {
		w.Store = s
		for _, at := range []int{2013, 17} {
			for _, event := range append(everyKind(at), impl.Event{Kind: 9, Key: "00044"}, impl.Event{Kind: 10, Key: "00044"}, impl.Event{Kind: 3, At: at, Key: "a", Text: "zzz"}, impl.Event{}) {
				checkStep(t, "long", w, event)
			}
		}
	}
}

// roomyEvents are in memory of their own, with marked room behind the list, and behind each Keep.
func roomyEvents(events []impl.Event) []impl.Event {
	var out []impl.Event
	for _, e := range events {
		e.Key, e.Text, e.Keep = fresh(e.Key), fresh(e.Text), append(slices.Clone(e.Keep), -9, -9)[:len(e.Keep)]
		out = append(out, e)
	}
	return append(out, impl.Event{Kind: -9}, impl.Event{Kind: -9})[:len(events)]
}

func sameEvent(a, b impl.Event) bool {
	return a.Kind == b.Kind && a.At == b.At && a.Key == b.Key && a.Text == b.Text && slices.Equal(a.Keep, b.Keep)
}

func checkEvents(t *testing.T, got, want []impl.Event) {
	t.Helper()
	mark := impl.Event{Kind: -9}
	if !slices.EqualFunc(got[:len(want)+2], append(slices.Clone(want), mark, mark), sameEvent) {
		t.Error("something is written into the events, or behind them")
	}
	for _, e := range got {
		if n := len(e.Keep); !slices.Equal(e.Keep[n:n+2], []int{-9, -9}) {
			t.Error("something is written behind a Keep")
		}
	}
}

// roomyWorld is w in memory of its own, with marked room behind each of its lists, and behind those in them.
func roomyWorld(w impl.World) impl.World {
	var said []string
	for _, text := range w.Said {
		said = append(said, fresh(text))
	}
	return impl.World{
		Store: roomyStore(w.Store), Past: roomyTxns(w.Past),
		Codes: append(slices.Clone(w.Codes), -9, -9, -9)[:len(w.Codes)], Said: append(said, "mark", "mark", "mark")[:len(w.Said)],
	}
}

func worldTexts(w impl.World) []string {
	return slices.Concat(storeTexts(w.Store), txnsTexts(w.Past), w.Said)
}

// worldListsApart tells whether no text of one list of an answer lies in the memory of another list.
func worldListsApart(t *testing.T, what string, w impl.World) {
	t.Helper()
	storeListsApart(t, what, w.Store)
	engine := w.Store.Engine
	checkListsApart(t, what, impl.Base{Versions: engine.Base.Versions, Past: slices.Concat(engine.Base.Past, engine.Base.Ready, engine.Open), Ready: w.Past})
	others := append(storeTexts(w.Store), txnsTexts(w.Past)...)
	checkApart(t, what+", Said", w.Said, others)
	checkApart(t, what+", all but Said", others, w.Said)
	checkApart(t, what+", Past", txnsTexts(w.Past), storeTexts(w.Store))
}

// spoilWorld writes into one list of an answer after the other, and behind it: each time all lists that follow are as they were.
func spoilWorld(t *testing.T, what string, w, was impl.World) {
	t.Helper()
	spoil(w.Store.Engine.Base)
	checkAnswer(t, what+": Open", slices.EqualFunc(w.Store.Engine.Open, was.Store.Engine.Open, sameTxn), true)
	spoil(impl.Base{Past: w.Store.Engine.Open})
	checkDisk(t, what, w.Store.Disk, was.Store.Disk)
	spoilDisk(w.Store.Disk)
	checkAnswer(t, what+": Past", slices.EqualFunc(w.Past, was.Past, sameTxn), true)
	spoil(impl.Base{Past: w.Past})
	checkAnswer(t, what+": Codes", slices.Equal(w.Codes, was.Codes), true)
	checkAnswer(t, what+": Said", slices.Equal(w.Said, was.Said), true)
	for i := range w.Codes {
		w.Codes[i] = -66
	}
	for i := range w.Said {
		w.Said[i] = "other"
	}
	_, _ = append(w.Codes, -66), append(w.Said, "other")
}

// memoryWorlds have stores of all sorts, one text in all places, and something that happened.
func memoryWorlds() []impl.World {
	said, one := fresh("said"), fresh("abc")
	var all []impl.World
	for i, s := range memoryStores() {
		w := impl.World{Store: s, Past: s.Engine.Base.Past, Codes: []int{1, 2, 3}[:i%4], Said: []string{said, "", said, one, "-"}[:i%6]}
		if i%2 == 0 {
			w.Past = slices.Concat(s.Engine.Open, s.Engine.Base.Ready)
		}
		all = append(all, w)
	}
	return all
}

// memoryEvents are of each kind, and some that are not right, of whom there may be.
func memoryEvents(w impl.World) []impl.Event {
	var out []impl.Event
	ids := []int{1}
	for _, x := range w.Store.Engine.Open {
		ids = append(ids, x.Id)
	}
	for i, id := range ids[:min(len(ids), 3)] {
		out = append(out, everyKind(id)[i%2:]...)
		out = append(out, impl.Event{Kind: 3, At: id, Key: "a", Text: "zzz"}, impl.Event{Kind: 4, At: id, Key: "abc", Text: "abc"}, impl.Event{Kind: 2, At: id, Key: "abc"}, impl.Event{Kind: 8, At: id, Key: "abc"}, impl.Event{Kind: 4, At: id, Key: "abcdefg"})
	}
	for _, name := range []string{"r", "c", "m", "mm", "abc", "b"} {
		out = append(out, impl.Event{Kind: 9, Key: name}, impl.Event{Kind: 10, Key: name})
	}
	return append(out, impl.Event{}, impl.Event{Kind: 12, At: 64, Keep: []int{1, 1, 1}})
}

func TestWorldsAnswerNewMemory(t *testing.T) {
	for _, plain := range memoryWorlds() {
		w := roomyWorld(plain)
		events, disk := roomyEvents(memoryEvents(plain)), withSpare(w.Store.Disk)
		given := worldTexts(w)
		for i, e := range events {
			what := fmt.Sprintf("%s %d", eventWords[max(e.Kind, 0)], i)
			first, second := impl.StepWorld(w, e), impl.StepWorld(w, e)
			checkApart(t, what, worldTexts(first), slices.Concat(worldTexts(second), given, []string{e.Key, e.Text}))
			worldListsApart(t, what, first)
			spoilWorld(t, what, first, second)
			checkWorld(t, what+", once more", impl.StepWorld(w, e), second)
			impl.EventOk(e)
		}
		checkEvents(t, events, memoryEvents(plain))
		checkUntouched(t, w.Store.Engine.Base, plain.Store.Engine.Base)
		checkRoomy(t, w.Store.Engine.Open, plain.Store.Engine.Open)
		checkRoomy(t, w.Past, plain.Past)
		checkDisk(t, "an argument, and what is behind it", withSpare(w.Store.Disk), disk)
		checkAnswer(t, "Codes, and what is behind them", slices.Equal(w.Codes[:len(plain.Codes)+3], append(slices.Clone(plain.Codes), -9, -9, -9)), true)
		checkAnswer(t, "Said, and what is behind it", slices.Equal(w.Said[:len(plain.Said)+3], append(slices.Clone(plain.Said), "mark", "mark", "mark")), true)
	}
}

func TestRunsAnswerNewMemory(t *testing.T) {
	lives := [][]impl.Event{nil, manyEvents(90), manyEvents(91), {{}}, evs("begin", "get 1 a", "begin", "get 2 a", "put 1 abc abc", "get 1 abc", "commit 1", "scan 2 a zzz", "begin", "get 3 abc", "prepare 2 abc", "fall 1 1 1", "yes abc", "begin", "get 3 abc", "get 3 z")}
	for seed := range 20 {
		l := newDrawnLife(seed, map[string]int{})
		for range 60 {
			l.step(t)
		}
		lives = append(lives, l.events)
	}
	for i, plain := range lives {
		events := roomyEvents(plain)
		var given []string
		for _, e := range events {
			given = append(given, e.Key, e.Text)
		}
		what := fmt.Sprint("life ", i)
		first, _ := impl.RunWorld(events)
		second, _ := impl.RunWorld(events)
		checkApart(t, what, worldTexts(first), append(worldTexts(second), given...))
		worldListsApart(t, what, first)
		spoilWorld(t, what, first, second)
		again, _ := impl.RunWorld(events)
		checkWorld(t, what+", once more", again, second)
		checkEvents(t, events, plain)
	}
	first, second := impl.WorldNew(), impl.WorldNew()
	checkApart(t, "WorldNew", worldTexts(first), worldTexts(second))
	spoilWorld(t, "WorldNew", first, second)
	checkWorld(t, "WorldNew, once more", impl.WorldNew(), second)
}

// From one world several go on, each in its own way: none disturbs another one, nor the one that they come from.
func TestWorldsGoOnApart(t *testing.T) {
	w := runs(t, "begin -> 0 1", "begin -> 0 2", "put 1 a by1 -> 0", "put 2 b by2 -> 0", "get 2 c -> 0 -", "prepare 2 p -> 0", "begin -> 0 3", "get 3 a -> 0 -", "commit 1 -> 0")
	was := roomyWorld(w)
	events := append(everyKind(3), ev("yes p"), ev("put 3 q v"), ev("get 3 c"))
	var behind, want []impl.World
	for _, e := range events {
		behind, want = append(behind, impl.StepWorld(w, e)), append(want, stepOf(w, e))
	}
	for i := range events {
		checkWorld(t, "one of several", behind[i], want[i])
		for _, e := range events {
			checkStep(t, "further on", behind[i], e)
		}
		checkWorld(t, "one of several, behind all others", behind[i], want[i])
	}
	checkWorld(t, "where they come from", w, was)
}
