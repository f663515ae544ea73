package tests

import (
	"fmt"
	"math"
	"slices"
	"strconv"
	"strings"
	"testing"

	"loop.example/g00327/impl"
)

// numberTold is a number as reports tell it: one below 0 as 0.
func numberTold(n int) string {
	if n < 0 {
		return "0"
	}
	return strconv.Itoa(n)
}

func pairsTold(list []impl.Pair) string {
	told := ""
	for _, p := range list {
		if len(p.Value) > 20000 {
			p.Value = ""
		}
		told += fmt.Sprintf("%s=%x\n", p.Key, p.Value)
	}
	return told
}

func storeTold(s impl.Store) string {
	base := s.Engine.Base
	return fmt.Sprintf("cs %s open %d ready %d\n", numberTold(base.Cs), len(s.Engine.Open), len(base.Ready)) + pairsTold(scannedOf(base.Versions, everyKey, base.Cs))
}

func worldTold(w impl.World) string {
	told := ""
	for i, code := range w.Codes {
		said := "."
		if i < len(w.Said) && len(w.Said[i]) > 0 {
			said = w.Said[i]
		}
		told += numberTold(code) + " " + said + "\n"
	}
	return told + storeTold(w.Store)
}

// checkPairs asks for pairs; it ends the test with the first wrong answer, as all below do, since it is asked of very many.
func checkPairs(t *testing.T, what string, list []impl.Pair, want string) {
	t.Helper()
	if got := impl.ShowPairs(list); got != want {
		t.Fatalf("%s: ShowPairs is %q; want %q", what, got, want)
	}
}

// checkReports holds what is told of a world, its store and its pairs against the document's sentences.
func checkReports(t *testing.T, what string, w impl.World) {
	t.Helper()
	if got, want := impl.ShowWorld(w), worldTold(w); got != want {
		t.Fatalf("%s: ShowWorld is %q; want %q", what, got, want)
	}
	if got, want := impl.ShowStore(w.Store), storeTold(w.Store); got != want {
		t.Fatalf("%s: ShowStore is %q; want %q", what, got, want)
	}
	base := w.Store.Engine.Base
	pairs := scannedOf(base.Versions, everyKey, base.Cs)
	checkPairs(t, what, pairs, pairsTold(pairs))
}

// tells tells whether a world's report is these lines.
func tells(t *testing.T, what string, w impl.World, want ...string) {
	t.Helper()
	text := ""
	for _, line := range want {
		text += line + "\n"
	}
	if got := impl.ShowWorld(w); got != text {
		t.Errorf("%s: %q is told; want %q", what, got, text)
	}
	checkReports(t, what, w)
}

func TestShowPairs(t *testing.T) {
	for what, c := range map[string]struct {
		list []impl.Pair
		want string
	}{
		"nothing":                       {nil, ""},
		"an empty list":                 {[]impl.Pair{}, ""},
		"one":                           {[]impl.Pair{pair("a", "x")}, "a=78\n"},
		"two":                           {[]impl.Pair{pair("a", "x"), pair("b", "yz")}, "a=78\nb=797a\n"},
		"several":                       {[]impl.Pair{pair("a", "1"), pair("ab", "22"), pair("b", "333"), pair("zzz", "4")}, "a=31\nab=3232\nb=333333\nzzz=34\n"},
		"not ascending":                 {[]impl.Pair{pair("b", "1"), pair("a", "2"), pair("c", "3")}, "b=31\na=32\nc=33\n"},
		"one twice":                     {[]impl.Pair{pair("a", "1"), pair("a", "1")}, "a=31\na=31\n"},
		"one key twice":                 {[]impl.Pair{pair("a", "2"), pair("a", "1")}, "a=32\na=31\n"},
		"a value that is empty":         {[]impl.Pair{pair("a", "")}, "a=\n"},
		"values that are empty":         {[]impl.Pair{pair("a", ""), pair("b", ""), pair("c", "")}, "a=\nb=\nc=\n"},
		"one of three values is empty":  {[]impl.Pair{pair("a", "1"), pair("b", ""), pair("c", "3")}, "a=31\nb=\nc=33\n"},
		"a key that is empty":           {[]impl.Pair{pair("", "x")}, "=78\n"},
		"both are empty":                {[]impl.Pair{pair("", "")}, "=\n"},
		"two of which both are empty":   {[]impl.Pair{pair("", ""), pair("", "")}, "=\n=\n"},
		"a key with =":                  {[]impl.Pair{pair("a=b", "x")}, "a=b=78\n"},
		"a key that is =":               {[]impl.Pair{pair("=", "=")}, "==3d\n"},
		"a key with the byte 10":        {[]impl.Pair{pair("a\nb", "x")}, "a\nb=78\n"},
		"a key that is the byte 10":     {[]impl.Pair{pair("\n", "\n")}, "\n=0a\n"},
		"a key that is a blank":         {[]impl.Pair{pair(" ", " ")}, " =20\n"},
		"a key with blanks":             {[]impl.Pair{pair(" a b ", "x y")}, " a b =782079\n"},
		"a key of byte 0":               {[]impl.Pair{pair("\x00", "1")}, "\x00=31\n"},
		"a key of bytes that are none":  {[]impl.Pair{pair("\xff\xc3", "1")}, "\xff\xc3=31\n"},
		"a key of letters of two bytes": {[]impl.Pair{pair("äü", "1")}, "äü=31\n"},
		"a key of great letters":        {[]impl.Pair{pair("ABCDE", "1")}, "ABCDE=31\n"},
		"a value of byte 0":             {[]impl.Pair{pair("a", "\x00")}, "a=00\n"},
		"a value of byte 255":           {[]impl.Pair{pair("a", "\xff")}, "a=ff\n"},
		"a value of bytes 0 and 255":    {[]impl.Pair{pair("a", "\x00\xff\x00\x00\xff")}, "a=00ff0000ff\n"},
		"a value of low bytes":          {[]impl.Pair{pair("a", "\x01\x0f\x10\x1f")}, "a=010f101f\n"},
		"a value with =":                {[]impl.Pair{pair("a", "b=c")}, "a=623d63\n"},
		"a value that is hex":           {[]impl.Pair{pair("a", "fF0")}, "a=664630\n"},
		"a value that is a dot":         {[]impl.Pair{pair("a", ".")}, "a=2e\n"},
		"a value that is -":             {[]impl.Pair{pair("a", "-")}, "a=2d\n"},
		"a value of letters":            {[]impl.Pair{pair("a", "ä")}, "a=c3a4\n"},
		"a value of 12 bytes":           {[]impl.Pair{pair("abc", "twelve bytes")}, "abc=7477656c7665206279746573\n"},
	} {
		checkPairs(t, what, c.list, c.want)
		checkPairs(t, what+", in words", c.list, pairsTold(c.list))
	}
}

// Each byte, alone and with others, in keys and in values.
func TestShowPairsOfEveryByte(t *testing.T) {
	const figures = "0123456789abcdef"
	var all []impl.Pair
	want := ""
	for b := range 256 {
		one := string([]byte{byte(b)})
		hex := string([]byte{figures[b/16], figures[b%16]})
		checkPairs(t, "one byte", []impl.Pair{pair(one, one)}, one+"="+hex+"\n")
		checkPairs(t, "one byte, several times", []impl.Pair{pair("k"+one+one, one+one+"k")}, "k"+one+one+"="+hex+hex+"6b\n")
		all, want = append(all, pair(one, one)), want+one+"="+hex+"\n"
	}
	checkPairs(t, "all bytes", all, want)
	checkPairs(t, "all bytes in one", []impl.Pair{pair(allBytes(), allBytes())}, allBytes()+fmt.Sprintf("=%x\n", allBytes()))
}

// A value of more than MaxText bytes has no Hex: nothing stands behind its =. Others are told all the same.
func TestShowPairsOfLongTexts(t *testing.T) {
	for n, there := range map[int]bool{13: true, 128: true, 600: true, 19999: true, 20000: true, 20001: false, 40000: false, 300000: false} {
		value, key, hex := strings.Repeat("v", n), strings.Repeat("k", n), ""
		if there {
			hex = strings.Repeat("76", n)
		}
		checkPairs(t, fmt.Sprint("a value of ", n), []impl.Pair{pair("a", value)}, "a="+hex+"\n")
		checkPairs(t, fmt.Sprint("a key of ", n), []impl.Pair{pair(key, "x")}, key+"=78\n")
		checkPairs(t, fmt.Sprint("one of ", n, " between"), []impl.Pair{pair("a", "x"), pair("b", value), pair("c", value), pair("d", "y")}, "a=78\nb="+hex+"\nc="+hex+"\nd=79\n")
	}
	var many []impl.Pair
	for i := range 3000 {
		many = append(many, pair(fmt.Sprintf("k%d", i), strings.Repeat(string(rune('a'+i%26)), i%40)))
	}
	checkPairs(t, "many", many, pairsTold(many))
	if n := strings.Count(impl.ShowPairs(many), "\n"); n != 3000 {
		t.Errorf("%d lines are told of 3000", n)
	}
}

func TestShowStoreOfNothing(t *testing.T) {
	tells(t, "WorldNew", impl.WorldNew(), "cs 0 open 0 ready 0")
	tells(t, "nothing at all", impl.World{}, "cs 0 open 0 ready 0")
	w, _ := impl.RunWorld(nil)
	tells(t, "no event", w, "cs 0 open 0 ready 0")
	if got := impl.ShowStore(impl.StoreNew()); got != "cs 0 open 0 ready 0\n" {
		t.Errorf("of StoreNew %q is told", got)
	}
}

// withBase is a world that has just this base, and a new log.
func withBase(b impl.Base) impl.World {
	return impl.World{Store: impl.Store{Engine: impl.Engine{Base: b}, Disk: impl.LogNew()}}
}

func TestShowStoreNumbers(t *testing.T) {
	for cs, told := range map[int]string{
		0: "0", 1: "1", 9: "9", 10: "10", 100: "100", 9998: "9998", impl.MaxCs: "9999", impl.MaxCs + 1: "10000", 999999999: "999999999", impl.MaxNumber: "1000000000",
		impl.MaxNumber + 1: "1000000001", 1 << 32: "4294967296", math.MaxInt: "9223372036854775807", -1: "0", -9: "0", -impl.MaxNumber: "0", -impl.MaxNumber - 1: "0", math.MinInt: "0",
	} {
		tells(t, fmt.Sprint("cs ", cs), withBase(impl.Base{Cs: cs}), "cs "+told+" open 0 ready 0")
		tells(t, fmt.Sprint("cs ", cs, ", and another Next"), withBase(impl.Base{Cs: cs, Next: 77}), "cs "+told+" open 0 ready 0")
	}
	for open := range 13 {
		for ready := range 13 {
			w := withBase(impl.Base{Cs: 5, Next: 90, Ready: readyOf(ready)})
			w.Store.Engine.Open = openOf(open)
			tells(t, "how many", w, fmt.Sprintf("cs 5 open %d ready %d", open, ready))
			// How many there are is asked, not which: those that are not right count, and those of Past count for nothing.
			w.Store.Engine.Open, w.Store.Engine.Base.Ready, w.Store.Engine.Base.Past = make([]impl.Txn, open), make([]impl.Txn, ready), pastOf(7)
			tells(t, "how many that are not right", w, fmt.Sprintf("cs 5 open %d ready %d", open, ready))
			w.Store.Engine.Open, w.Store.Engine.Base.Ready = readyOf(open), openOf(ready)
			tells(t, "how many in other states", w, fmt.Sprintf("cs 5 open %d ready %d", open, ready))
		}
	}
	whole := wholeWorld(t)
	if got := impl.ShowStore(whole.Store); got != "cs 3 open 2 ready 1\na=627933\nb=627932\nc=627934\n" {
		t.Errorf("of a whole world %q is told", got)
	}
}

// What is told of keys: what a new one would see at Cs.
func TestShowStoreKeys(t *testing.T) {
	for what, c := range map[string]struct {
		cs       int
		versions []impl.Version
		want     []string
	}{
		"one":                               {1, []impl.Version{ver("a", "1", 1)}, []string{"a=31"}},
		"several":                           {3, []impl.Version{ver("a", "1", 1), ver("b", "2", 3), ver("bc", "3", 2), ver("c", "4", 1)}, []string{"a=31", "b=32", "bc=33", "c=34"}},
		"a value that is empty":             {1, []impl.Version{ver("a", "", 1), ver("b", "2", 1), ver("c", "", 1)}, []string{"a=", "b=32", "c="}},
		"a value of bytes 0 and 255":        {1, []impl.Version{ver("a", "\x00\xff", 1)}, []string{"a=00ff"}},
		"a value of the byte 10":            {1, []impl.Version{ver("a", "\n", 1)}, []string{"a=0a"}},
		"one with a Cs that is Cs":          {5, []impl.Version{ver("a", "1", 5)}, []string{"a=31"}},
		"one with a Cs above":               {5, []impl.Version{ver("a", "1", 6)}, nil},
		"one of both is above":              {5, []impl.Version{ver("a", "1", 4), ver("a", "2", 6)}, []string{"a=31"}},
		"the last one counts":               {5, []impl.Version{ver("a", "1", 3), ver("a", "2", 5)}, []string{"a=32"}},
		"the last one is empty":             {5, []impl.Version{ver("a", "1", 3), ver("a", "", 5)}, []string{"a="}},
		"the last one that is not above":    {5, []impl.Version{ver("a", "1", 3), ver("a", "2", 4), ver("a", "3", 7), ver("b", "4", 5), ver("b", "5", 6)}, []string{"a=32", "b=34"}},
		"one that is Gone":                  {5, []impl.Version{ver("a", "1", 3), goneVer("a", 5)}, nil},
		"one that is Gone alone":            {5, []impl.Version{goneVer("a", 5)}, nil},
		"one that is Gone above Cs":         {5, []impl.Version{ver("a", "1", 3), goneVer("a", 6)}, []string{"a=31"}},
		"one that is put again":             {5, []impl.Version{ver("a", "1", 3), goneVer("a", 4), ver("a", "2", 5)}, []string{"a=32"}},
		"one that is put again above Cs":    {5, []impl.Version{ver("a", "1", 3), goneVer("a", 4), ver("a", "2", 6)}, nil},
		"one between two that are gone":     {5, []impl.Version{ver("a", "1", 3), goneVer("a", 4), ver("b", "2", 3), ver("c", "3", 1), goneVer("c", 2)}, []string{"b=32"}},
		"the first and the last key":        {5, []impl.Version{ver("a", "1", 3), ver("zzz", "2", 3)}, []string{"a=31", "zzz=32"}},
		"keys that lie outside":             {5, []impl.Version{ver("", "0", 3), ver("A", "1", 3), ver("Z", "1", 3), ver("`", "2", 3), ver("a", "3", 3), ver("zzz", "4", 3), ver("zzza", "5", 3), ver("{", "6", 3)}, []string{"a=33", "zzz=34"}},
		"keys that lie outside alone":       {5, []impl.Version{ver("", "0", 3), ver("9", "1", 3), ver("`zz", "2", 3), ver("zzz\x00", "5", 3), ver("\xff", "6", 3)}, nil},
		"keys that are none, and lie in":    {5, []impl.Version{ver("a\x00", "1", 3), ver("aaaa", "2", 3), ver("b=c", "3", 3), ver("c\nd", "4", 3), ver("zzy9", "5", 3)}, []string{"a\x00=31", "aaaa=32", "b=c=33", "c\nd=34", "zzy9=35"}},
		"not ascending":                     {5, []impl.Version{ver("c", "1", 3), ver("a", "2", 5), ver("b", "3", 1), ver("a", "4", 4)}, []string{"a=32", "b=33", "c=31"}},
		"one Cs twice":                      {5, []impl.Version{ver("a", "1", 3), ver("a", "2", 3)}, []string{"a=31"}},
		"a Cs of 0":                         {0, []impl.Version{ver("a", "1", 0), ver("b", "1", 1)}, []string{"a=31"}},
		"a Cs of 0, and nothing is seen":    {0, []impl.Version{ver("a", "1", 1)}, nil},
		"a Cs of MaxNumber, and all is":     {impl.MaxNumber, []impl.Version{ver("a", "1", 1), ver("b", "2", impl.MaxCs), ver("c", "3", impl.MaxNumber), ver("d", "4", impl.MaxNumber+1)}, []string{"a=31", "b=32", "c=33"}},
		"the greatest Cs":                   {math.MaxInt, []impl.Version{ver("a", "1", 1), ver("b", "2", math.MaxInt), goneVer("c", 9)}, []string{"a=31", "b=32"}},
		"a value of more than 12 bytes":     {5, []impl.Version{ver("a", "thirteen_long", 5)}, []string{"a=746869727465656e5f6c6f6e67"}},
		"a value that has no Hex":           {5, []impl.Version{ver("a", strings.Repeat("v", 20001), 5), ver("b", "1", 5)}, []string{"a=", "b=31"}},
		"one that is Gone and has a value":  {5, []impl.Version{{Key: "a", Value: "1", Gone: true, Cs: 2}}, nil},
		"all that is, and what is not seen": {9, history(), linesOf(pairsTold(scannedOf(history(), everyKey, 9)))},
	} {
		head := fmt.Sprintf("cs %d open 0 ready 0", c.cs)
		tells(t, what, withBase(impl.Base{Versions: c.versions, Cs: c.cs}), append([]string{head}, c.want...)...)
	}
}

// linesOf are the lines of a text that each end with the byte 10.
func linesOf(text string) []string {
	return slices.DeleteFunc(strings.Split(text, "\n"), func(line string) bool { return line == "" })
}

// A Cs below 0 is told as 0; what is seen is what is seen at that Cs all the same.
func TestShowStoreBelowNought(t *testing.T) {
	list := []impl.Version{ver("a", "1", 1), ver("b", "2", 0), ver("c", "3", -4), ver("d", "4", -5), goneVer("d", -4), ver("e", "5", math.MinInt)}
	for cs, want := range map[int][]string{
		0: {"b=32", "c=33", "e=35"}, -1: {"c=33", "e=35"}, -4: {"c=33", "e=35"}, -5: {"d=34", "e=35"}, -6: {"e=35"}, math.MinInt: {"e=35"},
	} {
		tells(t, fmt.Sprint("cs ", cs), withBase(impl.Base{Versions: list, Cs: cs}), append([]string{"cs 0 open 0 ready 0"}, want...)...)
		tells(t, fmt.Sprint("cs ", cs, ", right versions"), withBase(impl.Base{Versions: history(), Cs: cs}), "cs 0 open 0 ready 0")
	}
}

// Every small right list of versions, at each number.
func TestShowStoreOfSmallLists(t *testing.T) {
	for _, list := range smallLists([]string{"a", "zzz"}, 3) {
		for cs := -1; cs <= 4; cs++ {
			checkReports(t, "a small list", withBase(impl.Base{Versions: list, Cs: cs}))
		}
	}
	for _, list := range append(mixedLists(), anyLists()...) {
		for _, cs := range anySnaps {
			checkReports(t, "any list", withBase(impl.Base{Versions: list, Cs: cs}))
		}
	}
}

func TestShowWorldCodes(t *testing.T) {
	for what, c := range map[string]struct {
		codes []int
		said  []string
		want  []string
	}{
		"no code":                        {nil, nil, nil},
		"no code, in lists":              {[]int{}, []string{}, nil},
		"one code":                       {[]int{0}, []string{"1"}, []string{"0 1"}},
		"one code above 0":               {[]int{5}, []string{""}, []string{"5 ."}},
		"several":                        {[]int{0, 1, 2, 3, 4, 5, 6}, []string{"1", "", "-", "", "a=1", "x", ""}, []string{"0 1", "1 .", "2 -", "3 .", "4 a=1", "5 x", "6 ."}},
		"a code below 0":                 {[]int{-1}, []string{"x"}, []string{"0 x"}},
		"codes below 0":                  {[]int{-1, -2, math.MinInt, 1, -7}, []string{"a", "", "c", "d", ""}, []string{"0 a", "0 .", "0 c", "1 d", "0 ."}},
		"great codes":                    {[]int{10, 99, impl.MaxNumber, impl.MaxNumber + 1, math.MaxInt}, []string{"a", "b", "c", "d", ""}, []string{"10 a", "99 b", "1000000000 c", "1000000001 d", "9223372036854775807 ."}},
		"said that is empty":             {[]int{0, 0}, []string{"", ""}, []string{"0 .", "0 ."}},
		"said that is a dot":             {[]int{0}, []string{"."}, []string{"0 ."}},
		"said that has a dot":            {[]int{0, 0}, []string{"..", "a."}, []string{"0 ..", "0 a."}},
		"said that is a blank":           {[]int{0}, []string{" "}, []string{"0  "}},
		"said that has blanks":           {[]int{0, 0}, []string{"a b", "  c  "}, []string{"0 a b", "0   c  "}},
		"said that is the byte 10":       {[]int{0}, []string{"\n"}, []string{"0 \n"}},
		"said that has the byte 10":      {[]int{0, 1}, []string{"a\nb", "\n\n"}, []string{"0 a\nb", "1 \n\n"}},
		"said that is a line of a store": {[]int{0}, []string{"cs 9 open 9 ready 9\n"}, []string{"0 cs 9 open 9 ready 9\n"}},
		"said that is no text of words":  {[]int{0, 0}, []string{"\x00\xff", "ä=ü,\t"}, []string{"0 \x00\xff", "0 ä=ü,\t"}},
		"said that is -":                 {[]int{0}, []string{"-"}, []string{"0 -"}},
		"said that is pairs":             {[]int{0}, []string{"a=1,b=2"}, []string{"0 a=1,b=2"}},
		"said that is 0":                 {[]int{0}, []string{"0"}, []string{"0 0"}},
		"nothing was said":               {[]int{0, 1}, nil, []string{"0 .", "1 ."}},
		"more codes than said":           {[]int{0, 1, 2}, []string{"x"}, []string{"0 x", "1 .", "2 ."}},
		"one code more":                  {[]int{0, 1}, []string{"x"}, []string{"0 x", "1 ."}},
		"more said than codes":           {[]int{0}, []string{"x", "y", "z"}, []string{"0 x"}},
		"said, and no code":              {nil, []string{"x", "y"}, nil},
		"one said more":                  {[]int{3, 0}, []string{"", "y", "z"}, []string{"3 .", "0 y"}},
	} {
		tells(t, what, impl.World{Codes: c.codes, Said: c.said}, append(slices.Clone(c.want), "cs 0 open 0 ready 0")...)
		whole := wholeWorld(t)
		whole.Codes, whole.Said = c.codes, c.said
		tells(t, what+", a whole world", whole, append(slices.Clone(c.want), "cs 3 open 2 ready 1", "a=627933", "b=627932", "c=627934")...)
	}
}

// What lies behind the end of Said in its memory was not said.
func TestShowWorldLooksNotBehindTheEnd(t *testing.T) {
	said, codes := []string{"x", "y", "z"}, []int{0, 1, 2}
	tells(t, "said", impl.World{Codes: codes, Said: said[:1]}, "0 x", "1 .", "2 .", "cs 0 open 0 ready 0")
	tells(t, "codes", impl.World{Codes: codes[:1], Said: said}, "0 x", "cs 0 open 0 ready 0")
}

// Nothing else than what the document names is told.
func TestReportsLookAtNothingElse(t *testing.T) {
	whole := wholeWorld(t)
	want := impl.ShowWorld(whole)
	for what, change := range map[string]func(w *impl.World){
		"Past of the world":       func(w *impl.World) { w.Past = nil },
		"another Past":            func(w *impl.World) { w.Past = pastOf(5) },
		"no disk":                 func(w *impl.World) { w.Store.Disk = impl.Disk{} },
		"another disk":            func(w *impl.World) { w.Store.Disk = logSaying(baseRecord(someBase())) },
		"a disk on which waits":   func(w *impl.World) { w.Store.Disk.Cache = manyWrites(3, 3) },
		"Past of the base":        func(w *impl.World) { w.Store.Engine.Base.Past = pastOf(9) },
		"no Past of the base":     func(w *impl.World) { w.Store.Engine.Base.Past = nil },
		"Next":                    func(w *impl.World) { w.Store.Engine.Base.Next = -4 },
		"what one of Open writes": func(w *impl.World) { w.Store.Engine.Open[0] = writing(openAt(1, 3), "a", "q") },
		"one of Ready":            func(w *impl.World) { w.Store.Engine.Base.Ready[0] = writing(namedOne(8, 3, "zz"), "a", "q") },
		"a version above Cs": func(w *impl.World) {
			w.Store.Engine.Base.Versions = append(w.Store.Engine.Base.Versions, ver("zz", "1", 4))
		},
	} {
		if got := impl.ShowWorld(changedWorld(whole, change)); got != want {
			t.Errorf("%s: %q is told; want %q", what, got, want)
		}
	}
}

// reported is the report of a life whose lines are told, each with its code and what is said, and what is told of the store then.
func reported(t *testing.T, store string, lines ...string) impl.World {
	t.Helper()
	w, want := runs(t, lines...), []string{}
	for _, line := range lines {
		_, answer, _ := strings.Cut(line, " -> ")
		if code, said, _ := strings.Cut(answer, " "); said == "" {
			answer = code + " ."
		}
		want = append(want, answer)
	}
	tells(t, lines[len(lines)-1], w, append(want, strings.Split(store, "; ")...)...)
	return w
}

// The whole text of two reports, as a reader would see it.
func TestReportsOfLives(t *testing.T) {
	w := runs(t, "begin -> 0 1", "begin -> 0 2", "get 1 a -> 0 -", "get 2 b -> 0 -", "put 1 b x -> 0", "put 2 a y -> 0", "commit 1 -> 0", "commit 2 -> 5", "begin -> 0 3", "scan 3 a z -> 0 b=x", "delete 3 b -> 0", "put 3 c zz -> 0",
		"scan 3 a z -> 0 c=zz", "get 9 a -> 1", "abort 2 -> 1")
	tells(t, "two that read each other's", w, "0 1", "0 2", "0 -", "0 -", "0 .", "0 .", "0 .", "5 .", "0 3", "0 b=x", "0 .", "0 .", "0 c=zz", "1 .", "1 .", "cs 1 open 1 ready 0", "b=78")
	w = lives(t, w, "commit 3 -> 0", "begin -> 0 4", "prepare 4 p -> 0")
	tells(t, "one is ready", w, "0 1", "0 2", "0 -", "0 -", "0 .", "0 .", "0 .", "5 .", "0 3", "0 b=x", "0 .", "0 .", "0 c=zz", "1 .", "1 .", "0 .", "0 4", "0 .", "cs 2 open 0 ready 1", "c=7a7a")
}

func TestReportsOfManyAtOnce(t *testing.T) {
	reported(t, "cs 1 open 0 ready 0; a=796573", "begin -> 0 1", "put 1 a yes -> 0", "commit 1 -> 0")
	reported(t, "cs 0 open 1 ready 0", "begin -> 0 1", "put 1 a yes -> 0")
	reported(t, "cs 0 open 0 ready 0", "begin -> 0 1", "put 1 a yes -> 0", "abort 1 -> 0")
	reported(t, "cs 0 open 0 ready 1", "begin -> 0 1", "put 1 a yes -> 0", "prepare 1 p -> 0")
	reported(t, "cs 1 open 0 ready 0; a=796573", "begin -> 0 1", "put 1 a yes -> 0", "prepare 1 p -> 0", "yes p -> 0")
	reported(t, "cs 0 open 0 ready 0", "begin -> 0 1", "put 1 a yes -> 0", "prepare 1 p -> 0", "no p -> 0")
	reported(t, "cs 1 open 0 ready 0", "begin -> 0 1", "commit 1 -> 0")
	reported(t, "cs 2 open 0 ready 0", "begin -> 0 1", "put 1 a yes -> 0", "commit 1 -> 0", "begin -> 0 2", "delete 2 a -> 0", "commit 2 -> 0")
	reported(t, "cs 3 open 0 ready 0; a=32", "begin -> 0 1", "put 1 a 1 -> 0", "commit 1 -> 0", "begin -> 0 2", "delete 2 a -> 0", "commit 2 -> 0", "begin -> 0 3", "put 3 a 2 -> 0", "commit 3 -> 0")
	reported(t, "cs 1 open 2 ready 0; a=79", "begin -> 0 1", "begin -> 0 2", "begin -> 0 3", "begin -> 0 4", "begin -> 3", "put 1 a x -> 0", "put 2 a y -> 0", "commit 2 -> 0", "commit 1 -> 4", "get 3 a -> 0 -", "commit 1 -> 1")
	reported(t, "cs 1 open 4 ready 3; d=34", "begin -> 0 1", "put 1 a 1 -> 0", "prepare 1 p -> 0", "begin -> 0 2", "put 2 b 2 -> 0", "prepare 2 q -> 0", "begin -> 0 3", "put 3 c 3 -> 0", "prepare 3 r -> 0", "begin -> 0 4", "put 4 d 4 -> 0", "commit 4 -> 0",
		"begin -> 0 5", "begin -> 0 6", "begin -> 0 7", "begin -> 0 8", "scan 8 a zzz -> 0 d=4")
	reported(t, "cs 3 open 0 ready 0; a=31; zzz=33", "begin -> 0 1", "begin -> 0 2", "begin -> 0 3", "put 1 a 1 -> 0", "put 2 ab 2 -> 0", "put 3 zzz 3 -> 0", "prepare 1 p -> 0", "commit 3 -> 0", "prepare 2 q -> 0", "fix -> 0", "fall 64 1 1 -> 0", "no q -> 0", "yes p -> 0",
		"yes p -> 1", "no q -> 1", "begin -> 0 4", "scan 4 a zzz -> 0 a=1,zzz=3", "get 4 ab -> 0 -", "put 4 abcd 5 -> 2", "get 4 abcd -> 2", "commit 4 -> 0", "fall 0 -> 0")
	reported(t, "cs 1 open 0 ready 1; a=31", "begin -> 0 1", "put 1 a 1 -> 0", "commit 1 -> 0", "begin -> 0 2", "get 2 a -> 0 1", "put 2 b 2 -> 0", "prepare 2 b -> 0", "begin -> 0 3", "put 3 c 3 -> 0", "put 3 b 3 -> 0", "fall 3 1 -> 0", "get 3 c -> 1", "commit 3 -> 1")
}

// Values that are empty are written, seen and told; no event of a line can have one.
func TestReportsOfEmptyValues(t *testing.T) {
	w, ok := impl.RunWorld([]impl.Event{{Kind: 1}, {Kind: 4, At: 1, Key: "a"}, {Kind: 4, At: 1, Key: "b", Text: "\x00\xff"}, {Kind: 2, At: 1, Key: "a"}, {Kind: 2, At: 1, Key: "c"}, {Kind: 3, At: 1, Key: "a", Text: "b"}, {Kind: 6, At: 1},
		{Kind: 1}, {Kind: 2, At: 2, Key: "a"}, {Kind: 3, At: 2, Key: "a", Text: "a"}, {Kind: 3, At: 2, Key: "c", Text: "d"}, {Kind: 4, At: 2, Key: "b", Text: ".\n "}, {Kind: 2, At: 2, Key: "b"}})
	checkAnswer(t, "it is run", ok, true)
	tells(t, "values that are empty", w, "0 1", "0 .", "0 .", "0 .", "0 -", "0 a=,b=\x00\xff", "0 .", "0 2", "0 .", "0 a=", "0 .", "0 .", "0 .\n ", "cs 1 open 1 ready 0", "a=", "b=00ff")
	w = impl.StepWorld(w, impl.Event{Kind: 6, At: 2})
	if got := impl.ShowStore(w.Store); got != "cs 2 open 0 ready 0\na=\nb=2e0a20\n" {
		t.Errorf("%q is told of the store", got)
	}
}

// readBack is what a report tells of a life, read from its lines: codes, what was said, the three numbers and what each key has.
func readBack(t *testing.T, report string) (codes []int, said []string, counts [3]int, values map[string]string) {
	t.Helper()
	values = map[string]string{}
	for _, line := range linesOf(report) {
		if head, rest, _ := strings.Cut(line, " "); head == "cs" {
			if _, err := fmt.Sscanf(rest, "%d open %d ready %d", &counts[0], &counts[1], &counts[2]); err != nil {
				t.Fatalf("%q is no line of a store", line)
			}
		} else if code, err := strconv.Atoi(head); err == nil {
			codes, said = append(codes, code), append(said, strings.TrimPrefix(rest, "."))
		} else {
			key, hex, _ := strings.Cut(line, "=")
			value, ok := impl.Unhex(hex)
			checkAnswer(t, "what is told of a value is read back", ok, true)
			values[key] = value
		}
	}
	return codes, said, counts, values
}

// Promise 17: a report tells what there is. In drawn lives it is what the document tells at each step, and all is read back from it:
// each code, what was said, how many are open and ready, and what was made by those that were let through.
func TestDrawnLivesAreTold(t *testing.T) {
	counts := map[string]int{}
	for seed := range 60 {
		l := newDrawnLife(seed, counts)
		if seed%3 == 0 {
			l = newTangledLife(seed, counts)
		}
		for range impl.MaxEvents {
			l.world = impl.StepWorld(l.world, l.event())
			checkReports(t, "a drawn life", l.world)
		}
		codes, said, numbers, values := readBack(t, impl.ShowWorld(l.world))
		made := valuesAt(l.world.Past, math.MaxInt)
		if !slices.Equal(codes, l.world.Codes) || !slices.Equal(said, l.world.Said) || !slices.Equal(pairsIn(values, everyKey), pairsIn(made, everyKey)) {
			t.Fatalf("%d: %v, %q and %q are read back of %v, %q and %q", seed, codes, said, values, l.world.Codes, l.world.Said, made)
		}
		if engine := l.world.Store.Engine; numbers != [3]int{len(l.world.Past), len(engine.Open), len(engine.Base.Ready)} {
			t.Fatalf("%d: %v are read back", seed, numbers)
		}
		counts[fmt.Sprint("open ", numbers[1])]++
		counts[fmt.Sprint("ready ", numbers[2])]++
		counts[fmt.Sprint("keys ", min(len(values), 3))]++
	}
	for _, what := range []string{"open 0", "open 4", "ready 0", "ready 2", "ready 3", "keys 1", "keys 2", "keys 3"} {
		if counts[what] == 0 {
			t.Errorf("%s never came: %v", what, counts)
		}
	}
}

// Stores and worlds that are not right are told, too.
func TestReportsOfAnything(t *testing.T) {
	disks, pasts := anyDisks(), anyPasts()
	said := [][]string{nil, {"", "x", "."}, {strings.Repeat("s", 30000), "\n", " "}, anyTexts()}
	codes := [][]int{nil, {0, 1, 2}, {-1, math.MinInt, math.MaxInt, impl.MaxNumber + 1, 7}, make([]int, 200)}
	for i, e := range anyEngines() {
		checkReports(t, "any", impl.World{Store: impl.Store{Engine: e, Disk: disks[i%len(disks)]}, Past: pasts[i%len(pasts)], Codes: codes[i%4], Said: said[i/4%4]})
		checkReports(t, "any, told by its log", impl.World{Store: storeOf(e), Codes: codes[i/3%4], Said: said[i%4]})
	}
	for i, b := range anyBases() {
		checkReports(t, "any base", impl.World{Store: impl.Store{Engine: impl.Engine{Base: b, Open: allTxns()[:i%5]}}, Codes: codes[i%4], Said: said[i/4%4]})
		for _, cs := range anySnaps {
			b.Cs = cs
			checkReports(t, "any base at another Cs", withBase(b))
		}
	}
	for _, text := range anyTexts() {
		list := []impl.Pair{pair(text, text), pair("", text), pair(text, ""), pair(text+text, "a")}
		checkPairs(t, "any text", list, pairsTold(list))
		checkReports(t, "any text was said", impl.World{Codes: []int{1, 0}, Said: []string{text, text + "\n"}})
	}
}

// Worlds with very long lists are told, too.
func TestReportsOfLongLists(t *testing.T) {
	b := impl.Base{Versions: manyVersions(1500), Ready: make([]impl.Txn, 700), Past: make([]impl.Txn, 300), Cs: 2}
	w := impl.World{Store: impl.Store{Engine: impl.Engine{Base: b, Open: make([]impl.Txn, 1200)}}, Codes: make([]int, 4000), Said: slices.Repeat([]string{"said", "", "."}, 900)}
	checkReports(t, "long", w)
	if lines := strings.Split(impl.ShowWorld(w), "\n"); lines[4000] != "cs 2 open 1200 ready 700" || len(lines) != 4000+1+500+1 {
		t.Errorf("%d lines, and behind the codes %q", len(lines), lines[4000])
	}
	w.Said = append(w.Said, strings.Repeat("long ", 100000))
	checkReports(t, "a long text was said", w)
}

// reports are all three of a world, and of pairs.
func reports(w impl.World, list []impl.Pair) []string {
	return []string{impl.ShowWorld(w), impl.ShowStore(w.Store), impl.ShowPairs(list)}
}

// Nothing is written into what is handed in, nor behind it, and what is told lies in memory of its own.
func TestReportsWriteNothing(t *testing.T) {
	for _, plain := range append(memoryWorlds(), wholeWorld(t), impl.World{Codes: []int{-3, 2, 1}}) {
		w := roomyWorld(plain)
		disk := withSpare(w.Store.Disk)
		list := []impl.Pair{pair(fresh("abc"), fresh("abc")), pair(fresh("a"), ""), pair("mark", "mark"), pair("mark", "mark")}
		was := slices.Clone(list)
		first, second := reports(w, list[:2]), reports(w, list[:2])
		checkAnswer(t, "once more", slices.Equal(first, second), true)
		checkAnswer(t, "pairs, and what is behind them", slices.Equal(list, was), true)
		for i, text := range first {
			others := slices.Concat(worldTexts(w), pairTexts(list), second, first[:i], first[i+1:])
			checkApart(t, "a report", []string{text}, others)
		}
		checkUntouched(t, w.Store.Engine.Base, plain.Store.Engine.Base)
		checkRoomy(t, w.Store.Engine.Open, plain.Store.Engine.Open)
		checkRoomy(t, w.Past, plain.Past)
		checkDisk(t, "an argument, and what is behind it", withSpare(w.Store.Disk), disk)
		checkAnswer(t, "Codes, and what is behind them", slices.Equal(w.Codes[:len(plain.Codes)+3], append(slices.Clone(plain.Codes), -9, -9, -9)), true)
		checkAnswer(t, "Said, and what is behind it", slices.Equal(w.Said[:len(plain.Said)+3], append(slices.Clone(plain.Said), "mark", "mark", "mark")), true)
	}
}
