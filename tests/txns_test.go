package tests

import (
	"math"
	"slices"
	"strings"
	"testing"

	"loop.example/g00327/impl"
)

// rangesOf are n right ranges, no two of them alike.
func rangesOf(n int) []impl.Range {
	var list []impl.Range
	for i := range n {
		key := string(rune('a' + i))
		list = append(list, impl.Range{From: key, To: key + "zz"})
	}
	return list
}

func oneKey(key string) impl.Range {
	return impl.Range{From: key, To: key}
}

func openTxn() impl.Txn {
	return impl.Txn{Id: 7, State: 1, Snap: 3, Reads: rangesOf(2), Writes: []impl.Write{put("b", "own"), gone("d")}}
}

func readyTxn() impl.Txn {
	return impl.Txn{Id: 8, State: 2, Snap: 4, Reads: rangesOf(3), Writes: []impl.Write{put("c", "")}, Out: true, Name: "ab"}
}

func doneTxn() impl.Txn {
	return impl.Txn{Id: 300, State: 3, Snap: 129, Cs: 200, Reads: rangesOf(1), Writes: []impl.Write{gone("x"), put("y", "twelve bytes")}}
}

// changed is t behind what change does to it.
func changed(t impl.Txn, change func(t *impl.Txn)) impl.Txn {
	change(&t)
	return t
}

// rightTxns are ordinary ones, and the edges that the document names.
func rightTxns() map[string]impl.Txn {
	eight := writesOf(letters(8)...)
	eight[3], eight[7].Value = gone("d"), strings.Repeat("\xff", 12)
	return map[string]impl.Txn{
		"open": openTxn(), "ready": readyTxn(), "done": doneTxn(),
		"the least":             {Id: 1, State: 1},
		"the least ready":       {Id: 1, State: 2, Name: "a"},
		"the least done":        {Id: 1, State: 3, Cs: 1},
		"Id MaxCs":              {Id: 9999, State: 1},
		"Snap MaxCs":            {Id: 1, State: 1, Snap: 9999},
		"Snap MaxCs, ready":     {Id: 1, State: 2, Snap: 9999, Name: "zzz"},
		"Cs one above Snap":     {Id: 2, State: 3, Snap: 4, Cs: 5},
		"Cs MaxCs":              {Id: 2, State: 3, Snap: 4, Cs: 9999},
		"Snap and Cs at MaxCs":  {Id: 9999, State: 3, Snap: 9998, Cs: 9999},
		"numbers of two bytes":  {Id: 128, State: 3, Snap: 128, Cs: 129},
		"numbers of one byte":   {Id: 127, State: 3, Snap: 126, Cs: 127},
		"one Read":              {Id: 3, State: 1, Reads: []impl.Range{{From: "a", To: "zzz"}}},
		"a Read of one key":     {Id: 3, State: 1, Reads: []impl.Range{oneKey("abc")}},
		"a Read twice":          {Id: 3, State: 1, Reads: []impl.Range{oneKey("b"), oneKey("a"), oneKey("b")}},
		"MaxReads Reads":        {Id: 3, State: 1, Reads: rangesOf(8)},
		"MaxReads Reads, done":  {Id: 3, State: 3, Cs: 1, Reads: rangesOf(8)},
		"one Write":             {Id: 3, State: 1, Writes: writesOf("zzz")},
		"an empty Value":        {Id: 3, State: 1, Writes: []impl.Write{put("a", "")}},
		"Gone alone":            {Id: 3, State: 2, Writes: []impl.Write{gone("abc")}, Name: "x"},
		"8 Writes":              {Id: 3, State: 1, Writes: eight},
		"all that there can be": {Id: 9999, State: 3, Snap: 9998, Cs: 9999, Reads: rangesOf(8), Writes: eight, Out: true},
		"ready and Out":         {Id: 3, State: 2, Out: true, Name: "a"},
		"done and Out":          {Id: 3, State: 3, Cs: 1, Out: true},
		"a Name of one letter":  {Id: 3, State: 2, Name: "z"},
		"a Name of MaxKey":      {Id: 3, State: 2, Name: "abc"},
	}
}

// wrongTxns are not right, each for one reason.
func wrongTxns() map[string]impl.Txn {
	wrong := map[string]impl.Txn{
		"nothing in it":           {},
		"Id 0":                    {Id: 0, State: 1},
		"Id below 0":              {Id: -1, State: 1},
		"the least Id":            {Id: math.MinInt, State: 1},
		"Id MaxCs and 1":          {Id: 10000, State: 1},
		"the greatest Id":         {Id: math.MaxInt, State: 1},
		"State 0":                 {Id: 1, State: 0},
		"State 0 with a Name":     {Id: 1, State: 0, Name: "a"},
		"State 4":                 {Id: 1, State: 4},
		"State 4 with a Cs":       {Id: 1, State: 4, Cs: 1},
		"State below 0":           {Id: 1, State: -1},
		"a great State":           {Id: 1, State: 1<<32 + 1},
		"Snap below 0":            {Id: 1, State: 1, Snap: -1},
		"Snap below 0, done":      {Id: 1, State: 3, Snap: -1, Cs: 1},
		"Snap MaxCs and 1":        {Id: 1, State: 1, Snap: 10000},
		"Snap MaxCs, done":        {Id: 1, State: 3, Snap: 9999, Cs: 10000},
		"Snap MaxCs, Cs too":      {Id: 1, State: 3, Snap: 9999, Cs: 9999},
		"Cs at Snap":              {Id: 1, State: 3, Snap: 5, Cs: 5},
		"Cs below Snap":           {Id: 1, State: 3, Snap: 5, Cs: 4},
		"Cs 0 with TxDone":        {Id: 1, State: 3},
		"Cs below 0 with TxDone":  {Id: 1, State: 3, Cs: -1},
		"Cs MaxCs and 1":          {Id: 1, State: 3, Cs: 10000},
		"the greatest Cs":         {Id: 1, State: 3, Cs: math.MaxInt},
		"a Cs with TxOpen":        {Id: 1, State: 1, Snap: 3, Cs: 4},
		"a Cs with TxReady":       {Id: 1, State: 2, Snap: 3, Cs: 4, Name: "a"},
		"a low Cs with TxOpen":    {Id: 1, State: 1, Cs: -1},
		"a low Cs with TxReady":   {Id: 1, State: 2, Cs: -1, Name: "a"},
		"MaxReads and 1 Reads":    {Id: 1, State: 1, Reads: rangesOf(9)},
		"26 Reads":                {Id: 1, State: 1, Reads: rangesOf(26)},
		"a Read that falls":       {Id: 1, State: 1, Reads: []impl.Range{{From: "b", To: "a"}}},
		"an empty Read":           {Id: 1, State: 1, Reads: []impl.Range{oneKey("a"), {}}},
		"a Read of no key":        {Id: 1, State: 1, Reads: []impl.Range{{From: "a", To: "b1"}, oneKey("a")}},
		"a Read from no key":      {Id: 1, State: 1, Reads: []impl.Range{{From: "A", To: "b"}}},
		"9 Writes":                {Id: 1, State: 1, Writes: writesOf(letters(9)...)},
		"a Write of no key":       {Id: 1, State: 1, Writes: writesOf("A")},
		"a Value of 13 bytes":     {Id: 1, State: 1, Writes: []impl.Write{put("a", strings.Repeat("v", 13))}},
		"a Value beside Gone":     {Id: 1, State: 1, Writes: []impl.Write{{Key: "a", Value: "v", Gone: true}}},
		"Out with TxOpen":         {Id: 1, State: 1, Out: true},
		"a Name with TxOpen":      {Id: 1, State: 1, Name: "a"},
		"a Name with TxDone":      {Id: 1, State: 3, Cs: 1, Name: "a"},
		"no Name with TxReady":    {Id: 1, State: 2},
		"a Name of four letters":  {Id: 1, State: 2, Name: "abcd"},
		"a Name that is no key":   {Id: 1, State: 2, Name: "a1"},
		"a long Name with TxOpen": {Id: 1, State: 1, Name: strings.Repeat("n", 300)},
		"all of it":               {Id: -5, State: 9, Snap: -2, Cs: 77, Reads: rangesOf(9), Writes: writesOf("b", "a"), Out: true, Name: "N"},
	}
	for what, list := range wrongWrites() {
		wrong["Writes: "+what] = impl.Txn{Id: 1, State: 1, Writes: list}
	}
	return wrong
}

func sameTxn(a, b impl.Txn) bool {
	return a.Id == b.Id && a.State == b.State && a.Snap == b.Snap && a.Cs == b.Cs && a.Out == b.Out && a.Name == b.Name &&
		slices.Equal(a.Reads, b.Reads) && slices.Equal(a.Writes, b.Writes)
}

func checkTxn(t *testing.T, what string, got, want impl.Txn) {
	t.Helper()
	if !sameTxn(got, want) {
		t.Errorf("%s: %#v; want %#v", what, got, want)
	}
}

func TestTxnLimits(t *testing.T) {
	if impl.TxOpen != 1 || impl.TxReady != 2 || impl.TxDone != 3 || impl.MaxReads != 8 {
		t.Error("a state or a limit is not what the document says")
	}
}

func TestTxnOk(t *testing.T) {
	for what, x := range rightTxns() {
		if !impl.TxnOk(x) {
			t.Errorf("%s: not right", what)
		}
	}
	for what, x := range wrongTxns() {
		if impl.TxnOk(x) {
			t.Errorf("%s: right", what)
		}
	}
}

// Every choice of numbers, Out and Name near their limits.
func TestTxnOkOfNumbers(t *testing.T) {
	ends := []int{math.MinInt, -1, 0, 1, 2, 3, 9998, 9999, 10000, math.MaxInt}
	for _, id := range ends {
		for _, snap := range ends {
			for _, cs := range ends {
				for state := -1; state <= 5; state++ {
					checkStateOk(t, impl.Txn{Id: id, State: state, Snap: snap, Cs: cs})
				}
			}
		}
	}
}

func checkStateOk(t *testing.T, x impl.Txn) {
	t.Helper()
	numbers := x.Id >= 1 && x.Id <= 9999 && x.Snap >= 0 && x.Snap <= 9999
	for _, name := range []string{"", "a", "abc", "abcd", "A"} {
		for _, out := range []bool{false, true} {
			x.Name, x.Out = name, out
			want := numbers && x.State == 1 && x.Cs == 0 && name == "" && !out ||
				numbers && x.State == 2 && x.Cs == 0 && (name == "a" || name == "abc") ||
				numbers && x.State == 3 && x.Cs > x.Snap && x.Cs <= 9999 && name == ""
			if impl.TxnOk(x) != want {
				t.Errorf("TxnOk of %#v is %v", x, !want)
			}
		}
	}
}

// One wrong range or write at any place of a list is told, and a Name that is no key, whatever the state.
func TestTxnOkLooksAtAll(t *testing.T) {
	for _, x := range []impl.Txn{openTxn(), readyTxn(), doneTxn()} {
		for n := 1; n <= 8; n++ {
			for at := range n {
				for _, wrong := range []impl.Range{{}, {From: "b", To: "a"}, {From: "a"}, {To: "a"}, {From: "a", To: "abcd"}, {From: "0", To: "a"}} {
					x.Reads = rangesOf(n)
					x.Reads[at] = wrong
					if impl.TxnOk(x) {
						t.Errorf("%#v is right", x)
					}
				}
				x.Reads, x.Writes = rangesOf(n), writesOf(letters(n)...)
				if !impl.TxnOk(x) {
					t.Errorf("%#v is not right", x)
				}
				x.Writes[at].Key = "A"
				if impl.TxnOk(x) {
					t.Errorf("%#v is right", x)
				}
				x.Writes = nil
			}
		}
	}
	for _, key := range someKeys() {
		if !impl.TxnOk(impl.Txn{Id: 1, State: 2, Name: key}) {
			t.Errorf("one with the Name %q is not right", key)
		}
	}
	for _, key := range wrongKeys() {
		if impl.TxnOk(impl.Txn{Id: 1, State: 2, Name: key}) {
			t.Errorf("one with the Name %q is right", key)
		}
	}
}

func checkRead(t *testing.T, what string, x impl.Txn, r impl.Range, want []impl.Range) impl.Txn {
	t.Helper()
	got, ok := impl.ReadRange(x, r)
	if !ok || !impl.TxnOk(got) {
		t.Errorf("%s: refused, or not right", what)
	}
	checkTxn(t, what, got, changed(x, func(x *impl.Txn) { x.Reads = want }))
	return got
}

func checkNotRead(t *testing.T, what string, x impl.Txn, r impl.Range) {
	t.Helper()
	got, ok := impl.ReadRange(x, r)
	if ok {
		t.Errorf("%s: %q is read", what, r)
	}
	checkTxn(t, what, got, x)
}

func TestReadRange(t *testing.T) {
	for what, x := range rightTxns() {
		for _, r := range []impl.Range{{From: "m", To: "q"}, oneKey("a"), oneKey("zzz"), {From: "a", To: "zzz"}} {
			switch {
			case x.State != 1 || len(x.Reads) == 8:
				checkNotRead(t, what, x, r)
			case slices.Contains(x.Reads, r):
				checkRead(t, what, x, r, x.Reads)
			default:
				checkRead(t, what, x, r, append(slices.Clone(x.Reads), r))
			}
		}
	}
}

// One by one up to MaxReads, not in the order of their keys; then no more.
func TestReadRangeUpToMaxReads(t *testing.T) {
	x := impl.Txn{Id: 1, State: 1, Snap: 2, Writes: writesOf("a")}
	var want []impl.Range
	for i := range 8 {
		r := rangesOf(26)[i*11%26]
		want = append(want, r)
		x = checkRead(t, "one more", x, r, want)
		if i == 7 {
			break
		}
		for _, again := range want {
			x = checkRead(t, "read twice", x, again, want)
		}
	}
	checkNotRead(t, "a ninth", x, oneKey("abc"))
	for _, again := range want {
		checkNotRead(t, "read twice with MaxReads", x, again)
	}
}

// A range is there when both its ends are; one that lies in another one is not.
func TestReadRangeOfLikeRanges(t *testing.T) {
	x := impl.Txn{Id: 1, State: 1, Reads: []impl.Range{{From: "b", To: "d"}, {From: "a", To: "c"}}}
	for _, r := range []impl.Range{{From: "b", To: "c"}, {From: "a", To: "d"}, {From: "bb", To: "cc"}, {From: "b", To: "e"}, oneKey("b"), oneKey("c"), {From: "a", To: "b"}} {
		checkRead(t, "like another one", x, r, append(slices.Clone(x.Reads), r))
	}
	for _, r := range x.Reads {
		checkRead(t, "there", x, r, x.Reads)
	}
}

func TestReadRangeRefuses(t *testing.T) {
	for what, x := range wrongTxns() {
		for _, r := range []impl.Range{oneKey("a"), {From: "m", To: "q"}, {}, {From: "b", To: "a"}} {
			checkNotRead(t, what, x, r)
		}
	}
	for _, key := range wrongKeys() {
		for _, r := range []impl.Range{oneKey(key), {From: key, To: "zzz"}, {From: "a", To: key}} {
			checkNotRead(t, "a range of no key", openTxn(), r)
			checkNotRead(t, "a range of no key, nothing else read", impl.Txn{Id: 1, State: 1}, r)
		}
	}
	for _, r := range []impl.Range{{From: "b", To: "a"}, {From: "aa", To: "a"}, {From: "zzz", To: "zzy"}} {
		checkNotRead(t, "a range that falls", openTxn(), r)
	}
	for _, x := range []impl.Txn{readyTxn(), doneTxn()} {
		checkNotRead(t, "not open", x, oneKey("q"))
		checkNotRead(t, "not open, there", x, x.Reads[0])
	}
}

func checkWritten(t *testing.T, what string, x impl.Txn, w impl.Write, want []impl.Write) impl.Txn {
	t.Helper()
	got, ok := impl.WriteKey(x, w)
	if !ok || !impl.TxnOk(got) {
		t.Errorf("%s: refused, or not right", what)
	}
	checkTxn(t, what, got, changed(x, func(x *impl.Txn) { x.Writes = want }))
	return got
}

func checkKeyNotWritten(t *testing.T, what string, x impl.Txn, w impl.Write) {
	t.Helper()
	got, ok := impl.WriteKey(x, w)
	if ok {
		t.Errorf("%s: %#v is written", what, w)
	}
	checkTxn(t, what, got, x)
}

func TestWriteKey(t *testing.T) {
	for what, x := range rightTxns() {
		for _, key := range []string{"a", "b", "d", "h", "aa", "zzz", "m"} {
			for _, w := range []impl.Write{put(key, "new"), put(key, ""), gone(key), put(key, strings.Repeat("v", 12))} {
				want := sortedWith(x.Writes, w)
				if x.State == 1 && len(want) <= 8 {
					checkWritten(t, what, x, w, want)
				} else {
					checkKeyNotWritten(t, what, x, w)
				}
			}
		}
	}
}

// Eight keys, each written twice and three times; a ninth is refused wherever it would stand, one of the eight is not.
func TestWriteKeyUpToEight(t *testing.T) {
	x := impl.Txn{Id: 1, State: 1, Reads: rangesOf(8)}
	var want []impl.Write
	for _, key := range []string{"p", "b", "d", "n", "f", "l", "h", "j"} {
		for _, w := range []impl.Write{put(key, "first"), gone(key), put(key, "last")} {
			want = sortedWith(want, w)
			x = checkWritten(t, "one more", x, w, want)
		}
	}
	for at := range 9 {
		ninth := string(rune('a' + 2*at))
		checkKeyNotWritten(t, "a ninth", x, put(ninth, "new"))
		checkKeyNotWritten(t, "a ninth that is Gone", x, gone(ninth))
	}
	for _, w := range x.Writes {
		checkWritten(t, "written again", x, put(w.Key, "new"), sortedWith(x.Writes, put(w.Key, "new")))
		checkWritten(t, "taken out", x, gone(w.Key), sortedWith(x.Writes, gone(w.Key)))
	}
}

func TestWriteKeyRefuses(t *testing.T) {
	for what, x := range wrongTxns() {
		for _, key := range []string{"", "a", "b", "c", "A", "zzz"} {
			// Of some of these the write would stand in place of just what is wrong.
			checkKeyNotWritten(t, what, x, put(key, "new"))
			checkKeyNotWritten(t, what, x, gone(key))
		}
	}
	for _, x := range []impl.Txn{openTxn(), {Id: 1, State: 1}, {Id: 1, State: 1, Writes: writesOf(letters(8)...)}} {
		for _, key := range wrongKeys() {
			checkKeyNotWritten(t, "no key", x, put(key, "v"))
			checkKeyNotWritten(t, "no key, Gone", x, gone(key))
		}
		for _, w := range []impl.Write{{}, put("b", strings.Repeat("v", 13)), put("q", strings.Repeat("v", 300)), {Key: "b", Value: "v", Gone: true}, {Key: "q", Value: "v", Gone: true}} {
			checkKeyNotWritten(t, "a wrong write", x, w)
		}
	}
	for _, x := range []impl.Txn{readyTxn(), doneTxn()} {
		checkKeyNotWritten(t, "not open", x, put("q", "v"))
		checkKeyNotWritten(t, "not open, there", x, x.Writes[0])
	}
}

// ownOf is what a transaction sees of a key: the first of its own writes of it, else what was so at its Snap.
func ownOf(x impl.Txn, list []impl.Version, key string) (string, bool) {
	for _, w := range x.Writes {
		if w.Key == key && w.Gone {
			return "", false
		}
		if w.Key == key {
			return w.Value, true
		}
	}
	return seenOf(list, key, x.Snap)
}

func ownScanned(x impl.Txn, list []impl.Version, r impl.Range) []impl.Pair {
	keys := map[string]int{}
	for _, v := range list {
		keys[v.Key]++
	}
	for _, w := range x.Writes {
		keys[w.Key]++
	}
	var pairs []impl.Pair
	for key := range keys {
		if value, ok := ownOf(x, list, key); ok && between(r, key) {
			pairs = append(pairs, pair(key, value))
		}
	}
	slices.SortFunc(pairs, func(a, b impl.Pair) int {
		if below(a.Key, b.Key) {
			return -1
		}
		return 1
	})
	return pairs
}

func checkOwn(t *testing.T, x impl.Txn, list []impl.Version, key, value string, there bool) {
	t.Helper()
	if got, ok := impl.OwnGet(x, list, key); got != value || ok != there {
		t.Errorf("OwnGet of %q by %#v in %#v: %q, %v; want %q, %v", key, x, list, got, ok, value, there)
	}
}

func checkOwnScan(t *testing.T, x impl.Txn, list []impl.Version, r impl.Range, want []impl.Pair) {
	t.Helper()
	if got := impl.OwnScan(x, list, r); !slices.Equal(got, want) {
		t.Errorf("OwnScan of %q by %#v in %#v: %#v; want %#v", r, x, list, got, want)
	}
}

func TestOwnGet(t *testing.T) {
	list := []impl.Version{
		ver("a", "old", 2), ver("a", "late", 6),
		ver("b", "old", 1), ver("b", "now", 5), ver("b", "late", 6),
		ver("c", "old", 3), goneVer("c", 5), ver("c", "late", 7),
		goneVer("d", 2),
		ver("e", "late", 6),
		ver("f", "old", 4), goneVer("f", 6),
	}
	x := impl.Txn{Id: 1, State: 1, Snap: 5, Writes: []impl.Write{gone("a"), put("bb", "own"), put("c", "own"), put("d", ""), gone("dd"), put("e", "own")}}
	for _, c := range []struct {
		key, value string
		there      bool
	}{
		{"a", "", false}, {"b", "now", true}, {"bb", "own", true}, {"c", "own", true}, {"d", "", true}, {"dd", "", false}, {"e", "own", true}, {"f", "old", true},
		{"g", "", false}, {"aa", "", false}, {"ba", "", false}, {"", "", false}, {"A", "", false}, {"bbbb", "", false}, {"\xff", "", false},
	} {
		checkOwn(t, x, list, c.key, c.value, c.there)
	}
	x.Writes = nil
	for snap := range 9 {
		x.Snap = snap
		for _, key := range append(letters(8), "aa", "", "A") {
			value, there := seenOf(list, key, snap)
			checkOwn(t, x, list, key, value, there)
		}
	}
}

// Promise 7: what was last written oneself is seen, whatever was so; what one takes out is not.
func TestWhoLooksSeesOwnWrites(t *testing.T) {
	for _, list := range [][]impl.Version{nil, history(), manyVersions(120)} {
		for snap := range 10 {
			x := impl.Txn{Id: 1, State: 1, Snap: snap}
			var ok bool
			for _, w := range []impl.Write{put("a", "1"), put("b", "1"), gone("a"), put("zzz", ""), put("ab", "1"), put("a", "2"), gone("b"), gone("q"), put("ab", "2")} {
				if x, ok = impl.WriteKey(x, w); !ok {
					t.Fatalf("%#v is not written", w)
				}
				checkOwn(t, x, list, w.Key, w.Value, !w.Gone)
				for _, key := range []string{"a", "aa", "ab", "b", "c", "d", "q", "zzz"} {
					value, there := ownOf(x, list, key)
					checkOwn(t, x, list, key, value, there)
				}
				checkOwnScan(t, x, list, everyKey, ownScanned(x, list, everyKey))
				checkOwnScan(t, x, list, impl.Range{From: "ab", To: "c"}, ownScanned(x, list, impl.Range{From: "ab", To: "c"}))
			}
		}
	}
}

func TestOwnScan(t *testing.T) {
	list := []impl.Version{ver("c", "c1", 1), ver("e", "e1", 1), ver("e", "e3", 3), ver("g", "g2", 2), ver("h", "h3", 3)}
	c1, e1, g2 := pair("c", "c1"), pair("e", "e1"), pair("g", "g2")
	range3 := impl.Range{From: "c", To: "g"}
	for _, c := range []struct {
		what string
		w    []impl.Write
		r    impl.Range
		want []impl.Pair
	}{
		{"nothing written", nil, everyKey, []impl.Pair{c1, e1, g2}},
		{"one changed", []impl.Write{put("e", "own")}, everyKey, []impl.Pair{c1, pair("e", "own"), g2}},
		{"one changed to nothing in it", []impl.Write{put("e", "")}, everyKey, []impl.Pair{c1, pair("e", ""), g2}},
		{"one taken out", []impl.Write{gone("e")}, everyKey, []impl.Pair{c1, g2}},
		{"one taken out that is not there", []impl.Write{gone("d")}, everyKey, []impl.Pair{c1, e1, g2}},
		{"one between", []impl.Write{put("d", "own")}, everyKey, []impl.Pair{c1, pair("d", "own"), e1, g2}},
		{"one that begins alike", []impl.Write{put("ca", "own")}, everyKey, []impl.Pair{c1, pair("ca", "own"), e1, g2}},
		{"ahead of all", []impl.Write{put("a", "own")}, everyKey, []impl.Pair{pair("a", "own"), c1, e1, g2}},
		{"behind all", []impl.Write{put("zzz", "own")}, everyKey, []impl.Pair{c1, e1, g2, pair("zzz", "own")}},
		{"outside, below", []impl.Write{put("b", "own"), put("bzz", "own")}, range3, []impl.Pair{c1, e1, g2}},
		{"outside, above", []impl.Write{put("ga", "own"), put("h", "own")}, range3, []impl.Pair{c1, e1, g2}},
		{"outside, one between", []impl.Write{put("b", "own"), put("f", "own"), put("ga", "own")}, range3, []impl.Pair{c1, e1, pair("f", "own"), g2}},
		{"at the ends", []impl.Write{put("c", "own"), put("g", "own")}, range3, []impl.Pair{pair("c", "own"), e1, pair("g", "own")}},
		{"at the ends, new ones", []impl.Write{put("d", "own"), put("f", "own")}, impl.Range{From: "d", To: "f"}, []impl.Pair{pair("d", "own"), e1, pair("f", "own")}},
		{"at the ends, taken out", []impl.Write{gone("c"), gone("g")}, range3, []impl.Pair{e1}},
		{"a version above Snap, written", []impl.Write{put("h", "own")}, everyKey, []impl.Pair{c1, e1, g2, pair("h", "own")}},
		{"a version above Snap, taken out", []impl.Write{gone("h")}, everyKey, []impl.Pair{c1, e1, g2}},
		{"all taken out", []impl.Write{gone("c"), gone("e"), gone("g")}, everyKey, nil},
		{"all changed", []impl.Write{put("c", "1"), put("e", "2"), put("g", "3")}, everyKey, []impl.Pair{pair("c", "1"), pair("e", "2"), pair("g", "3")}},
		{"of one key", []impl.Write{put("d", "own"), put("e", "own"), put("f", "own")}, oneKey("e"), []impl.Pair{pair("e", "own")}},
		{"of one key that is new", []impl.Write{put("d", "own")}, oneKey("d"), []impl.Pair{pair("d", "own")}},
		{"of one key that is not there", []impl.Write{put("d", "own")}, oneKey("da"), nil},
		{"a range that falls", []impl.Write{put("d", "own")}, impl.Range{From: "g", To: "c"}, nil},
		{"an empty range", []impl.Write{put("d", "own")}, impl.Range{}, nil},
		{"a range of no keys", []impl.Write{put("d", "own")}, impl.Range{From: "", To: "\xff"}, []impl.Pair{c1, pair("d", "own"), e1, g2}},
	} {
		x := impl.Txn{Id: 1, State: 1, Snap: 2, Writes: c.w}
		if got := impl.OwnScan(x, list, c.r); !slices.Equal(got, c.want) {
			t.Errorf("%s: %#v; want %#v", c.what, got, c.want)
		}
	}
	checkOwnScan(t, impl.Txn{Id: 1, State: 1}, nil, everyKey, nil)
	checkOwnScan(t, impl.Txn{Id: 1, State: 1}, list, everyKey, nil)
	checkOwnScan(t, impl.Txn{Id: 1, State: 1, Writes: writesOf("a", "b")}, nil, everyKey, []impl.Pair{pair("a", "A"), pair("b", "B")})
}

// everyWrites are all right lists of these keys: each put, gone, or not there.
func everyWrites(keys []string) [][]impl.Write {
	lists := [][]impl.Write{nil}
	for _, key := range keys {
		for _, list := range slices.Clone(lists) {
			lists = append(lists, append(slices.Clone(list), put(key, "own")), append(slices.Clone(list), gone(key)))
		}
	}
	return lists
}

func TestOwnOfEverySmallList(t *testing.T) {
	ranges := []impl.Range{everyKey, oneKey("b"), {From: "aa", To: "c"}, {From: "b", To: "d"}, {From: "c", To: "zzz"}, {From: "d", To: "b"}}
	for _, list := range smallLists([]string{"b", "d"}, 2) {
		for _, w := range everyWrites([]string{"a", "b", "c", "d"}) {
			for snap := range 3 {
				x := impl.Txn{Id: 1, State: 1, Snap: snap, Writes: w}
				for _, key := range []string{"a", "b", "c", "d", "e"} {
					value, there := ownOf(x, list, key)
					checkOwn(t, x, list, key, value, there)
				}
				for _, r := range ranges {
					checkOwnScan(t, x, list, r, ownScanned(x, list, r))
				}
			}
		}
	}
}

// Nothing here asks for one that is right or open, nor for right versions; of two own writes of a key the first counts.
func TestOwnOfWrongOnes(t *testing.T) {
	lists := [][]impl.Version{nil, history(), {ver("b", "2", 1), ver("a", "1", 1), ver("b", "3", 1)}, {ver("", "e", 0), ver("A", "g", -4)}, {{}}}
	ranges := []impl.Range{everyKey, {}, {From: "", To: "\xff"}, {From: "c", To: "a"}, oneKey("b")}
	var all []impl.Txn
	for _, x := range rightTxns() {
		all = append(all, x)
	}
	for _, x := range wrongTxns() {
		all = append(all, x)
	}
	all = append(all, impl.Txn{Writes: []impl.Write{put("b", "first"), gone("b"), put("a", "last")}}, impl.Txn{Writes: []impl.Write{gone("b"), put("b", "last")}, Snap: 9},
		impl.Txn{Writes: []impl.Write{{Key: "a", Value: "v", Gone: true}}, Snap: math.MaxInt}, impl.Txn{Snap: math.MinInt}, impl.Txn{Snap: math.MaxInt}, impl.Txn{Snap: -4})
	for _, x := range all {
		for _, list := range lists {
			for _, key := range []string{"", "a", "ab", "b", "c", "d", "A", "abcd"} {
				value, there := ownOf(x, list, key)
				checkOwn(t, x, list, key, value, there)
			}
			for _, r := range ranges {
				checkOwnScan(t, x, list, r, ownScanned(x, list, r))
			}
		}
	}
}

// A txnPart is one piece of a text, as the document tells them: a number (also one ahead of a text, its length), a flag, or the bytes of a text.
type txnPart struct {
	kind string
	text string
}

// varBytes is a number from 0 on in bytes, without a limit.
func varBytes(n int) string {
	if n > 127 {
		return string([]byte{byte(n%128 + 128)}) + varBytes(n/128)
	}
	return string([]byte{byte(n)})
}

// longerForm is the same number with one byte more.
func longerForm(number string) string {
	last := len(number) - 1
	return number[:last] + string([]byte{number[last] + 128, 0})
}

func numberPart(n int) txnPart {
	return txnPart{"number", varBytes(n)}
}

func shortParts(s string) []txnPart {
	return []txnPart{numberPart(len(s)), {"text", s}}
}

func flagPart(set bool) txnPart {
	if set {
		return txnPart{"flag", "\x01"}
	}
	return txnPart{"flag", "\x00"}
}

// txnParts are the parts of a text of x, right or not, as long as no number of it is below 0.
func txnParts(x impl.Txn) []txnPart {
	parts := []txnPart{numberPart(x.Id), numberPart(x.State), numberPart(x.Snap), numberPart(x.Cs), numberPart(len(x.Reads))}
	for _, r := range x.Reads {
		parts = append(append(parts, shortParts(r.From)...), shortParts(r.To)...)
	}
	parts = append(parts, numberPart(len(x.Writes)))
	for _, w := range x.Writes {
		parts = append(append(parts, shortParts(w.Key)...), shortParts(w.Value)...)
		parts = append(parts, flagPart(w.Gone))
	}
	return append(append(parts, flagPart(x.Out)), shortParts(x.Name)...)
}

func joined(parts []txnPart) string {
	var all strings.Builder
	for _, p := range parts {
		all.WriteString(p.text)
	}
	return all.String()
}

// withPart are the parts with another text in the place of one.
func withPart(parts []txnPart, at int, text string) string {
	parts = slices.Clone(parts)
	parts[at].text = text
	return joined(parts)
}

func checkNoTxn(t *testing.T, what, text string, at int) {
	t.Helper()
	got, behind, ok := impl.ReadTxn(text, at)
	if ok || behind != 0 || !sameTxn(got, impl.Txn{}) {
		t.Errorf("%s: ReadTxn of %q at %d: %#v, %d, %v", what, text, at, got, behind, ok)
	}
}

func checkTxnAt(t *testing.T, what, text string, at int, want impl.Txn, end int) {
	t.Helper()
	got, behind, ok := impl.ReadTxn(text, at)
	if !ok || behind != end || !sameTxn(got, want) {
		t.Errorf("%s: ReadTxn of %q at %d: %#v, %d, %v; want %#v, %d", what, text, at, got, behind, ok, want, end)
	}
}

func TestTxnTextBytes(t *testing.T) {
	for _, c := range []struct {
		x    impl.Txn
		text string
	}{
		{impl.Txn{Id: 1, State: 1}, "\x01\x01\x00\x00\x00\x00\x00\x00"},
		{impl.Txn{Id: 9999, State: 3, Snap: 128, Cs: 300, Out: true}, "\x8f\x4e\x03\x80\x01\xac\x02\x00\x00\x01\x00"},
		{impl.Txn{Id: 2, State: 2, Snap: 127, Name: "abc"}, "\x02\x02\x7f\x00\x00\x00\x00\x03abc"},
		{impl.Txn{Id: 5, State: 1, Snap: 4, Reads: []impl.Range{{From: "a", To: "bcd"}, oneKey("zz")}, Writes: []impl.Write{put("a", "value"), gone("bc"), put("d", "")}},
			"\x05\x01\x04\x00\x02\x01a\x03bcd\x02zz\x02zz\x03\x01a\x05value\x00\x02bc\x00\x01\x01d\x00\x00\x00\x00"},
	} {
		if text, ok := impl.TxnText(c.x); text != c.text || !ok {
			t.Errorf("TxnText of %#v: %q, %v; want %q", c.x, text, ok, c.text)
		}
		checkTxnAt(t, "known bytes", c.text, 0, c.x, len(c.text))
	}
}

// Promise 7: they come back from their texts, wherever these stand and whatever stands around them.
func TestTxnsComeBack(t *testing.T) {
	around := []string{"", "\x00", "\x01", "\x80", "\xff\xff", "a", strings.Repeat("\x01", 40), joined(txnParts(openTxn()))}
	for what, x := range rightTxns() {
		text, ok := impl.TxnText(x)
		if want := joined(txnParts(x)); text != want || !ok {
			t.Errorf("%s: TxnText is %q, %v; want %q", what, text, ok, want)
		}
		for _, ahead := range around {
			for _, behind := range around {
				checkTxnAt(t, what, ahead+text+behind, len(ahead), x, len(ahead)+len(text))
			}
		}
	}
}

// Whatever was written and read by one that is open comes back; also when it is made ready, or is let through.
func TestTxnsComeBackOnTheirWay(t *testing.T) {
	x := impl.Txn{Id: 77, State: 1, Snap: 1000}
	for i := range 9 {
		x, _ = impl.ReadRange(x, rangesOf(26)[i*7%26])
		x, _ = impl.WriteKey(x, impl.Write{Key: letters(26)[i*11%26], Value: strings.Repeat("\x00", i)})
		x, _ = impl.WriteKey(x, gone("zz"))
		for _, y := range []impl.Txn{
			x,
			changed(x, func(x *impl.Txn) { x.State, x.Name, x.Out = 2, "nam", i%2 == 0 }),
			changed(x, func(x *impl.Txn) { x.State, x.Cs, x.Out = 3, 1001+i, i%2 == 1 }),
		} {
			text, ok := impl.TxnText(y)
			if !ok {
				t.Fatalf("%#v has no text", y)
			}
			checkTxnAt(t, "on its way", text, 0, y, len(text))
		}
	}
}

func TestTxnTextsOneBehindTheOther(t *testing.T) {
	var all strings.Builder
	var order []impl.Txn
	for _, x := range rightTxns() {
		text, _ := impl.TxnText(x)
		all.WriteString(text)
		order = append(order, x)
	}
	at := 0
	for _, x := range order {
		got, behind, ok := impl.ReadTxn(all.String(), at)
		if !ok || !sameTxn(got, x) || behind <= at {
			t.Fatalf("%#v is not read at %d: %#v", x, at, got)
		}
		at = behind
	}
	if at != all.Len() {
		t.Errorf("all end at %d of %d", at, all.Len())
	}
}

func TestTxnTextRefuses(t *testing.T) {
	for what, x := range wrongTxns() {
		if text, ok := impl.TxnText(x); text != "" || ok {
			t.Errorf("%s: TxnText is %q, %v", what, text, ok)
		}
	}
}

func TestReadTxnOfOneThatIsNotRight(t *testing.T) {
	for what, x := range wrongTxns() {
		if min(x.Id, x.State, x.Snap, x.Cs) < 0 {
			continue
		}
		text := joined(txnParts(x))
		checkNoTxnAnywhere(t, what, text, "\x00\x01\x00", strings.Repeat("\x00", 100))
	}
}

func TestReadTxnOutsideOfItsText(t *testing.T) {
	for what, x := range rightTxns() {
		text := joined(txnParts(x))
		for _, at := range []int{math.MinInt, -len(text), -2, -1, len(text), len(text) + 1, len(text) + 100, math.MaxInt} {
			checkNoTxn(t, what, text, at)
		}
	}
	for _, at := range []int{math.MinInt, -1, 0, 1, math.MaxInt} {
		checkNoTxn(t, "no text", "", at)
	}
}

// checkNoTxnAnywhere lays bytes ahead of the text, and behind it: such of which a reader that began anew, or went on, would make something.
func checkNoTxnAnywhere(t *testing.T, what, text string, behind ...string) {
	t.Helper()
	for _, ahead := range []string{"", "xyz", "\x00", "\x01a", strings.Repeat("\x00", 9), joined(txnParts(openTxn()))} {
		checkNoTxn(t, what, ahead+text, len(ahead))
		for _, more := range behind {
			checkNoTxn(t, what, ahead+text+more, len(ahead))
		}
	}
}

func TestReadTxnOfATextThatEndsTooEarly(t *testing.T) {
	for what, x := range rightTxns() {
		text := joined(txnParts(x))
		for end := range len(text) {
			checkNoTxnAnywhere(t, what, text[:end])
		}
	}
}

// Each number, a text's length too, in a longer form, in one that is too great, or without its end; each flag as another byte.
func TestReadTxnOfOtherForms(t *testing.T) {
	for what, x := range rightTxns() {
		parts := txnParts(x)
		for at, p := range parts {
			if p.kind == "text" {
				continue
			}
			for _, wrong := range []string{longerForm(p.text), longerForm(longerForm(p.text)), varBytes(1000000001), varBytes(1 << 40), "\x80\x80\x80\x80\x80\x80\x80\x80\x80\x01", strings.Repeat("\xff", 30)} {
				checkNoTxnAnywhere(t, what, withPart(parts, at, wrong), strings.Repeat("\x00", 100))
			}
			if p.kind != "flag" {
				continue
			}
			for b := 2; b < 256; b++ {
				checkNoTxnAnywhere(t, what, withPart(parts, at, string([]byte{byte(b)})))
			}
		}
	}
}

func TestReadTxnOfTooMany(t *testing.T) {
	head := "\x01\x01\x00\x00"
	for _, n := range []int{9, 10, 100, 127, 128, 129, 1000000, 999999999, 1000000000} {
		for _, there := range []int{0, 1, 8, min(n, 500)} {
			reads, writes := strings.Repeat("\x01a\x01b", there), strings.Repeat("\x01a\x00\x00", there)
			checkNoTxn(t, "so many Reads", head+varBytes(n)+reads+"\x00\x00\x00", 0)
			checkNoTxn(t, "so many Writes", head+"\x00"+varBytes(n)+writes+"\x00\x00", 0)
		}
	}
	var writes strings.Builder
	for i, key := range letters(9) {
		writes.WriteString("\x01" + key + "\x01v\x00")
		text := head + "\x00" + varBytes(i+1) + writes.String() + "\x00\x00"
		if i < 8 {
			checkTxnAt(t, "Writes", text, 0, changed(impl.Txn{Id: 1, State: 1}, func(x *impl.Txn) {
				for _, key := range letters(i + 1) {
					x.Writes = append(x.Writes, put(key, "v"))
				}
			}), len(text))
		} else {
			checkNoTxn(t, "9 Writes", text, 0)
		}
	}
	for n := range 12 {
		text := head + varBytes(n) + strings.Repeat("\x01a\x01a", n) + "\x00\x00\x00"
		if n <= 8 {
			checkTxnAt(t, "Reads", text, 0, impl.Txn{Id: 1, State: 1, Reads: slices.Repeat([]impl.Range{oneKey("a")}, n)}, len(text))
		} else {
			checkNoTxn(t, "too many Reads", text, 0)
		}
	}
}

// Whatever stands there: what is read is right, and its text is just what stood there.
func TestReadTxnReadsNothingElse(t *testing.T) {
	for _, x := range []impl.Txn{openTxn(), readyTxn(), doneTxn(), {Id: 1, State: 1}} {
		text := joined(txnParts(x))
		for at := range text {
			for b := range 256 {
				one := string([]byte{byte(b)})
				checkReadsItsText(t, text[:at]+one+text[at+1:], 0)
				checkReadsItsText(t, text[:at]+one+text[at:], 0)
			}
			checkReadsItsText(t, text[:at]+text[at+1:], 0)
			checkReadsItsText(t, text+text, at)
		}
	}
}

func checkReadsItsText(t *testing.T, text string, at int) {
	t.Helper()
	got, behind, ok := impl.ReadTxn(text, at)
	if !ok {
		if behind != 0 || !sameTxn(got, impl.Txn{}) {
			t.Errorf("ReadTxn of %q at %d answers something beside false: %#v, %d", text, at, got, behind)
		}
		return
	}
	if !impl.TxnOk(got) || behind > len(text) || joined(txnParts(got)) != text[at:behind] {
		t.Errorf("ReadTxn of %q at %d: %#v, %d", text, at, got, behind)
	}
}

func roomyRanges(list []impl.Range) []impl.Range {
	var out []impl.Range
	for _, r := range list {
		out = append(out, impl.Range{From: fresh(r.From), To: fresh(r.To)})
	}
	return append(out, oneKey("mark"), oneKey("mark"), oneKey("mark"))[:len(list)]
}

func roomyTxn(x impl.Txn) impl.Txn {
	x.Reads, x.Writes, x.Name = roomyRanges(x.Reads), roomyWrites(x.Writes), fresh(x.Name)
	return x
}

func rangeTexts(list []impl.Range) []string {
	var texts []string
	for _, r := range list {
		texts = append(texts, r.From, r.To)
	}
	return texts
}

func txnTexts(x impl.Txn) []string {
	return append(append(rangeTexts(x.Reads), writeTexts(x.Writes)...), x.Name)
}

// allTxns are right and wrong ones, and one in which one text stands in all places.
func allTxns() []impl.Txn {
	key := fresh("abc")
	all := []impl.Txn{{Id: 1, State: 1, Reads: []impl.Range{oneKey(key)}, Writes: []impl.Write{put(key, key)}}}
	for _, x := range rightTxns() {
		all = append(all, x)
	}
	for _, x := range wrongTxns() {
		all = append(all, x)
	}
	return all
}

// txnAnswers asks for everything that answers one, done and refused.
func txnAnswers(x impl.Txn, r impl.Range, w impl.Write, text string) []impl.Txn {
	read, _ := impl.ReadRange(x, r)
	notRead, _ := impl.ReadRange(x, impl.Range{From: w.Key, To: ""})
	written, _ := impl.WriteKey(x, w)
	notWritten, _ := impl.WriteKey(x, impl.Write{Key: w.Key, Value: w.Value, Gone: true})
	back, _, _ := impl.ReadTxn(text, 0)
	return []impl.Txn{read, notRead, written, notWritten, back}
}

func TestTxnsAnswerNewMemory(t *testing.T) {
	for _, plain := range allTxns() {
		x := roomyTxn(plain)
		if len(plain.Reads) > 0 && len(plain.Writes) > 0 && plain.Reads[0].From == plain.Writes[0].Key {
			x.Writes[0] = put(x.Reads[0].From, x.Reads[0].From)
		}
		key := fresh("abc")
		r, w := oneKey(key), put(key, key)
		text, _ := impl.TxnText(x)
		wasReads, wasWrites := slices.Clone(x.Reads[:cap(x.Reads)]), slices.Clone(x.Writes[:cap(x.Writes)])
		given := append(txnTexts(x), key, text)
		first, second := txnAnswers(x, r, w, text), txnAnswers(x, r, w, text)
		for i, answer := range first {
			checkApart(t, "an answer", txnTexts(answer), append(txnTexts(second[i]), given...))
			checkApart(t, "the lists of an answer", rangeTexts(answer.Reads), append(writeTexts(answer.Writes), answer.Name))
			checkApart(t, "the Name of an answer", []string{answer.Name}, writeTexts(answer.Writes))
			// Whatever is done to an answer is not to be seen in an argument, nor in another answer.
			for k := range answer.Reads {
				answer.Reads[k] = oneKey("other")
			}
			for k := range answer.Writes {
				answer.Writes[k] = put("other", "other")
			}
			_, _ = append(answer.Reads, oneKey("other")), append(answer.Writes, put("other", "other"))
		}
		for i, answer := range txnAnswers(x, r, w, text) {
			checkTxn(t, "what is answered again", answer, second[i])
		}
		if !slices.Equal(x.Reads[:cap(x.Reads)], wasReads) || !slices.Equal(x.Writes[:cap(x.Writes)], wasWrites) || r != oneKey("abc") || w != put("abc", "abc") {
			t.Errorf("something is written into %#v, or behind it", plain)
		}
	}
}

func TestOwnAnswersNewMemory(t *testing.T) {
	for _, plain := range allTxns() {
		x, list := roomyTxn(plain), roomyVersions(history())
		r := impl.Range{From: fresh("a"), To: fresh("zzz")}
		wasReads, wasWrites, wasList := slices.Clone(x.Reads[:cap(x.Reads)]), slices.Clone(x.Writes[:cap(x.Writes)]), slices.Clone(list[:cap(list)])
		given := append(append(txnTexts(x), versionTexts(list)...), r.From, r.To)
		pairs, again := impl.OwnScan(x, list, r), impl.OwnScan(x, list, r)
		checkApart(t, "OwnScan", pairTexts(pairs), append(pairTexts(again), given...))
		for i := range pairs {
			pairs[i] = pair("other", "other")
		}
		_ = append(pairs, pair("other", "other"))
		checkOwnScan(t, x, list, r, again)
		for _, key := range append(writeTexts(x.Writes), "a", "b", "zzz") {
			value, _ := impl.OwnGet(x, list, key)
			checkApart(t, "OwnGet", []string{value}, append(given, key))
		}
		impl.TxnOk(x)
		if !slices.Equal(x.Reads[:cap(x.Reads)], wasReads) || !slices.Equal(x.Writes[:cap(x.Writes)], wasWrites) || !slices.Equal(list[:cap(list)], wasList) {
			t.Errorf("something is written into %#v, or behind it", plain)
		}
	}
}
