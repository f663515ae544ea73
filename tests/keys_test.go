package tests

import (
	"maps"
	"slices"
	"strings"
	"testing"

	"loop.example/g00327/impl"
)

// below follows the document's words for texts: byte by byte, a beginning being less.
func below(a, b string) bool {
	for i := 0; i < len(a) && i < len(b); i++ {
		if a[i] != b[i] {
			return a[i] < b[i]
		}
	}
	return len(a) < len(b)
}

func between(r impl.Range, key string) bool {
	return !below(key, r.From) && !below(r.To, key)
}

// someKeys are right ones, not in order, beginnings of others among them.
func someKeys() []string {
	return []string{"m", "a", "z", "aa", "ab", "az", "b", "aaa", "aab", "zz", "zzz", "zzy", "mm", "mmm", "l", "n", "mz"}
}

// wrongKeys are texts that are no keys, at least one of each kind.
func wrongKeys() []string {
	return []string{
		"", "abcd", "zzzz", "aaaa", strings.Repeat("a", 100),
		"A", "Z", "aB", "Abc", "abC", "aBc", "0", "9", "a1", "1ab", "ab9",
		" ", "a ", " a", "a b", "\n", "a\x00", "\x00", "`", "{", "a`", "a{", "@", "[", "-", "_", ".", "a-b",
		"\x80", "\xff", "a\x80", "ab\xff", "\xe1", "\xfa", "a\xe1", "é", "aé", "ａ", "\x7f",
	}
}

func anyTexts() []string {
	return append(someKeys(), wrongKeys()...)
}

// put is a write of this key, with a value that tells where it came from.
func put(key, value string) impl.Write {
	return impl.Write{Key: key, Value: value}
}

func gone(key string) impl.Write {
	return impl.Write{Key: key, Gone: true}
}

// writesOf are writes of these keys, no two of them alike.
func writesOf(keys ...string) []impl.Write {
	var list []impl.Write
	for i, key := range keys {
		list = append(list, impl.Write{Key: key, Value: string(rune('A' + i))})
	}
	return list
}

// letters are the first n keys of one letter.
func letters(n int) []string {
	var keys []string
	for i := range n {
		keys = append(keys, string(rune('a'+i)))
	}
	return keys
}

// subsets are all choices of these keys, in their order.
func subsets(keys []string) [][]string {
	var all [][]string
	for choice := range 1 << len(keys) {
		var chosen []string
		for i, key := range keys {
			if choice>>i&1 == 1 {
				chosen = append(chosen, key)
			}
		}
		all = append(all, chosen)
	}
	return all
}

// wrongWrites are lists that are not ascending, have keys twice, or empty texts.
func wrongWrites() map[string][]impl.Write {
	return map[string][]impl.Write{
		"descending":                 writesOf("c", "b", "a"),
		"two the wrong way round":    writesOf("b", "a"),
		"the last one too early":     writesOf("a", "c", "b"),
		"the first one too late":     writesOf("b", "c", "a"),
		"a beginning behind":         writesOf("ab", "a"),
		"twice the same":             writesOf("a", "a"),
		"twice the same at the end":  writesOf("a", "b", "b"),
		"twice the same, others by":  writesOf("a", "b", "b", "c"),
		"twice the same, apart":      writesOf("a", "b", "a"),
		"three the same":             writesOf("b", "b", "b"),
		"an empty key":               writesOf("", "a"),
		"an empty key alone":         writesOf(""),
		"two empty keys":             writesOf("", ""),
		"an empty key at the end":    writesOf("a", ""),
		"an empty write":             {{}},
		"an empty write among right": {put("a", "1"), {}, put("c", "3")},
	}
}

func checkWrites(t *testing.T, what string, got, want []impl.Write) {
	t.Helper()
	if !slices.Equal(got, want) {
		t.Errorf("%s: %#v; want %#v", what, got, want)
	}
}

func TestKeyLimits(t *testing.T) {
	if impl.MaxKey != 3 || impl.MaxValue != 12 {
		t.Error("a limit is not what the document says")
	}
}

func isLetter(b int) bool {
	return b >= 97 && b <= 122
}

func TestKeyOk(t *testing.T) {
	for _, key := range someKeys() {
		if !impl.KeyOk(key) {
			t.Errorf("%q is no key", key)
		}
	}
	for _, key := range wrongKeys() {
		if impl.KeyOk(key) {
			t.Errorf("%q is a key", key)
		}
	}
}

// Every byte at every place of keys of every length.
func TestKeyOkOfEveryByte(t *testing.T) {
	for b := range 256 {
		for n := 1; n <= impl.MaxKey; n++ {
			for _, letter := range []string{"a", "q", "z"} {
				for at := range n {
					key := strings.Repeat(letter, at) + string([]byte{byte(b)}) + strings.Repeat(letter, n-at-1)
					if impl.KeyOk(key) != isLetter(b) {
						t.Errorf("KeyOk(%q) is %v", key, !isLetter(b))
					}
				}
			}
		}
	}
	for first := range 256 {
		for second := range 256 {
			key := string([]byte{byte(first), byte(second)})
			if want := isLetter(first) && isLetter(second); impl.KeyOk(key) != want {
				t.Errorf("KeyOk(%q) is %v", key, !want)
			}
		}
	}
}

func TestKeyOkOfEveryLength(t *testing.T) {
	for n := range 300 {
		for _, letter := range []string{"a", "k", "z"} {
			if want := n >= 1 && n <= 3; impl.KeyOk(strings.Repeat(letter, n)) != want {
				t.Errorf("KeyOk of %d letters %s is %v", n, letter, !want)
			}
		}
	}
}

func TestRangeOk(t *testing.T) {
	for _, from := range someKeys() {
		for _, to := range someKeys() {
			want := !below(to, from)
			if impl.RangeOk(impl.Range{From: from, To: to}) != want {
				t.Errorf("RangeOk from %q to %q is %v", from, to, !want)
			}
		}
		for _, wrong := range wrongKeys() {
			if impl.RangeOk(impl.Range{From: from, To: wrong}) || impl.RangeOk(impl.Range{From: wrong, To: from}) {
				t.Errorf("a range of %q and %q is right", from, wrong)
			}
		}
	}
	for _, from := range wrongKeys() {
		for _, to := range wrongKeys() {
			if impl.RangeOk(impl.Range{From: from, To: to}) {
				t.Errorf("a range from %q to %q is right", from, to)
			}
		}
	}
}

func TestRangesThatAreKnown(t *testing.T) {
	for _, c := range []struct {
		from, to string
		want     bool
	}{
		{"a", "a", true}, {"abc", "abc", true}, {"zzz", "zzz", true}, {"a", "zzz", true}, {"a", "b", true}, {"a", "aa", true}, {"aa", "ab", true}, {"az", "b", true},
		{"b", "a", false}, {"aa", "a", false}, {"zzz", "a", false}, {"ab", "aa", false}, {"b", "az", false}, {"zzz", "zzy", false},
		{"", "", false}, {"", "a", false}, {"a", "", false}, {"A", "a", false}, {"a", "abcd", false}, {"a", "b1", false}, {"a", "\xff", false},
	} {
		if impl.RangeOk(impl.Range{From: c.from, To: c.to}) != c.want {
			t.Errorf("RangeOk from %q to %q is %v", c.from, c.to, !c.want)
		}
	}
}

func TestInRangeOfARange(t *testing.T) {
	r := impl.Range{From: "bb", To: "dd"}
	for _, key := range []string{"bb", "bba", "bbz", "bc", "bz", "bzz", "c", "cc", "ccc", "d", "da", "dc", "dcz", "dd", "b\xff"} {
		if !impl.InRange(r, key) {
			t.Errorf("%q is not in bb .. dd", key)
		}
	}
	for _, key := range []string{"", "a", "b", "ba", "baz", "bazz", "ba\xff", "B", "dda", "ddaa", "dd\x00", "de", "e", "zzz", "\xff"} {
		if impl.InRange(r, key) {
			t.Errorf("%q is in bb .. dd", key)
		}
	}
}

func TestInRangeOfOneKey(t *testing.T) {
	for _, one := range anyTexts() {
		r := impl.Range{From: one, To: one}
		for _, key := range anyTexts() {
			if impl.InRange(r, key) != (key == one) {
				t.Errorf("%q in the range of %q alone: %v", key, one, key != one)
			}
		}
		// The next text above any one is it with a nought behind.
		if !impl.InRange(r, one) || impl.InRange(r, one+"\x00") {
			t.Errorf("the range of %q alone has something else, or nothing", one)
		}
	}
	for _, c := range []struct{ one, under, above string }{{"b", "azz", "ba"}, {"ab", "aaz", "aba"}, {"abc", "abb", "abd"}, {"a", "", "aa"}, {"zzz", "zzy", "{"}} {
		r := impl.Range{From: c.one, To: c.one}
		if !impl.InRange(r, c.one) || impl.InRange(r, c.under) || impl.InRange(r, c.above) {
			t.Errorf("the range of %q alone is not just that", c.one)
		}
	}
}

// Also of ranges and keys that are not right: nobody asks for that.
func TestInRangeOfAnyTexts(t *testing.T) {
	for _, from := range anyTexts() {
		for _, to := range anyTexts() {
			r := impl.Range{From: from, To: to}
			for _, key := range anyTexts() {
				if want := between(r, key); impl.InRange(r, key) != want {
					t.Errorf("%q from %q to %q: %v", key, from, to, !want)
				}
			}
		}
	}
}

func TestWriteOk(t *testing.T) {
	for n := range 40 {
		for _, part := range []string{"v", "\x00", "\xff", " "} {
			w := put("abc", strings.Repeat(part, n))
			if want := n <= 12; impl.WriteOk(w) != want {
				t.Errorf("WriteOk with a value of %d bytes is %v", n, !want)
			}
			w.Gone = true
			if want := n == 0; impl.WriteOk(w) != want {
				t.Errorf("WriteOk of one that is Gone, with a value of %d bytes, is %v", n, !want)
			}
		}
	}
	for _, w := range []impl.Write{put("a", "ｆｏｕｒ"), put("z", "\n\x00\x80"), put("zzz", "")} {
		if !impl.WriteOk(w) {
			t.Errorf("%#v is not right", w)
		}
	}
	if w := put("a", "ｆｏｕｒx"); impl.WriteOk(w) {
		t.Errorf("%#v is right, of 13 bytes", w)
	}
	if impl.WriteOk(impl.Write{}) || impl.WriteOk(put("a", strings.Repeat("v", impl.MaxText))) {
		t.Error("a write without a key, or with a long value, is right")
	}
}

func TestWriteOkOfKeys(t *testing.T) {
	for _, key := range someKeys() {
		for _, w := range []impl.Write{put(key, ""), put(key, "v"), put(key, strings.Repeat("v", impl.MaxValue)), gone(key)} {
			if !impl.WriteOk(w) {
				t.Errorf("%#v is not right", w)
			}
		}
	}
	for _, key := range wrongKeys() {
		for _, w := range []impl.Write{put(key, ""), put(key, "v"), put(key, strings.Repeat("v", impl.MaxValue)), gone(key)} {
			if impl.WriteOk(w) {
				t.Errorf("%#v is right", w)
			}
		}
	}
}

func TestWritesOk(t *testing.T) {
	if !impl.WritesOk(nil) || !impl.WritesOk([]impl.Write{}) {
		t.Error("no writes are not right")
	}
	for n := range 27 {
		if want := n <= 8; impl.WritesOk(writesOf(letters(n)...)) != want {
			t.Errorf("WritesOk of %d writes is %v", n, !want)
		}
	}
	for _, list := range [][]impl.Write{
		writesOf("a"), writesOf("zzz"), writesOf("a", "z"), writesOf("a", "aa", "aaa", "aab", "ab", "b"),
		{gone("a")}, {gone("a"), put("b", ""), gone("c"), put("d", strings.Repeat("v", impl.MaxValue))},
		writesOf("zzs", "zzt", "zzu", "zzv", "zzw", "zzx", "zzy", "zzz"),
	} {
		if !impl.WritesOk(list) {
			t.Errorf("%#v is not right", list)
		}
	}
	for what, list := range wrongWrites() {
		if impl.WritesOk(list) {
			t.Errorf("%s: right", what)
		}
	}
}

// One wrong write at any place of a list, or two of them the wrong way round, is told.
func TestWritesOkLooksAtAll(t *testing.T) {
	for n := 1; n <= 8; n++ {
		for at := range n {
			right := writesOf(letters(n)...)
			key := right[at].Key
			for _, wrong := range []impl.Write{
				put(key+"aaa", "v"), put(key+"A", "v"), put(key+"\x80", "v"), put(key, strings.Repeat("v", impl.MaxValue+1)), {Key: key, Value: "v", Gone: true},
			} {
				list := slices.Clone(right)
				list[at] = wrong
				if impl.WritesOk(list) {
					t.Errorf("%#v is right", list)
				}
			}
			if at == 0 {
				continue
			}
			swapped, twice := slices.Clone(right), slices.Clone(right)
			swapped[at-1], swapped[at] = right[at], right[at-1]
			twice[at] = right[at-1]
			if impl.WritesOk(swapped) || impl.WritesOk(twice) {
				t.Errorf("%#v or %#v is right", swapped, twice)
			}
		}
	}
	for _, a := range someKeys() {
		for _, b := range someKeys() {
			if want := below(a, b); impl.WritesOk(writesOf(a, b)) != want {
				t.Errorf("WritesOk of the keys %q and %q is %v", a, b, !want)
			}
		}
	}
}

func TestPutWrite(t *testing.T) {
	list := []impl.Write{put("b", "1"), gone("d"), put("da", "3")}
	for _, c := range []struct {
		w    impl.Write
		want []impl.Write
	}{
		{put("a", "x"), []impl.Write{put("a", "x"), list[0], list[1], list[2]}},
		{put("azz", "x"), []impl.Write{put("azz", "x"), list[0], list[1], list[2]}},
		{put("b", "x"), []impl.Write{put("b", "x"), list[1], list[2]}},
		{gone("b"), []impl.Write{gone("b"), list[1], list[2]}},
		{put("b", "1"), list},
		{put("ba", "x"), []impl.Write{list[0], put("ba", "x"), list[1], list[2]}},
		{gone("c"), []impl.Write{list[0], gone("c"), list[1], list[2]}},
		{put("d", "x"), []impl.Write{list[0], put("d", "x"), list[2]}},
		{gone("d"), list},
		{put("da", ""), []impl.Write{list[0], list[1], put("da", "")}},
		{put("daa", "x"), []impl.Write{list[0], list[1], list[2], put("daa", "x")}},
		{gone("zzz"), []impl.Write{list[0], list[1], list[2], gone("zzz")}},
	} {
		got := impl.PutWrite(list, c.w)
		checkWrites(t, "PutWrite", got, c.want)
		if !impl.WritesOk(got) {
			t.Errorf("PutWrite of %#v is not right", c.w)
		}
	}
	for _, w := range []impl.Write{put("a", "x"), gone("zzz"), {}} {
		checkWrites(t, "PutWrite to nothing", impl.PutWrite(nil, w), []impl.Write{w})
		checkWrites(t, "PutWrite to an empty list", impl.PutWrite([]impl.Write{}, w), []impl.Write{w})
	}
}

// sortedWith is what a right list is with w: of each key its write, ascending.
func sortedWith(list []impl.Write, w impl.Write) []impl.Write {
	of := map[string]impl.Write{}
	for _, x := range list {
		of[x.Key] = x
	}
	of[w.Key] = w
	var out []impl.Write
	for _, key := range slices.Sorted(maps.Keys(of)) {
		out = append(out, of[key])
	}
	return out
}

// Every choice of eight keys, and every write to it: of a key that is there, and of one that is not.
func TestPutWriteToEveryRightList(t *testing.T) {
	keys := []string{"a", "aa", "ab", "b", "bzz", "m", "zz", "zzz"}
	for _, chosen := range subsets(keys) {
		list := writesOf(chosen...)
		for _, key := range append([]string{"aaa", "az", "c", "y", "z", "zzy"}, keys...) {
			for _, w := range []impl.Write{put(key, "new"), gone(key)} {
				got := impl.PutWrite(list, w)
				checkWrites(t, "PutWrite", got, sortedWith(list, w))
				if impl.WritesOk(got) != (len(got) <= 8) {
					t.Errorf("PutWrite of %#v to %#v is not right", w, list)
				}
			}
		}
	}
}

// There is no limit here: a ninth one is put, and what comes out is not right.
func TestPutWriteBeyondEight(t *testing.T) {
	list := writesOf("b", "d", "f", "h", "j", "l", "n", "p")
	for at := range 9 {
		w := put(string(rune('a'+2*at)), "new")
		got := impl.PutWrite(list, w)
		checkWrites(t, "PutWrite of a ninth", got, slices.Insert(slices.Clone(list), at, w))
		if impl.WritesOk(got) {
			t.Error("nine writes are right")
		}
	}
	many := writesOf(letters(26)...)
	checkWrites(t, "PutWrite to 26", impl.PutWrite(many, gone("c")), append(append(slices.Clone(many[:2]), gone("c")), many[3:]...))
	checkWrites(t, "PutWrite to 26, one more", impl.PutWrite(many, gone("zz")), append(slices.Clone(many), gone("zz")))
}

// A write is put as it is, right or not.
func TestPutWriteOfAWrongWrite(t *testing.T) {
	list := writesOf("b", "d")
	long := strings.Repeat("v", 300)
	for _, c := range []struct {
		w    impl.Write
		want []impl.Write
	}{
		{impl.Write{}, []impl.Write{{}, list[0], list[1]}},
		{put("", "v"), []impl.Write{put("", "v"), list[0], list[1]}},
		{put("Z", long), []impl.Write{put("Z", long), list[0], list[1]}},
		{impl.Write{Key: "b", Value: long, Gone: true}, []impl.Write{{Key: "b", Value: long, Gone: true}, list[1]}},
		{put("bbbb", ""), []impl.Write{list[0], put("bbbb", ""), list[1]}},
		{put("b\x00", "v"), []impl.Write{list[0], put("b\x00", "v"), list[1]}},
		{put("\xff", "v"), []impl.Write{list[0], list[1], put("\xff", "v")}},
		{put("é", "v"), []impl.Write{list[0], list[1], put("é", "v")}},
	} {
		checkWrites(t, "PutWrite of a wrong write", impl.PutWrite(list, c.w), c.want)
	}
}

// In a list that is not right w stands in place of the first one of its Key, else ahead of the first one above it; all others stay as they are.
func TestPutWriteToAWrongList(t *testing.T) {
	for _, c := range []struct {
		keys  []string
		key   string
		at    int
		takes bool
	}{
		{[]string{"c", "b", "a"}, "a", 2, true}, {[]string{"c", "b", "a"}, "b", 1, true}, {[]string{"c", "b", "a"}, "c", 0, true},
		{[]string{"c", "b", "a"}, "aa", 0, false}, {[]string{"c", "b", "a"}, "d", 3, false},
		{[]string{"a", "d", "b"}, "c", 1, false}, {[]string{"b", "d", "a"}, "c", 1, false}, {[]string{"b", "a", "d"}, "c", 2, false},
		{[]string{"a", "a"}, "a", 0, true}, {[]string{"a", "b", "b", "b", "c"}, "b", 1, true}, {[]string{"a", "b", "a"}, "a", 0, true}, {[]string{"c", "a", "b", "a"}, "a", 1, true},
		{[]string{"b", "b"}, "a", 0, false}, {[]string{"b", "b"}, "c", 2, false}, {[]string{"a", "c", "c", "a"}, "b", 1, false},
		{[]string{""}, "", 0, true}, {[]string{"", ""}, "", 0, true}, {[]string{"a", ""}, "", 1, true}, {[]string{"", "a"}, "", 0, true},
		{[]string{""}, "a", 1, false}, {[]string{"b", ""}, "a", 0, false}, {[]string{"a", ""}, "b", 2, false}, {[]string{"b", "a"}, "", 0, false},
		{[]string{"B", "\xff", "b"}, "a", 1, false}, {[]string{"\xff", "B"}, "B", 1, true},
	} {
		list, w := writesOf(c.keys...), put(c.key, "new")
		want := slices.Clone(list)
		if c.takes {
			want[c.at] = w
		} else {
			want = slices.Insert(want, c.at, w)
		}
		checkWrites(t, "PutWrite to a wrong list", impl.PutWrite(list, w), want)
	}
}

// Whatever the list, w is there, and nothing else is lost or changed but one of its Key.
func TestPutWriteLosesNothing(t *testing.T) {
	for what, list := range wrongWrites() {
		for _, key := range []string{"", "a", "aa", "b", "c", "zzz", "A", "\xff"} {
			w := put(key, "new")
			got := impl.PutWrite(list, w)
			at := slices.Index(got, w)
			if at < 0 {
				t.Errorf("%s: %#v is not there", what, w)
				continue
			}
			rest := slices.Delete(slices.Clone(got), at, at+1)
			if len(got) == len(list) && list[at].Key == key {
				rest = slices.Insert(rest, at, list[at])
			}
			checkWrites(t, what, rest, list)
		}
	}
}

func TestTouches(t *testing.T) {
	r := []impl.Range{{From: "b", To: "d"}, {From: "m", To: "m"}, {From: "x", To: "zz"}}
	for _, key := range []string{"b", "ba", "c", "czz", "d", "m", "x", "y", "z", "zz"} {
		for _, w := range [][]impl.Write{writesOf(key), {gone(key)}, writesOf("a", key), writesOf(key, "zzz"), writesOf("a", "l", key, "n", "zza")} {
			if !impl.Touches(r, w) {
				t.Errorf("%#v is not touched", w)
			}
		}
	}
	for _, w := range [][]impl.Write{nil, {}, writesOf("a"), writesOf("azz"), writesOf("da"), writesOf("l"), writesOf("ma"), writesOf("w"), writesOf("zza"), writesOf("zzz"), {gone("e")}, writesOf("a", "azz", "da", "l", "lzz", "ma", "wzz", "zza")} {
		if impl.Touches(r, w) {
			t.Errorf("%#v is touched", w)
		}
	}
	for _, none := range [][]impl.Range{nil, {}} {
		if impl.Touches(none, nil) || impl.Touches(none, []impl.Write{}) || impl.Touches(none, writesOf("a", "b")) || impl.Touches(none, []impl.Write{{}}) {
			t.Error("no range touches something")
		}
	}
}

func TestTouchesOfRangesOfOneKey(t *testing.T) {
	one := []impl.Range{{From: "bb", To: "bb"}}
	if !impl.Touches(one, writesOf("a", "bb", "c")) || !impl.Touches(one, []impl.Write{gone("bb")}) {
		t.Error("a range of one key does not touch it")
	}
	if impl.Touches(one, writesOf("b", "ba", "baz", "bba", "bbz", "bc", "c")) {
		t.Error("a range of one key touches another one")
	}
	for _, a := range anyTexts() {
		for _, b := range anyTexts() {
			if impl.Touches([]impl.Range{{From: a, To: a}}, writesOf(b)) != (a == b) {
				t.Errorf("the range of %q alone and a write of %q: %v", a, b, a != b)
			}
		}
	}
}

// Of ranges and writes that are not right what is asked stays the same: one key in one range.
func TestTouchesOfWrongLists(t *testing.T) {
	for _, c := range []struct {
		r    []impl.Range
		w    []impl.Write
		want bool
	}{
		{[]impl.Range{{From: "d", To: "b"}}, writesOf("b", "c", "d"), false},
		{[]impl.Range{{From: "d", To: "b"}, {From: "c", To: "c"}}, writesOf("c"), true},
		{[]impl.Range{{}}, writesOf("a"), false},
		{[]impl.Range{{}}, []impl.Write{{}}, true},
		{[]impl.Range{{From: "", To: "b"}}, writesOf("a"), true},
		{[]impl.Range{{From: "", To: "b"}}, writesOf(""), true},
		{[]impl.Range{{From: "a", To: ""}}, writesOf("", "a"), false},
		{[]impl.Range{{From: "a", To: "b"}}, writesOf("", ""), false},
		{[]impl.Range{{From: "a", To: "b"}}, writesOf("z", "y", "b", "x"), true},
		{[]impl.Range{{From: "a", To: "b"}}, writesOf("z", "z", "b"), true},
		{[]impl.Range{{From: "a", To: "b"}}, writesOf("c", "c", "A", "0"), false},
		{[]impl.Range{{From: "A", To: "Z"}}, writesOf("a", "M"), true},
		{[]impl.Range{{From: "\x80", To: "\xff"}}, writesOf("é"), true},
		{[]impl.Range{{From: "y", To: "z"}, {From: "a", To: "b"}, {From: "a", To: "b"}}, writesOf("zzz", "aa"), true},
	} {
		if impl.Touches(c.r, c.w) != c.want {
			t.Errorf("Touches of %#v and %#v is %v", c.r, c.w, !c.want)
		}
	}
}

func TestTouchesOfMany(t *testing.T) {
	keys := []string{"a", "ab", "b", "bb", "c"}
	var ranges []impl.Range
	for _, from := range keys {
		for _, to := range keys {
			ranges = append(ranges, impl.Range{From: from, To: to})
		}
	}
	for _, one := range ranges {
		for _, other := range ranges {
			for _, chosen := range subsets(keys) {
				want := slices.ContainsFunc(chosen, func(key string) bool { return between(one, key) || between(other, key) })
				if impl.Touches([]impl.Range{one, other}, writesOf(chosen...)) != want {
					t.Errorf("Touches of %q and %q, and %q is %v", one, other, chosen, !want)
				}
			}
		}
	}
	var apart []impl.Range
	for _, key := range letters(26) {
		apart = append(apart, impl.Range{From: key + "b", To: key + "c"})
	}
	for _, key := range letters(26) {
		if !impl.Touches(apart, writesOf("a", key+"bb")) || impl.Touches(apart, writesOf(key, key+"a", key+"d")) {
			t.Errorf("26 ranges and a key that begins with %s", key)
		}
	}
}

func TestMeets(t *testing.T) {
	for _, c := range []struct {
		a, b []impl.Write
		want bool
	}{
		{nil, nil, false}, {nil, []impl.Write{}, false}, {nil, writesOf("a"), false}, {[]impl.Write{}, writesOf("a", "b"), false},
		{writesOf("a"), writesOf("a"), true}, {writesOf("a"), writesOf("b"), false}, {writesOf("a"), writesOf("aa"), false},
		{writesOf("a", "c"), writesOf("b", "d"), false}, {writesOf("a", "c"), writesOf("c", "d"), true}, {writesOf("a", "d"), writesOf("a", "c"), true},
		{writesOf("a", "b", "c"), writesOf("a", "b", "c"), true}, {writesOf(letters(8)...), writesOf("h"), true}, {writesOf(letters(8)...), writesOf("i"), false},
		{[]impl.Write{put("a", "1")}, []impl.Write{put("a", "2")}, true}, {[]impl.Write{put("a", "1")}, []impl.Write{gone("a")}, true}, {[]impl.Write{gone("a")}, []impl.Write{gone("a")}, true},
		{[]impl.Write{put("a", "1")}, []impl.Write{put("b", "1")}, false}, {[]impl.Write{gone("a")}, []impl.Write{gone("b")}, false},
	} {
		checkMeets(t, c.a, c.b, c.want)
	}
}

func checkMeets(t *testing.T, a, b []impl.Write, want bool) {
	t.Helper()
	if impl.Meets(a, b) != want || impl.Meets(b, a) != want {
		t.Errorf("Meets of %#v and %#v is %v and %v; want %v", a, b, impl.Meets(a, b), impl.Meets(b, a), want)
	}
}

func anyAlike(a, b []string) bool {
	return slices.ContainsFunc(a, func(key string) bool { return slices.Contains(b, key) })
}

func TestMeetsOfMany(t *testing.T) {
	all := subsets([]string{"a", "aa", "b", "bb", "zzz"})
	for _, a := range all {
		for _, b := range all {
			checkMeets(t, writesOf(a...), writesOf(b...), anyAlike(a, b))
		}
	}
	many := letters(26)
	for _, key := range many {
		checkMeets(t, writesOf(many...), writesOf("aa", key, "zz"), true)
		checkMeets(t, writesOf(many...), writesOf(key+"a"), false)
	}
}

func TestMeetsOfWrongLists(t *testing.T) {
	var lists [][]string
	for _, list := range wrongWrites() {
		var keys []string
		for _, w := range list {
			keys = append(keys, w.Key)
		}
		lists = append(lists, keys)
	}
	lists = append(lists, nil, []string{"a"}, []string{"x", "x"}, []string{"y", "x"}, []string{"A", "é", "\xff"}, []string{"z", "z", "\xff"}, wrongKeys())
	for _, a := range lists {
		for _, b := range lists {
			checkMeets(t, writesOf(a...), writesOf(b...), anyAlike(a, b))
		}
	}
	checkMeets(t, []impl.Write{{}}, []impl.Write{{}}, true)
	checkMeets(t, []impl.Write{{}}, nil, false)
	checkMeets(t, writesOf("a", "a"), writesOf("b", "b"), false)
	checkMeets(t, writesOf("a", "a"), writesOf("b", "a"), true)
}

// fresh is a text in memory of its own.
func fresh(text string) string {
	return string([]byte(text))
}

// roomyWrites is the list in one with spare room behind it, which has marks in it.
func roomyWrites(list []impl.Write) []impl.Write {
	var out []impl.Write
	for _, w := range list {
		out = append(out, impl.Write{Key: fresh(w.Key), Value: fresh(w.Value), Gone: w.Gone})
	}
	out = append(out, put("mark", "mark"), put("mark", "mark"), put("mark", "mark"))
	return out[:len(list)]
}

func writeTexts(list []impl.Write) []string {
	var texts []string
	for _, w := range list {
		texts = append(texts, w.Key, w.Value)
	}
	return texts
}

func TestPutWriteAnswersNewMemory(t *testing.T) {
	lists := [][]impl.Write{nil, writesOf("b"), writesOf("abc", "def"), writesOf(letters(8)...), {gone("b"), put("c", strings.Repeat("v", 300))}}
	for _, list := range wrongWrites() {
		lists = append(lists, list)
	}
	for _, plain := range lists {
		list := roomyWrites(plain)
		was := slices.Clone(list[:cap(list)])
		for _, key := range []string{"", "a", "b", "c", "def", "zzz"} {
			w := put(fresh(key), strings.Repeat("t", 12))
			got := impl.PutWrite(list, w)
			again := impl.PutWrite(list, w)
			checkWrites(t, "PutWrite once more", again, got)
			for _, text := range writeTexts(got) {
				if sharesAny(text, append(writeTexts(list), w.Key, w.Value)) || sharesAny(text, writeTexts(again)) {
					t.Fatal("a text of an answer lies in an argument's memory, or in that of another answer")
				}
			}
			kept := slices.Clone(again)
			// Whatever is done to an answer is not to be seen in the argument, nor in another answer.
			for i := range got {
				got[i] = put("other", "other")
			}
			_ = append(got, put("other", "other"))
			if w != put(key, strings.Repeat("t", 12)) || !slices.Equal(again, kept) {
				t.Error("what is done to an answer is seen elsewhere")
			}
		}
		if !slices.Equal(list[:cap(list)], was) {
			t.Errorf("something is written into %#v, or behind it", plain)
		}
	}
}

func TestKeysWriteIntoNoArgument(t *testing.T) {
	lists := [][]impl.Write{nil, writesOf("b"), writesOf(letters(9)...)}
	for _, list := range wrongWrites() {
		lists = append(lists, list)
	}
	ranges := append([]impl.Range{{From: "b", To: "d"}, {From: "d", To: "b"}, {}}, impl.Range{From: "mark"}, impl.Range{From: "mark"})[:3]
	wasRanges := slices.Clone(ranges[:cap(ranges)])
	for _, plain := range lists {
		a, b := roomyWrites(plain), roomyWrites(plain)
		wasA, wasB := slices.Clone(a[:cap(a)]), slices.Clone(b[:cap(b)])
		first, touched := impl.Meets(a, b), impl.Touches(ranges, a)
		if impl.Meets(a, b) != first || impl.Meets(a, a) != first || impl.Touches(ranges, b) != touched || first != (len(plain) > 0) {
			t.Errorf("%#v is not answered alike twice", plain)
		}
		if impl.WritesOk(a) != impl.WritesOk(b) {
			t.Errorf("WritesOk of %#v is not answered alike twice", plain)
		}
		if !slices.Equal(a[:cap(a)], wasA) || !slices.Equal(b[:cap(b)], wasB) || !slices.Equal(ranges[:cap(ranges)], wasRanges) {
			t.Errorf("something is written into an argument, or behind it")
		}
	}
}
