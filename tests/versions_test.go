package tests

import (
	"math"
	"slices"
	"strings"
	"testing"

	"loop.example/g00327/impl"
)

func ver(key, value string, cs int) impl.Version {
	return impl.Version{Key: key, Value: value, Cs: cs}
}

func goneVer(key string, cs int) impl.Version {
	return impl.Version{Key: key, Gone: true, Cs: cs}
}

var everyKey = impl.Range{From: "a", To: "zzz"}

// history is a right list that has of each kind of key one: written once, written again, gone, gone and written again, gone again, never there.
func history() []impl.Version {
	return []impl.Version{
		ver("a", "a2", 2), ver("a", "a4", 4), ver("a", "a7", 7),
		ver("ab", "ab5", 5),
		ver("b", "b1", 1), goneVer("b", 3), ver("b", "b6", 6), goneVer("b", 9),
		goneVer("c", 4),
		goneVer("d", 2), ver("d", "", 8),
		ver("zzz", "end", 9),
	}
}

// manyVersions are n right ones, of keys of two letters with three versions each.
func manyVersions(n int) []impl.Version {
	var list []impl.Version
	for i := range n {
		key := string([]byte{byte('a' + i/3/26), byte('a' + i/3%26)})
		list = append(list, ver(key, impl.Decimal(i), 1+i%3))
	}
	return list
}

// smallLists are all right lists of these keys and Cs from 1 to most: each version there, there and Gone, or not there.
func smallLists(keys []string, most int) [][]impl.Version {
	lists := [][]impl.Version{nil}
	for _, key := range keys {
		for cs := 1; cs <= most; cs++ {
			var more [][]impl.Version
			for _, list := range lists {
				more = append(more, list)
				more = append(more, append(slices.Clone(list), ver(key, key+impl.Decimal(cs), cs)))
				more = append(more, append(slices.Clone(list), goneVer(key, cs)))
			}
			lists = more
		}
	}
	return lists
}

// mixedLists are all lists of up to three of some versions, most of them not right: in any order, with some twice, or two of one Key and Cs.
func mixedLists() [][]impl.Version {
	some := []impl.Version{ver("a", "x", 1), ver("a", "y", 1), ver("a", "z", 2), goneVer("a", 1), goneVer("a", 3), ver("b", "x", 2), goneVer("b", 2), ver("b", "y", 0), ver("b", "z", -4)}
	lists := [][]impl.Version{nil}
	for from, n := 0, 0; n < 3; n++ {
		to := len(lists)
		for _, list := range lists[from:to] {
			for _, v := range some {
				lists = append(lists, append(slices.Clone(list), v))
			}
		}
		from = to
	}
	return lists
}

// wrongVersions are lists that are not right, each for one reason.
func wrongVersions() map[string][]impl.Version {
	return map[string][]impl.Version{
		"Keys that fall":                  {ver("b", "1", 1), ver("a", "2", 2)},
		"Keys that fall, Cs alike":        {ver("b", "1", 1), ver("a", "2", 1)},
		"a beginning behind":              {ver("ab", "1", 1), ver("a", "2", 1)},
		"a Key that comes again":          {ver("a", "1", 1), ver("b", "2", 1), ver("a", "3", 2)},
		"the last Key too early":          {ver("a", "1", 1), ver("c", "2", 1), ver("b", "3", 1)},
		"one Cs twice":                    {ver("a", "1", 1), ver("a", "2", 1)},
		"one Cs twice, all alike":         {ver("a", "1", 1), ver("a", "1", 1)},
		"one Cs twice, one Gone":          {ver("a", "1", 1), goneVer("a", 1)},
		"one Cs twice, Gone ahead":        {goneVer("a", 1), ver("a", "1", 1)},
		"one Cs twice at the end":         {ver("a", "1", 1), ver("b", "2", 1), ver("b", "3", 2), ver("b", "4", 2)},
		"a Cs that falls":                 {ver("a", "1", 2), ver("a", "2", 1)},
		"a Cs that falls, Gone":           {goneVer("a", 2), ver("a", "2", 1)},
		"a Cs that falls at the end":      {ver("a", "1", 1), ver("a", "2", 3), ver("a", "3", 2)},
		"an empty Key":                    {ver("", "1", 1)},
		"an empty Key ahead of others":    {ver("", "1", 1), ver("a", "2", 1)},
		"a Key of four letters":           {ver("abcd", "1", 1)},
		"a Key of a great letter":         {ver("A", "1", 1), ver("a", "2", 1)},
		"a Key of a figure":               {ver("a1", "1", 1)},
		"a Key of a byte above":           {ver("a", "1", 1), ver("a\xff", "2", 1)},
		"a Value of 13 bytes":             {ver("a", strings.Repeat("v", 13), 1)},
		"a long Value":                    {ver("a", "1", 1), ver("b", strings.Repeat("v", 300), 2)},
		"a Value beside Gone":             {{Key: "a", Value: "1", Gone: true, Cs: 1}},
		"a Value beside Gone at the end":  {ver("a", "1", 1), {Key: "a", Value: "2", Gone: true, Cs: 2}},
		"Cs 0":                            {ver("a", "1", 0)},
		"Cs 0 ahead of others":            {ver("a", "1", 0), ver("a", "2", 1)},
		"Cs 0, Gone":                      {goneVer("a", 0)},
		"Cs -1":                           {ver("a", "1", -1)},
		"the least Cs":                    {ver("a", "1", math.MinInt), ver("a", "2", 1)},
		"Cs MaxCs and 1":                  {ver("a", "1", impl.MaxCs+1)},
		"Cs MaxCs and 1 behind others":    {ver("a", "1", 1), ver("a", "2", impl.MaxCs+1)},
		"the greatest Cs":                 {ver("a", "1", 1), ver("b", "2", math.MaxInt)},
		"nothing in a version":            {{}},
		"nothing in a version among some": {ver("a", "1", 1), {}, ver("c", "3", 1)},
		"nothing in two versions":         {{}, {}},
		"121 versions":                    manyVersions(121),
	}
}

// anyLists are right and wrong ones.
func anyLists() [][]impl.Version {
	lists := [][]impl.Version{nil, {}, history(), manyVersions(1), manyVersions(12), manyVersions(120), manyVersions(300)}
	for _, list := range wrongVersions() {
		lists = append(lists, list)
	}
	return lists
}

var anySnaps = []int{math.MinInt, -5, -1, 0, 1, 2, 3, 4, 5, 6, 7, 8, 9, 10, impl.MaxCs - 1, impl.MaxCs, impl.MaxCs + 1, math.MaxInt}

// chosenPlace is the place of the version that counts of this key at snap, or -1: they are put in order of falling Cs, those with one Cs as they stand.
func chosenPlace(list []impl.Version, key string, snap int) int {
	var places []int
	for i, v := range list {
		if v.Key == key && v.Cs <= snap {
			places = append(places, i)
		}
	}
	slices.SortStableFunc(places, func(a, b int) int {
		switch {
		case list[a].Cs > list[b].Cs:
			return -1
		case list[a].Cs < list[b].Cs:
			return 1
		}
		return 0
	})
	if len(places) == 0 {
		return -1
	}
	return places[0]
}

func seenOf(list []impl.Version, key string, snap int) (string, bool) {
	at := chosenPlace(list, key, snap)
	if at < 0 || list[at].Gone {
		return "", false
	}
	return list[at].Value, true
}

func scannedOf(list []impl.Version, r impl.Range, snap int) []impl.Pair {
	keys := map[string]int{}
	for _, v := range list {
		keys[v.Key]++
	}
	var pairs []impl.Pair
	for key := range keys {
		if value, ok := seenOf(list, key, snap); ok && between(r, key) {
			pairs = append(pairs, impl.Pair{Key: key, Value: value})
		}
	}
	slices.SortFunc(pairs, func(a, b impl.Pair) int {
		if below(a.Key, b.Key) {
			return -1
		}
		return 1
	})
	return pairs
}

func trimmedOf(list []impl.Version, snap int) []impl.Version {
	count, stays := map[string]int{}, make([]bool, len(list))
	for i, v := range list {
		stays[i] = v.Cs > snap || chosenPlace(list, v.Key, snap) == i
		if stays[i] {
			count[v.Key]++
		}
	}
	var out []impl.Version
	for i, v := range list {
		lone := v.Gone && v.Cs <= snap && count[v.Key] == 1
		if stays[i] && !lone {
			out = append(out, v)
		}
	}
	return out
}

// sameAsFrom asks at snap, and at each number above it that a list of both has.
func sameAsFrom(a, b []impl.Version, snap int) bool {
	numbers := []int{snap}
	for _, v := range append(slices.Clone(a), b...) {
		if v.Cs > snap {
			numbers = append(numbers, v.Cs)
		}
	}
	return !slices.ContainsFunc(numbers, func(at int) bool {
		return !slices.Equal(scannedOf(a, everyKey, at), scannedOf(b, everyKey, at))
	})
}

func checkVersions(t *testing.T, what string, got, want []impl.Version) {
	t.Helper()
	if !slices.Equal(got, want) {
		t.Errorf("%s: %#v; want %#v", what, got, want)
	}
}

func checkSeen(t *testing.T, list []impl.Version, key string, snap int, value string, there bool) {
	t.Helper()
	if got, ok := impl.SeenAt(list, key, snap); got != value || ok != there {
		t.Errorf("SeenAt of %q at %d in %#v: %q, %v; want %q, %v", key, snap, list, got, ok, value, there)
	}
}

func checkScan(t *testing.T, list []impl.Version, r impl.Range, snap int, want []impl.Pair) {
	t.Helper()
	if got := impl.ScanAt(list, r, snap); !slices.Equal(got, want) {
		t.Errorf("ScanAt of %q at %d in %#v: %#v; want %#v", r, snap, list, got, want)
	}
}

func TestVersionLimits(t *testing.T) {
	if impl.MaxCs != 9999 {
		t.Error("a limit is not what the document says")
	}
}

func TestVersionsOk(t *testing.T) {
	for what, list := range map[string][]impl.Version{
		"nil": nil, "none": {}, "history": history(),
		"one": {ver("a", "1", 1)}, "one at MaxCs": {ver("zzz", "1", impl.MaxCs)}, "one that is Gone": {goneVer("abc", 1)},
		"an empty Value": {ver("a", "", 5)}, "a Value of 12 bytes": {ver("a", strings.Repeat("v", 12), 5)}, "a Value of odd bytes": {ver("a", "\x00\xff\n ｆ", 5)},
		"Cs 1 and MaxCs":        {ver("a", "1", 1), ver("a", "2", impl.MaxCs)},
		"a Cs that falls anew":  {ver("a", "1", 7), ver("aa", "2", 5), ver("ab", "3", 1), ver("b", "4", 1)},
		"Gone, and Gone again":  {goneVer("a", 1), goneVer("a", 2), ver("a", "", 3), goneVer("a", 4)},
		"a Value twice":         {ver("a", "1", 1), ver("a", "1", 2), ver("b", "1", 1)},
		"Cs that follow at end": {ver("z", "1", impl.MaxCs-1), ver("z", "2", impl.MaxCs)},
	} {
		if !impl.VersionsOk(list) {
			t.Errorf("%s: not right", what)
		}
	}
	for what, list := range wrongVersions() {
		if impl.VersionsOk(list) {
			t.Errorf("%s: right", what)
		}
	}
}

func TestVersionsOkOfEveryLength(t *testing.T) {
	for n := range 300 {
		var rising []impl.Version
		for i := range n {
			rising = append(rising, ver("k", "", i+1))
		}
		if want := n <= 120; impl.VersionsOk(manyVersions(n)) != want || impl.VersionsOk(rising) != want {
			t.Errorf("VersionsOk of %d versions is not %v", n, want)
		}
	}
}

func TestVersionsOkOfNumbers(t *testing.T) {
	for _, cs := range []int{math.MinInt, -10000, -9999, -1, 0, 1, 2, 100, 9998, 9999, 10000, 10001, 1 << 32, 1<<32 + 1, math.MaxInt} {
		want := cs >= 1 && cs <= 9999
		if impl.VersionsOk([]impl.Version{ver("a", "1", cs)}) != want || impl.VersionsOk([]impl.Version{goneVer("a", cs)}) != want || impl.VersionsOk([]impl.Version{ver("a", "1", 4), ver("b", "2", cs), ver("c", "3", 4)}) != want {
			t.Errorf("VersionsOk of Cs %d is not %v", cs, want)
		}
	}
	for a := 1; a <= 5; a++ {
		for b := 1; b <= 5; b++ {
			if impl.VersionsOk([]impl.Version{ver("a", "1", a), ver("a", "2", b)}) != (a < b) {
				t.Errorf("VersionsOk of one Key with Cs %d and %d is %v", a, b, a >= b)
			}
			if !impl.VersionsOk([]impl.Version{ver("a", "1", a), ver("b", "2", b)}) || impl.VersionsOk([]impl.Version{ver("b", "1", a), ver("a", "2", b)}) {
				t.Errorf("VersionsOk of two Keys hangs on Cs %d and %d", a, b)
			}
		}
	}
}

// One wrong version at any place of a list is told.
func TestVersionsOkLooksAtAll(t *testing.T) {
	for _, n := range []int{1, 2, 3, 7, 120} {
		for at := range n {
			right := manyVersions(n)
			v := right[at]
			for _, wrong := range []impl.Version{
				{Key: v.Key + "aa", Value: "v", Cs: v.Cs}, {Key: v.Key + "A", Value: "v", Cs: v.Cs}, {Key: "", Value: "v", Cs: v.Cs},
				{Key: v.Key, Value: strings.Repeat("v", 13), Cs: v.Cs}, {Key: v.Key, Value: "v", Gone: true, Cs: v.Cs},
				{Key: v.Key, Value: "v", Cs: 0}, {Key: v.Key, Value: "v", Cs: -v.Cs}, {Key: v.Key, Value: "v", Cs: 10000},
			} {
				list := slices.Clone(right)
				list[at] = wrong
				if impl.VersionsOk(list) {
					t.Errorf("%d versions are right with %#v at %d", n, wrong, at)
				}
			}
			if at == 0 {
				continue
			}
			swapped, twice := slices.Clone(right), slices.Clone(right)
			swapped[at-1], swapped[at] = right[at], right[at-1]
			twice[at] = right[at-1]
			if impl.VersionsOk(swapped) || impl.VersionsOk(twice) {
				t.Errorf("%d versions are right, two of them swapped or alike at %d", n, at)
			}
		}
	}
}

func TestVersionsOkOfKeys(t *testing.T) {
	for _, key := range someKeys() {
		if !impl.VersionsOk([]impl.Version{ver(key, "v", 1), goneVer(key, 2)}) {
			t.Errorf("versions of %q are not right", key)
		}
	}
	for _, key := range wrongKeys() {
		if impl.VersionsOk([]impl.Version{ver(key, "v", 1)}) || impl.VersionsOk([]impl.Version{goneVer(key, 1)}) {
			t.Errorf("a version of %q is right", key)
		}
	}
	for _, a := range someKeys() {
		for _, b := range someKeys() {
			if want := below(a, b); impl.VersionsOk([]impl.Version{ver(a, "v", 3), ver(b, "v", 3)}) != want {
				t.Errorf("VersionsOk of the Keys %q and %q is %v", a, b, !want)
			}
		}
	}
}

func TestSeenAt(t *testing.T) {
	list := history()
	for key, seen := range map[string][]string{ // what is seen at 0, 1, 2 ..; "-" where nothing is
		"a":   {"-", "-", "a2", "a2", "a4", "a4", "a4", "a7", "a7", "a7", "a7"},
		"ab":  {"-", "-", "-", "-", "-", "ab5", "ab5", "ab5", "ab5", "ab5", "ab5"},
		"b":   {"-", "b1", "b1", "-", "-", "-", "b6", "b6", "b6", "-", "-"},
		"c":   {"-", "-", "-", "-", "-", "-", "-", "-", "-", "-", "-"},
		"d":   {"-", "-", "-", "-", "-", "-", "-", "-", "", "", ""},
		"zzz": {"-", "-", "-", "-", "-", "-", "-", "-", "-", "end", "end"},
		"aa":  {"-", "-", "-", "-", "-", "-", "-", "-", "-", "-", "-"},
		"zz":  {"-", "-", "-", "-", "-", "-", "-", "-", "-", "-", "-"},
	} {
		for snap, value := range seen {
			checkSeen(t, list, key, snap, strings.TrimPrefix(value, "-"), value != "-")
		}
		for _, snap := range []int{-1, -2, math.MinInt} {
			checkSeen(t, list, key, snap, "", false)
		}
		last := seen[len(seen)-1]
		for _, snap := range []int{impl.MaxCs, impl.MaxCs + 1, math.MaxInt} {
			checkSeen(t, list, key, snap, strings.TrimPrefix(last, "-"), last != "-")
		}
	}
	for _, key := range wrongKeys() {
		checkSeen(t, list, key, impl.MaxCs, "", false)
	}
}

func TestSeenAtOfFew(t *testing.T) {
	for _, snap := range anySnaps {
		checkSeen(t, nil, "a", snap, "", false)
		checkSeen(t, []impl.Version{}, "a", snap, "", false)
		checkSeen(t, nil, "", snap, "", false)
		if snap < 1 {
			checkSeen(t, []impl.Version{ver("a", "1", 1)}, "a", snap, "", false)
		} else {
			checkSeen(t, []impl.Version{ver("a", "1", 1)}, "a", snap, "1", true)
		}
		checkSeen(t, []impl.Version{goneVer("a", 1)}, "a", snap, "", false)
	}
	end := []impl.Version{ver("a", "1", 1), ver("a", "2", impl.MaxCs)}
	checkSeen(t, end, "a", impl.MaxCs-1, "1", true)
	checkSeen(t, end, "a", impl.MaxCs, "2", true)
	full := manyVersions(120)
	for _, v := range full {
		checkSeen(t, full, v.Key, v.Cs, v.Value, true)
	}
}

// In every small list each key is seen at each number as it was last written up to it.
func TestSeenAtOfEverySmallList(t *testing.T) {
	for _, list := range smallLists([]string{"a", "b"}, 3) {
		for _, key := range []string{"a", "b", "c", "", "aa"} {
			for snap := -1; snap <= 5; snap++ {
				value, there := seenOf(list, key, snap)
				checkSeen(t, list, key, snap, value, there)
			}
		}
	}
}

// No right list is asked for: the greatest Cs counts, wherever it stands, and the first one of it.
func TestSeenAtOfWrongLists(t *testing.T) {
	for _, c := range []struct {
		list  []impl.Version
		key   string
		snap  int
		value string
		there bool
	}{
		{[]impl.Version{ver("a", "two", 2), ver("a", "one", 1)}, "a", 2, "two", true},
		{[]impl.Version{ver("a", "two", 2), ver("a", "one", 1)}, "a", 1, "one", true},
		{[]impl.Version{ver("b", "b", 1), ver("a", "1", 1), ver("b", "2", 3), ver("a", "3", 2)}, "a", 9, "3", true},
		{[]impl.Version{ver("a", "x", 1), ver("a", "y", 1)}, "a", 1, "x", true},
		{[]impl.Version{goneVer("a", 1), ver("a", "y", 1)}, "a", 1, "", false},
		{[]impl.Version{ver("a", "x", 1), goneVer("a", 1)}, "a", 1, "x", true},
		{[]impl.Version{ver("a", "nought", 0)}, "a", 0, "nought", true},
		{[]impl.Version{ver("a", "nought", 0)}, "a", -1, "", false},
		{[]impl.Version{ver("a", "under", -7)}, "a", -7, "under", true},
		{[]impl.Version{ver("a", "under", -7), ver("a", "more", -3)}, "a", 0, "more", true},
		{[]impl.Version{ver("a", "least", math.MinInt)}, "a", math.MinInt, "least", true},
		{[]impl.Version{ver("a", "most", math.MaxInt)}, "a", math.MaxInt, "most", true},
		{[]impl.Version{ver("a", "most", math.MaxInt)}, "a", math.MaxInt - 1, "", false},
		{[]impl.Version{ver("a", "1", 1), ver("a", "beyond", impl.MaxCs+1)}, "a", impl.MaxCs + 1, "beyond", true},
		{[]impl.Version{ver("", "empty", 1)}, "", 1, "empty", true},
		{[]impl.Version{ver("", "empty", 1)}, "a", 1, "", false},
		{[]impl.Version{ver("ABCDE", "great", 1)}, "ABCDE", 1, "great", true},
		{[]impl.Version{ver("a", strings.Repeat("v", 300), 1)}, "a", 1, strings.Repeat("v", 300), true},
		{[]impl.Version{{Key: "a", Value: "v", Gone: true, Cs: 1}}, "a", 1, "", false},
		{[]impl.Version{{}}, "", 0, "", true},
		{[]impl.Version{{}}, "", -1, "", false},
	} {
		checkSeen(t, c.list, c.key, c.snap, c.value, c.there)
	}
	for _, list := range append(anyLists(), mixedLists()...) {
		for _, key := range []string{"", "a", "b", "abcd", "A", "ca"} {
			for _, snap := range anySnaps {
				value, there := seenOf(list, key, snap)
				checkSeen(t, list, key, snap, value, there)
			}
		}
	}
}

func pair(key, value string) impl.Pair {
	return impl.Pair{Key: key, Value: value}
}

func TestScanAt(t *testing.T) {
	list := history()
	for snap, want := range [][]impl.Pair{
		nil,
		{pair("b", "b1")},
		{pair("a", "a2"), pair("b", "b1")},
		{pair("a", "a2")},
		{pair("a", "a4")},
		{pair("a", "a4"), pair("ab", "ab5")},
		{pair("a", "a4"), pair("ab", "ab5"), pair("b", "b6")},
		{pair("a", "a7"), pair("ab", "ab5"), pair("b", "b6")},
		{pair("a", "a7"), pair("ab", "ab5"), pair("b", "b6"), pair("d", "")},
		{pair("a", "a7"), pair("ab", "ab5"), pair("d", ""), pair("zzz", "end")},
	} {
		checkScan(t, list, everyKey, snap, want)
	}
	all := []impl.Pair{pair("a", "a7"), pair("ab", "ab5"), pair("d", ""), pair("zzz", "end")}
	for _, snap := range []int{10, impl.MaxCs, impl.MaxCs + 1, math.MaxInt} {
		checkScan(t, list, everyKey, snap, all)
	}
	for _, snap := range []int{0, -1, math.MinInt} {
		checkScan(t, list, everyKey, snap, nil)
	}
	for _, r := range []impl.Range{everyKey, {From: "a", To: "a"}, {}} {
		checkScan(t, nil, r, 5, nil)
		checkScan(t, []impl.Version{}, r, 5, nil)
	}
}

func TestScanAtOfRanges(t *testing.T) {
	list := history()
	for _, c := range []struct {
		from, to string
		want     []impl.Pair
	}{
		{"a", "a", []impl.Pair{pair("a", "a7")}},
		{"ab", "ab", []impl.Pair{pair("ab", "ab5")}},
		{"b", "b", []impl.Pair{pair("b", "b6")}},
		{"c", "c", nil}, {"aa", "aa", nil}, {"zzz", "zzz", nil},
		{"d", "d", []impl.Pair{pair("d", "")}},
		{"a", "ab", []impl.Pair{pair("a", "a7"), pair("ab", "ab5")}},
		{"a", "aa", []impl.Pair{pair("a", "a7")}},
		{"aa", "az", []impl.Pair{pair("ab", "ab5")}},
		{"aba", "c", []impl.Pair{pair("b", "b6")}},
		{"b", "d", []impl.Pair{pair("b", "b6"), pair("d", "")}},
		{"ab", "b", []impl.Pair{pair("ab", "ab5"), pair("b", "b6")}},
		{"da", "zzy", nil}, {"e", "z", nil},
		{"b", "a", nil}, {"zzz", "a", nil}, {"ab", "aa", nil}, {"d", "b", nil},
		{"", "", nil}, {"", "a", []impl.Pair{pair("a", "a7")}}, {"a", "", nil}, {"", "\xff", []impl.Pair{pair("a", "a7"), pair("ab", "ab5"), pair("b", "b6"), pair("d", "")}},
		{"A", "Z", nil}, {"b\x00", "dddd", []impl.Pair{pair("d", "")}},
	} {
		checkScan(t, list, impl.Range{From: c.from, To: c.to}, 8, c.want)
	}
	full := manyVersions(120)
	var want []impl.Pair
	for i := 1; i < len(full); i += 3 {
		want = append(want, pair(full[i].Key, full[i].Value))
	}
	checkScan(t, full, everyKey, 2, want)
	checkScan(t, full, impl.Range{From: "ac", To: "ae"}, 2, want[2:5])
}

func TestScanAtOfEverySmallList(t *testing.T) {
	ranges := []impl.Range{everyKey, {From: "a", To: "a"}, {From: "b", To: "b"}, {From: "aa", To: "b"}, {From: "a", To: "az"}, {From: "b", To: "a"}, {From: "c", To: "z"}}
	for _, list := range append(smallLists([]string{"a", "b"}, 3), mixedLists()...) {
		for _, r := range ranges {
			for snap := -1; snap <= 4; snap++ {
				checkScan(t, list, r, snap, scannedOf(list, r, snap))
			}
		}
	}
}

// Keys come ascending and once each, also from a list in which they stand otherwise.
func TestScanAtOfWrongLists(t *testing.T) {
	checkScan(t, []impl.Version{ver("c", "3", 1), ver("b", "2", 1), ver("a", "1", 1)}, everyKey, 1, []impl.Pair{pair("a", "1"), pair("b", "2"), pair("c", "3")})
	checkScan(t, []impl.Version{ver("b", "x", 1), ver("a", "y", 1), ver("b", "z", 2)}, everyKey, 2, []impl.Pair{pair("a", "y"), pair("b", "z")})
	checkScan(t, []impl.Version{ver("b", "x", 1), ver("a", "y", 1), goneVer("b", 2), ver("b", "w", 1)}, everyKey, 2, []impl.Pair{pair("a", "y")})
	checkScan(t, []impl.Version{ver("b", "x", 1), ver("b", "y", 1), ver("b", "z", 1)}, everyKey, 1, []impl.Pair{pair("b", "x")})
	checkScan(t, []impl.Version{ver("", "e", 1), ver("A", "g", 1), ver("abcd", "l", 1), ver("zzzz", "m", 1)}, everyKey, 1, []impl.Pair{pair("abcd", "l")})
	checkScan(t, []impl.Version{ver("", "e", 1), ver("A", "g", 1)}, impl.Range{From: "", To: "Z"}, 1, []impl.Pair{pair("", "e"), pair("A", "g")})
	for _, list := range anyLists() {
		for _, r := range []impl.Range{everyKey, {From: "ab", To: "b"}, {From: "b", To: "ab"}, {}, {From: "", To: "\xff"}} {
			for _, snap := range anySnaps {
				checkScan(t, list, r, snap, scannedOf(list, r, snap))
			}
		}
	}
}

func TestPutVersions(t *testing.T) {
	list := []impl.Version{ver("b", "1", 2), goneVer("b", 5), ver("d", "3", 4)}
	b2, b5, d4 := list[0], list[1], list[2]
	for _, c := range []struct {
		what string
		w    []impl.Write
		cs   int
		want []impl.Version
	}{
		{"no writes", nil, 6, list},
		{"an empty list of writes", []impl.Write{}, 6, list},
		{"a cs above all", []impl.Write{put("b", "x")}, 6, []impl.Version{b2, b5, ver("b", "x", 6), d4}},
		{"a cs above all, of the last key", []impl.Write{put("d", "x")}, 5, []impl.Version{b2, b5, d4, ver("d", "x", 5)}},
		{"MaxCs", []impl.Write{gone("b")}, impl.MaxCs, []impl.Version{b2, b5, goneVer("b", impl.MaxCs), d4}},
		{"a cs between", []impl.Write{put("b", "x")}, 3, []impl.Version{b2, ver("b", "x", 3), b5, d4}},
		{"a cs just below one", []impl.Write{gone("b")}, 4, []impl.Version{b2, goneVer("b", 4), b5, d4}},
		{"a cs below all", []impl.Write{put("b", "x")}, 1, []impl.Version{ver("b", "x", 1), b2, b5, d4}},
		{"a cs below all, of the last key", []impl.Write{put("d", "x")}, 1, []impl.Version{b2, b5, ver("d", "x", 1), d4}},
		{"a cs alike to one", []impl.Write{put("b", "x")}, 2, []impl.Version{ver("b", "x", 2), b5, d4}},
		{"a cs alike to one that is Gone", []impl.Write{put("b", "x")}, 5, []impl.Version{b2, ver("b", "x", 5), d4}},
		{"a cs alike to one, Gone", []impl.Write{gone("d")}, 4, []impl.Version{b2, b5, goneVer("d", 4)}},
		{"what is there", []impl.Write{gone("b")}, 5, list},
		{"a cs alike to another key's", []impl.Write{put("b", "x")}, 4, []impl.Version{b2, ver("b", "x", 4), b5, d4}},
		{"a new key ahead", []impl.Write{put("a", "x")}, 9, []impl.Version{ver("a", "x", 9), b2, b5, d4}},
		{"a new key between", []impl.Write{gone("c")}, 1, []impl.Version{b2, b5, goneVer("c", 1), d4}},
		{"a new key that begins alike", []impl.Write{put("ba", "x")}, 1, []impl.Version{b2, b5, ver("ba", "x", 1), d4}},
		{"a new key behind", []impl.Write{put("da", "")}, 1, []impl.Version{b2, b5, d4, ver("da", "", 1)}},
		{"several", []impl.Write{put("a", "x"), gone("b"), put("c", "y"), put("d", "z"), gone("e")}, 6, []impl.Version{ver("a", "x", 6), b2, b5, goneVer("b", 6), ver("c", "y", 6), d4, ver("d", "z", 6), goneVer("e", 6)}},
	} {
		got := impl.PutVersions(list, c.w, c.cs)
		checkVersions(t, c.what, got, c.want)
		if !impl.VersionsOk(got) {
			t.Errorf("%s: not right", c.what)
		}
	}
	checkVersions(t, "nothing to nothing", impl.PutVersions(nil, nil, 1), nil)
	for _, none := range [][]impl.Version{nil, {}} {
		checkVersions(t, "some to nothing", impl.PutVersions(none, []impl.Write{put("a", "1"), gone("b")}, 1), []impl.Version{ver("a", "1", 1), goneVer("b", 1)})
	}
}

// sortedVersions is what a right list is with these writes: of each Key and Cs one, ascending.
func sortedVersions(list []impl.Version, w []impl.Write, cs int) []impl.Version {
	type place struct {
		key string
		cs  int
	}
	of := map[place]impl.Version{}
	for _, v := range list {
		of[place{v.Key, v.Cs}] = v
	}
	for _, x := range w {
		of[place{x.Key, cs}] = impl.Version{Key: x.Key, Value: x.Value, Gone: x.Gone, Cs: cs}
	}
	var out []impl.Version
	for _, v := range of {
		out = append(out, v)
	}
	slices.SortFunc(out, func(a, b impl.Version) int {
		if below(a.Key, b.Key) || a.Key == b.Key && a.Cs < b.Cs {
			return -1
		}
		return 1
	})
	return out
}

// Promise 6: from cs on what was written is seen, until the next one of its key; below it, and of other keys, all is as it was.
func TestPutVersionsIsSeen(t *testing.T) {
	for _, list := range smallLists([]string{"a", "c"}, 3) {
		for _, w := range [][]impl.Write{nil, {put("a", "n")}, {gone("a")}, {put("b", "n")}, {gone("c")}, {put("a", "n"), put("c", "m")}, {put("0", "n")}} {
			for cs := range 6 {
				got := impl.PutVersions(list, w, cs)
				checkVersions(t, "PutVersions", got, sortedVersions(list, w, cs))
				for snap := range 7 {
					checkSeenBehindPut(t, list, w, cs, snap, got)
				}
			}
		}
	}
}

func checkSeenBehindPut(t *testing.T, list []impl.Version, w []impl.Write, cs, snap int, got []impl.Version) {
	t.Helper()
	for _, key := range []string{"a", "b", "c"} {
		value, there := seenOf(list, key, snap)
		last := chosenPlace(list, key, snap)
		for _, x := range w {
			if x.Key == key && cs <= snap && (last < 0 || list[last].Cs <= cs) {
				value, there = x.Value, !x.Gone
			}
		}
		checkSeen(t, got, key, snap, value, there)
	}
}

// There is no limit here, and what is put is put as it is, right or not.
func TestPutVersionsOfWrongWrites(t *testing.T) {
	full := manyVersions(120)
	got := impl.PutVersions(full, []impl.Write{put("zz", "x")}, 1)
	checkVersions(t, "a 121st", got, append(slices.Clone(full), ver("zz", "x", 1)))
	if impl.VersionsOk(got) {
		t.Error("121 versions are right")
	}
	checkVersions(t, "no 121st", impl.PutVersions(full, []impl.Write{put("aa", "x")}, 2), slices.Replace(slices.Clone(full), 1, 2, ver("aa", "x", 2)))
	list, long := []impl.Version{ver("b", "1", 2)}, strings.Repeat("v", 300)
	for _, cs := range []int{math.MinInt, -1, 0} {
		checkVersions(t, "a low cs", impl.PutVersions(list, []impl.Write{put("b", "x")}, cs), []impl.Version{ver("b", "x", cs), list[0]})
	}
	for _, cs := range []int{impl.MaxCs + 1, math.MaxInt} {
		checkVersions(t, "a high cs", impl.PutVersions(list, []impl.Write{put("b", "x")}, cs), []impl.Version{list[0], ver("b", "x", cs)})
	}
	for _, c := range []struct {
		w    []impl.Write
		want []impl.Version
	}{
		{[]impl.Write{{}}, []impl.Version{ver("", "", 3), list[0]}},
		{[]impl.Write{put("", long)}, []impl.Version{ver("", long, 3), list[0]}},
		{[]impl.Write{put("B", "x"), put("bbbb", "y"), put("\xff", "z")}, []impl.Version{ver("B", "x", 3), list[0], ver("bbbb", "y", 3), ver("\xff", "z", 3)}},
		{[]impl.Write{{Key: "c", Value: long, Gone: true}}, []impl.Version{list[0], {Key: "c", Value: long, Gone: true, Cs: 3}}},
		{[]impl.Write{put("d", "1"), put("c", "2"), put("a", "3")}, []impl.Version{ver("a", "3", 3), list[0], ver("c", "2", 3), ver("d", "1", 3)}},
		{[]impl.Write{put("c", "1"), put("c", "2")}, []impl.Version{list[0], ver("c", "2", 3)}},
		{[]impl.Write{put("c", "1"), gone("c")}, []impl.Version{list[0], goneVer("c", 3)}},
	} {
		checkVersions(t, "wrong writes", impl.PutVersions(list, c.w, 3), c.want)
	}
	many := writesOf(letters(26)...)
	if got := impl.PutVersions(nil, many, 7); len(got) != 26 || !impl.VersionsOk(got) || !slices.Equal(impl.PutVersions(list, many, 7), sortedVersions(list, many, 7)) {
		t.Error("26 writes are not put")
	}
}

// In a list that is not right a version stands in place of the first one of its Key and Cs, else ahead of the first one above it; all others stay as they are.
func TestPutVersionsToAWrongList(t *testing.T) {
	for _, c := range []struct {
		list  []impl.Version
		key   string
		cs    int
		at    int
		takes bool
	}{
		{[]impl.Version{ver("c", "1", 1), ver("b", "2", 1), ver("a", "3", 1)}, "a", 1, 2, true},
		{[]impl.Version{ver("c", "1", 1), ver("b", "2", 1), ver("a", "3", 1)}, "a", 2, 0, false},
		{[]impl.Version{ver("c", "1", 1), ver("b", "2", 1), ver("a", "3", 1)}, "d", 1, 3, false},
		{[]impl.Version{ver("a", "1", 1), ver("a", "2", 1)}, "a", 1, 0, true},
		{[]impl.Version{ver("a", "1", 1), ver("a", "2", 1)}, "a", 2, 2, false},
		{[]impl.Version{ver("a", "1", 1), ver("a", "2", 1)}, "a", 0, 0, false},
		{[]impl.Version{ver("a", "1", 2), ver("a", "2", 1)}, "a", 1, 1, true},
		{[]impl.Version{ver("a", "1", 3), ver("a", "2", 1)}, "a", 2, 0, false},
		{[]impl.Version{ver("a", "1", 1), ver("a", "2", 4), ver("a", "3", 2)}, "a", 3, 1, false},
		{[]impl.Version{ver("b", "1", 1), ver("a", "2", 1), ver("b", "3", 3)}, "b", 2, 2, false},
		{[]impl.Version{{}}, "", 0, 0, true},
		{[]impl.Version{ver("a", "1", 1), {}}, "", 0, 1, true},
		{[]impl.Version{ver("a", "1", 1), {}}, "", 1, 0, false},
		{[]impl.Version{{}, {}}, "a", 1, 2, false},
	} {
		want := slices.Clone(c.list)
		if c.takes {
			want[c.at] = ver(c.key, "new", c.cs)
		} else {
			want = slices.Insert(want, c.at, ver(c.key, "new", c.cs))
		}
		checkVersions(t, "PutVersions to a wrong list", impl.PutVersions(c.list, []impl.Write{put(c.key, "new")}, c.cs), want)
	}
	for _, list := range anyLists() {
		checkVersions(t, "no writes", impl.PutVersions(list, nil, 3), list)
	}
}

// Whatever the list, what was last written is seen at its number.
func TestPutVersionsToAnyListIsSeen(t *testing.T) {
	for _, list := range append(anyLists(), mixedLists()...) {
		for _, cs := range []int{-1, 0, 1, 2, 9999} {
			got := impl.PutVersions(list, []impl.Write{put("a", "new"), gone("b")}, cs)
			checkSeen(t, got, "a", cs, "new", true)
			checkSeen(t, got, "b", cs, "", false)
			if len(got) < len(list) || len(got) > len(list)+2 {
				t.Errorf("%d versions of %d with two writes", len(got), len(list))
			}
		}
	}
}

func TestTrimmed(t *testing.T) {
	list := history()
	a2, a4, a7, ab5 := list[0], list[1], list[2], list[3]
	b3, b6, b9, c4 := list[5], list[6], list[7], list[8]
	d2, d8, end := list[9], list[10], list[11]
	for snap, want := range [][]impl.Version{
		list,
		list,
		list,
		{a2, a4, a7, ab5, b3, b6, b9, c4, d2, d8, end},
		{a4, a7, ab5, b3, b6, b9, d2, d8, end},
		{a4, a7, ab5, b3, b6, b9, d2, d8, end},
		{a4, a7, ab5, b6, b9, d2, d8, end},
		{a7, ab5, b6, b9, d2, d8, end},
		{a7, ab5, b6, b9, d8, end},
		{a7, ab5, d8, end},
		{a7, ab5, d8, end},
	} {
		checkVersions(t, "Trimmed", impl.Trimmed(list, snap), want)
	}
	for _, snap := range []int{impl.MaxCs, math.MaxInt} {
		checkVersions(t, "Trimmed above all", impl.Trimmed(list, snap), []impl.Version{a7, ab5, d8, end})
	}
	for _, snap := range []int{0, -1, math.MinInt} {
		checkVersions(t, "Trimmed below all", impl.Trimmed(list, snap), list)
	}
	for _, snap := range anySnaps {
		checkVersions(t, "Trimmed of nothing", impl.Trimmed(nil, snap), nil)
		checkVersions(t, "Trimmed of an empty list", impl.Trimmed([]impl.Version{}, snap), nil)
	}
}

func TestTrimmedOfGone(t *testing.T) {
	for _, c := range []struct {
		list []impl.Version
		snap int
		want []impl.Version
	}{
		{[]impl.Version{goneVer("a", 3)}, 2, []impl.Version{goneVer("a", 3)}},
		{[]impl.Version{goneVer("a", 3)}, 3, nil},
		{[]impl.Version{goneVer("a", 3)}, 4, nil},
		{[]impl.Version{ver("a", "", 3)}, 3, []impl.Version{ver("a", "", 3)}},
		{[]impl.Version{ver("a", "1", 1), goneVer("a", 3)}, 3, nil},
		{[]impl.Version{ver("a", "1", 1), goneVer("a", 3)}, 2, []impl.Version{ver("a", "1", 1), goneVer("a", 3)}},
		{[]impl.Version{goneVer("a", 1), goneVer("a", 3)}, 3, nil},
		{[]impl.Version{goneVer("a", 1), goneVer("a", 3)}, 2, []impl.Version{goneVer("a", 1), goneVer("a", 3)}},
		{[]impl.Version{goneVer("a", 1), ver("a", "2", 2)}, 1, []impl.Version{goneVer("a", 1), ver("a", "2", 2)}},
		{[]impl.Version{goneVer("a", 1), ver("a", "2", 2)}, 2, []impl.Version{ver("a", "2", 2)}},
		{[]impl.Version{ver("a", "1", 1), goneVer("a", 2), ver("a", "3", 3)}, 2, []impl.Version{goneVer("a", 2), ver("a", "3", 3)}},
		{[]impl.Version{goneVer("a", 1), ver("b", "2", 2)}, 1, []impl.Version{ver("b", "2", 2)}},
		{[]impl.Version{goneVer("a", 1), goneVer("aa", 1), goneVer("b", 1)}, 1, nil},
		{[]impl.Version{goneVer("a", 1), goneVer("b", 2), goneVer("c", 1)}, 1, []impl.Version{goneVer("b", 2)}},
		{[]impl.Version{goneVer("a", impl.MaxCs)}, impl.MaxCs, nil},
		{[]impl.Version{goneVer("a", impl.MaxCs)}, impl.MaxCs - 1, []impl.Version{goneVer("a", impl.MaxCs)}},
	} {
		checkVersions(t, "Trimmed", impl.Trimmed(c.list, c.snap), c.want)
	}
}

// Promise 6: from snap on all is seen as it was, below it nothing that was covered; and what is trimmed once more is the same.
func TestTrimmedOfEverySmallList(t *testing.T) {
	for _, list := range smallLists([]string{"a", "b"}, 3) {
		for snap := -1; snap <= 4; snap++ {
			got := impl.Trimmed(list, snap)
			checkVersions(t, "Trimmed", got, trimmedOf(list, snap))
			checkVersions(t, "Trimmed twice", impl.Trimmed(got, snap), got)
			if !impl.VersionsOk(got) || !impl.SameFrom(list, got, snap) {
				t.Errorf("Trimmed of %#v at %d is not right, or not the same from there on", list, snap)
			}
			for at := snap; at <= 5; at++ {
				for _, key := range []string{"a", "b"} {
					value, there := seenOf(list, key, at)
					checkSeen(t, got, key, at, value, there)
				}
			}
			for _, key := range []string{"a", "b"} {
				checkTrimmedBelow(t, list, got, key, snap)
			}
		}
	}
}

// Of a key just one that is not above snap is left, so that what it covered is not seen any more.
func checkTrimmedBelow(t *testing.T, list, got []impl.Version, key string, snap int) {
	t.Helper()
	left := 0
	for _, v := range got {
		if v.Key == key && v.Cs <= snap {
			left++
		}
	}
	last := chosenPlace(list, key, snap)
	if left > 1 {
		t.Errorf("%d of %q are left up to %d of %#v", left, key, snap, list)
	}
	if last >= 0 {
		checkSeen(t, got, key, list[last].Cs-1, "", false)
	}
}

// In lists that are not right: the first one with the greatest Cs stays, wherever it stands; who stands alone is counted over the whole list.
func TestTrimmedOfWrongLists(t *testing.T) {
	for _, c := range []struct {
		list []impl.Version
		snap int
		want []impl.Version
	}{
		{[]impl.Version{ver("a", "x", 1), ver("a", "y", 1)}, 1, []impl.Version{ver("a", "x", 1)}},
		{[]impl.Version{ver("a", "x", 1), ver("a", "y", 1)}, 0, []impl.Version{ver("a", "x", 1), ver("a", "y", 1)}},
		{[]impl.Version{ver("a", "x", 1), ver("a", "x", 1)}, 1, []impl.Version{ver("a", "x", 1)}},
		{[]impl.Version{ver("a", "x", 1), goneVer("a", 1)}, 1, []impl.Version{ver("a", "x", 1)}},
		{[]impl.Version{goneVer("a", 1), ver("a", "x", 1)}, 1, nil},
		{[]impl.Version{goneVer("a", 1), ver("a", "x", 1), ver("b", "y", 1)}, 1, []impl.Version{ver("b", "y", 1)}},
		{[]impl.Version{ver("a", "x", 2), ver("a", "y", 1)}, 2, []impl.Version{ver("a", "x", 2)}},
		{[]impl.Version{ver("a", "x", 2), ver("a", "y", 1)}, 1, []impl.Version{ver("a", "x", 2), ver("a", "y", 1)}},
		{[]impl.Version{ver("a", "x", 2), goneVer("a", 1)}, 1, []impl.Version{ver("a", "x", 2), goneVer("a", 1)}},
		{[]impl.Version{ver("a", "x", 1), ver("b", "y", 1), ver("a", "z", 2)}, 2, []impl.Version{ver("b", "y", 1), ver("a", "z", 2)}},
		{[]impl.Version{goneVer("a", 1), ver("b", "y", 1), ver("a", "z", 2)}, 1, []impl.Version{goneVer("a", 1), ver("b", "y", 1), ver("a", "z", 2)}},
		{[]impl.Version{ver("b", "x", 1), ver("a", "y", 1), ver("b", "z", 1), ver("a", "w", 1)}, 1, []impl.Version{ver("b", "x", 1), ver("a", "y", 1)}},
		{[]impl.Version{ver("a", "x", -3), ver("a", "y", -2), ver("a", "z", 0)}, -1, []impl.Version{ver("a", "y", -2), ver("a", "z", 0)}},
		{[]impl.Version{ver("a", "x", 1), ver("a", "y", math.MaxInt)}, math.MaxInt, []impl.Version{ver("a", "y", math.MaxInt)}},
		{[]impl.Version{ver("a", "x", math.MinInt), ver("a", "y", 1)}, math.MinInt, []impl.Version{ver("a", "x", math.MinInt), ver("a", "y", 1)}},
		{[]impl.Version{{Key: "a", Value: "v", Gone: true, Cs: 1}}, 1, nil},
		{[]impl.Version{{}, {}}, 0, []impl.Version{{}}},
		{[]impl.Version{goneVer("", 0), goneVer("A", 1), ver("abcd", strings.Repeat("v", 300), 1)}, 1, []impl.Version{ver("abcd", strings.Repeat("v", 300), 1)}},
	} {
		checkVersions(t, "Trimmed", impl.Trimmed(c.list, c.snap), c.want)
	}
	for _, list := range append(anyLists(), mixedLists()...) {
		for _, snap := range anySnaps {
			got := impl.Trimmed(list, snap)
			checkVersions(t, "Trimmed", got, trimmedOf(list, snap))
			if !impl.SameFrom(list, got, snap) || !impl.SameFrom(got, list, snap) {
				t.Errorf("what is Trimmed of %#v at %d is not the same from there on", list, snap)
			}
		}
	}
}

func checkSame(t *testing.T, what string, a, b []impl.Version, snap int, want bool) {
	t.Helper()
	if impl.SameFrom(a, b, snap) != want || impl.SameFrom(b, a, snap) != want {
		t.Errorf("%s: SameFrom %d of %#v and %#v is not %v", what, snap, a, b, want)
	}
}

func TestSameFrom(t *testing.T) {
	a1, a3, a5 := ver("a", "1", 1), ver("a", "3", 3), ver("a", "5", 5)
	for _, c := range []struct {
		what string
		a, b []impl.Version
		snap int
		want bool
	}{
		{"alike", []impl.Version{a1, a3, a5}, []impl.Version{a1, a3, a5}, 2, true},
		{"unlike only below snap", []impl.Version{a1, a3, a5}, []impl.Version{ver("a", "x", 1), a3, a5}, 3, true},
		{"unlike only below snap, another Cs", []impl.Version{a1, a3}, []impl.Version{ver("a", "1", 2), a3}, 3, true},
		{"one Cs lower, seen from there on", []impl.Version{a3}, []impl.Version{ver("a", "3", 2)}, 3, true},
		{"one Cs lower, seen earlier", []impl.Version{a3}, []impl.Version{ver("a", "3", 2)}, 2, false},
		{"one is not there below snap", []impl.Version{a1, a3}, []impl.Version{a3}, 3, true},
		{"unlike at snap", []impl.Version{a1, a3, a5}, []impl.Version{a1, ver("a", "x", 3), a5}, 3, false},
		{"unlike between two, asked below", []impl.Version{a1, a3, a5}, []impl.Version{a1, ver("a", "x", 3), a5}, 2, false},
		{"unlike between two, asked between", []impl.Version{a1, a3, a5}, []impl.Version{a1, ver("a", "x", 3), a5}, 4, false},
		{"unlike between two, asked behind", []impl.Version{a1, a3, a5}, []impl.Version{a1, ver("a", "x", 3), a5}, 5, true},
		{"a Cs above that one has", []impl.Version{a1, a3}, []impl.Version{a1}, 1, false},
		{"a Cs above that one has, asked far below", []impl.Version{a1, a3}, []impl.Version{a1}, -1, false},
		{"a Cs above that one has, which changes nothing", []impl.Version{a1, ver("a", "1", 3)}, []impl.Version{a1}, 1, true},
		{"a Cs above that one has, and then the same", []impl.Version{a1, a3, ver("a", "1", 4)}, []impl.Version{a1}, 1, false},
		{"a Cs above that one has, and then the same, asked there", []impl.Version{a1, a3, ver("a", "1", 4)}, []impl.Version{a1}, 4, true},
		{"the last Cs above that one has", []impl.Version{a1, a3, a5}, []impl.Version{a1, a3}, 3, false},
		{"Gone and never there", []impl.Version{goneVer("a", 2)}, nil, 0, true},
		{"gone at snap, and never there", []impl.Version{a1, goneVer("a", 2)}, nil, 2, true},
		{"gone above snap, and never there", []impl.Version{a1, goneVer("a", 2)}, nil, 1, false},
		{"gone above snap of one", []impl.Version{a1, goneVer("a", 2)}, []impl.Version{a1}, 1, false},
		{"gone above snap, written again", []impl.Version{a1, goneVer("a", 2), ver("a", "1", 3)}, []impl.Version{a1}, 1, false},
		{"gone above snap, written again, asked behind", []impl.Version{a1, goneVer("a", 2), ver("a", "1", 3)}, []impl.Version{a1}, 3, true},
		{"an empty value and none", []impl.Version{ver("a", "", 1)}, nil, 1, false},
		{"an empty value and Gone", []impl.Version{ver("a", "", 1)}, []impl.Version{goneVer("a", 1)}, 1, false},
		{"other keys", []impl.Version{a1}, []impl.Version{ver("b", "1", 1)}, 1, false},
		{"other keys, asked below", []impl.Version{a1}, []impl.Version{ver("b", "1", 1)}, 0, false},
		{"nothing at all", nil, nil, 0, true},
		{"the last key", []impl.Version{ver("zzz", "1", 1)}, nil, 1, false},
		{"the first key", []impl.Version{ver("a", "1", 1)}, nil, 1, false},
		{"one more key of three letters", []impl.Version{a1, ver("zzy", "1", 1)}, []impl.Version{a1, ver("zzz", "1", 1)}, 1, false},
		{"MaxCs that one has", []impl.Version{ver("a", "1", impl.MaxCs)}, nil, 0, false},
		{"two keys, each alike at its Cs", []impl.Version{ver("a", "1", 1), ver("b", "2", 2)}, []impl.Version{ver("a", "1", 2), ver("b", "2", 2)}, 2, true},
		{"two keys, one alike at its Cs only", []impl.Version{ver("a", "1", 1), ver("b", "2", 2)}, []impl.Version{ver("a", "1", 2), ver("b", "2", 2)}, 1, false},
	} {
		checkSame(t, c.what, c.a, c.b, c.snap, c.want)
	}
}

// Each version above snap counts: whichever is taken away or changed, of 120, it is told.
func TestSameFromLooksAtAll(t *testing.T) {
	full := manyVersions(120)
	for at, v := range full {
		changed, shorter := slices.Clone(full), slices.Delete(slices.Clone(full), at, at+1)
		changed[at].Value = "other"
		checkSame(t, "one changed", full, changed, 0, false)
		checkSame(t, "one changed, asked there", full, changed, v.Cs, false)
		checkSame(t, "one changed, asked behind", full, changed, v.Cs+1, v.Cs < 3)
		checkSame(t, "one taken away", full, shorter, 0, false)
	}
	for snap := range 5 {
		checkSame(t, "all alike", full, slices.Clone(full), snap, true)
		checkSame(t, "Trimmed", full, impl.Trimmed(full, snap), snap, true)
		checkSame(t, "Trimmed, asked earlier", full, impl.Trimmed(full, 3), snap, snap >= 3)
	}
}

func TestSameFromOfEverySmallList(t *testing.T) {
	lists := append(smallLists([]string{"a", "b"}, 2), smallLists([]string{"a"}, 3)...)
	for i, list := range lists { // so that values are alike at other numbers, too
		if i%2 == 1 {
			list = slices.Clone(list)
			for at := range list {
				if !list[at].Gone {
					list[at].Value = list[at].Key
				}
			}
			lists = append(lists, list)
		}
	}
	for _, a := range lists {
		for _, b := range lists {
			for snap := -1; snap <= 4; snap++ {
				want := sameAsFrom(a, b, snap)
				if impl.SameFrom(a, b, snap) != want {
					t.Errorf("SameFrom %d of %#v and %#v is %v", snap, a, b, !want)
				}
			}
		}
	}
}

// Of lists that are not right what is asked stays the same; keys that lie outside a .. zzz are not asked for.
func TestSameFromOfWrongLists(t *testing.T) {
	a1 := ver("a", "1", 1)
	for _, c := range []struct {
		what string
		a, b []impl.Version
		snap int
		want bool
	}{
		{"an order that is not right", []impl.Version{ver("b", "2", 1), a1}, []impl.Version{a1, ver("b", "2", 1)}, 0, true},
		{"a Cs that falls", []impl.Version{ver("a", "2", 2), a1}, []impl.Version{a1, ver("a", "2", 2)}, 0, true},
		{"a Cs twice", []impl.Version{a1, ver("a", "x", 1)}, []impl.Version{a1}, 0, true},
		{"a Cs twice, unlike first", []impl.Version{ver("a", "x", 1), a1}, []impl.Version{a1}, 0, false},
		{"an empty key", []impl.Version{ver("", "x", 1)}, nil, 0, true},
		{"a key below all", []impl.Version{ver("Z", "x", 1)}, nil, 0, true},
		{"a key above all", []impl.Version{ver("zzza", "x", 1)}, nil, 0, true},
		{"a key of a byte above all", []impl.Version{ver("\xff", "x", 1)}, nil, 0, true},
		{"a wrong key that lies between", []impl.Version{ver("abcd", "x", 1)}, nil, 0, false},
		{"Cs 0", []impl.Version{ver("a", "x", 0)}, nil, -1, false},
		{"Cs 0, asked there", []impl.Version{ver("a", "x", 0)}, nil, 0, false},
		{"a Cs below 0", []impl.Version{ver("a", "x", -5), a1}, []impl.Version{a1}, 0, false},
		{"a Cs below 0, covered", []impl.Version{ver("a", "x", -5), a1}, []impl.Version{a1}, 1, true},
		{"a Cs above MaxCs", []impl.Version{ver("a", "x", impl.MaxCs+1)}, nil, impl.MaxCs, false},
		{"the greatest Cs", []impl.Version{ver("a", "x", math.MaxInt)}, nil, 0, false},
		{"the greatest Cs, asked there", []impl.Version{ver("a", "x", math.MaxInt)}, nil, math.MaxInt, false},
		{"the least Cs", []impl.Version{ver("a", "x", math.MinInt)}, nil, math.MinInt, false},
		{"the least snap", []impl.Version{a1}, nil, math.MinInt, false},
		{"the greatest snap", []impl.Version{a1, ver("a", "2", 2)}, []impl.Version{ver("a", "2", 1)}, math.MaxInt, true},
		{"a value beside Gone", []impl.Version{{Key: "a", Value: "x", Gone: true, Cs: 1}}, nil, 0, true},
		{"nothing in a version", []impl.Version{{}}, nil, -1, true},
	} {
		checkSame(t, c.what, c.a, c.b, c.snap, c.want)
	}
	lists := anyLists()
	for _, a := range lists {
		for _, b := range lists {
			for _, snap := range []int{math.MinInt, 0, 1, 4, math.MaxInt} {
				if len(a)+len(b) < 200 && impl.SameFrom(a, b, snap) != sameAsFrom(a, b, snap) {
					t.Errorf("SameFrom %d of %#v and %#v is %v", snap, a, b, impl.SameFrom(a, b, snap))
				}
			}
		}
		checkSame(t, "a list and itself", a, a, 0, true)
	}
}

// roomyVersions is the list in one with spare room behind it, which has marks in it.
func roomyVersions(list []impl.Version) []impl.Version {
	var out []impl.Version
	for _, v := range list {
		out = append(out, impl.Version{Key: fresh(v.Key), Value: fresh(v.Value), Gone: v.Gone, Cs: v.Cs})
	}
	mark := ver("mark", "mark", 77)
	return append(out, mark, mark, mark)[:len(list)]
}

func versionTexts(list []impl.Version) []string {
	var texts []string
	for _, v := range list {
		texts = append(texts, v.Key, v.Value)
	}
	return texts
}

func pairTexts(list []impl.Pair) []string {
	var texts []string
	for _, p := range list {
		texts = append(texts, p.Key, p.Value)
	}
	return texts
}

func checkApart(t *testing.T, what string, texts, others []string) {
	t.Helper()
	for _, text := range texts {
		if sharesAny(text, others) {
			t.Fatalf("%s: a text of an answer lies in an argument's memory, or in that of another answer", what)
		}
	}
}

func TestVersionsAnswerNewMemory(t *testing.T) {
	for _, plain := range anyLists() {
		list, w := roomyVersions(plain), roomyWrites([]impl.Write{put("ab", "twelve bytes"), gone("b"), put("zz", "z")})
		wasList, wasW := slices.Clone(list[:cap(list)]), slices.Clone(w[:cap(w)])
		r := impl.Range{From: fresh("a"), To: fresh("zzz")}
		given := append(append(versionTexts(list), writeTexts(w)...), r.From, r.To)
		for _, snap := range []int{math.MinInt, 0, 1, 4, 9, math.MaxInt} {
			for _, answer := range [][2][]impl.Version{
				{impl.PutVersions(list, w, snap), impl.PutVersions(list, w, snap)},
				{impl.PutVersions(list, nil, snap), impl.PutVersions(list, nil, snap)},
				{impl.Trimmed(list, snap), impl.Trimmed(list, snap)},
			} {
				checkApart(t, "versions", versionTexts(answer[0]), append(versionTexts(answer[1]), given...))
				kept := slices.Clone(answer[1])
				// Whatever is done to an answer is not to be seen in an argument, nor in another answer.
				for i := range answer[0] {
					answer[0][i] = ver("other", "other", 66)
				}
				_ = append(answer[0], ver("other", "other", 66))
				checkVersions(t, "another answer", answer[1], kept)
			}
			pairs, again := impl.ScanAt(list, r, snap), impl.ScanAt(list, r, snap)
			checkApart(t, "ScanAt", pairTexts(pairs), append(pairTexts(again), given...))
			for _, v := range list {
				value, _ := impl.SeenAt(list, v.Key, snap)
				checkApart(t, "SeenAt", []string{value}, given)
			}
			impl.SameFrom(list, list, snap)
		}
		impl.VersionsOk(list)
		if !slices.Equal(list[:cap(list)], wasList) || !slices.Equal(w[:cap(w)], wasW) {
			t.Errorf("something is written into %#v, or behind it, or into the writes", plain)
		}
	}
}

// SameFrom of two lists in one piece of memory, the second one behind the first, writes into neither.
func TestSameFromWritesIntoNoArgument(t *testing.T) {
	whole := append(append(history(), history()...), ver("mark", "mark", 77))
	was := slices.Clone(whole)
	half := len(history())
	for _, snap := range anySnaps {
		if !impl.SameFrom(whole[:half], whole[half:2*half], snap) {
			t.Errorf("two lists that are alike are not the same from %d on", snap)
		}
		impl.ScanAt(whole[:half], everyKey, snap)
		impl.Trimmed(whole[:half], snap)
		impl.PutVersions(whole[:half], []impl.Write{put("zzz", "x")}, snap)
	}
	checkVersions(t, "what was handed in", whole, was)
}
