package tests

import (
	"fmt"
	"math"
	"slices"
	"strings"
	"testing"

	"loop.example/g00327/impl"
)

func throughRecord(x impl.Txn) impl.Record {
	return impl.Record{Kind: 1, Txn: x}
}

func readyRecord(x impl.Txn) impl.Record {
	return impl.Record{Kind: 2, Txn: x}
}

func endRecord(name string, yes bool) impl.Record {
	return impl.Record{Kind: 3, Name: name, Yes: yes}
}

func baseRecord(b impl.Base) impl.Record {
	return impl.Record{Kind: 4, Base: b}
}

// fullTxn has as many Reads and Writes, and as long keys and values, as there may be; its numbers stand in two bytes.
func fullTxn(id int) impl.Txn {
	x := impl.Txn{Id: id, Snap: 200, Out: true}
	for _, letter := range letters(8) {
		x.Reads = append(x.Reads, impl.Range{From: letter + "aa", To: letter + "zz"})
		x.Writes = append(x.Writes, put(letter+"mm", strings.Repeat("\xff", 12)))
	}
	return x
}

// greatestBase is right, and no right one has a longer text.
func greatestBase() impl.Base {
	b := impl.Base{Cs: 9999, Next: 9999}
	for i := range 120 {
		b.Versions = append(b.Versions, ver(string([]byte{'k', byte('a' + i/26), byte('a' + i%26)}), strings.Repeat("\x00", 12), 9000+i))
	}
	for i := range 12 {
		b.Past = append(b.Past, changed(fullTxn(1000+i), func(x *impl.Txn) { x.State, x.Cs = 3, 9000+i }))
	}
	for i := range 3 {
		b.Ready = append(b.Ready, changed(fullTxn(2000+i), func(x *impl.Txn) { x.State, x.Name = 2, "rr"+letters(3)[i] }))
	}
	return b
}

// rightRecords are of each kind, each with just what belongs to it.
func rightRecords() map[string]impl.Record {
	right := map[string]impl.Record{
		"the greatest base": baseRecord(greatestBase()),
		"lists that are empty, but there": {Kind: 3, Name: "a", Txn: impl.Txn{Reads: []impl.Range{}, Writes: []impl.Write{}},
			Base: impl.Base{Versions: []impl.Version{}, Past: []impl.Txn{}, Ready: []impl.Txn{}}},
	}
	for what, x := range rightTxns() {
		switch x.State {
		case 2:
			right["RkReady, "+what] = readyRecord(x)
		case 3:
			right["RkThrough, "+what] = throughRecord(x)
		}
	}
	for _, name := range someKeys() {
		right["RkEnd, yes, "+name], right["RkEnd, no, "+name] = endRecord(name, true), endRecord(name, false)
	}
	for what, b := range rightBases() {
		right["RkBase, "+what] = baseRecord(b)
	}
	return right
}

// plainRecords are one of each kind; RkEnd with Yes and without.
func plainRecords() []impl.Record {
	return []impl.Record{throughRecord(doneTxn()), readyRecord(readyTxn()), endRecord("ab", false), endRecord("ab", true), baseRecord(someBase())}
}

func changedRecord(r impl.Record, change func(r *impl.Record)) impl.Record {
	change(&r)
	return r
}

// someInTxn have each just one thing that is not nothing; none of them is right.
func someInTxn() []impl.Txn {
	return []impl.Txn{
		{Id: 1}, {Id: -1}, {State: 1}, {State: 2}, {State: 3}, {State: -1}, {Snap: 1}, {Snap: -1}, {Cs: 1}, {Cs: math.MinInt},
		{Reads: []impl.Range{{}}}, {Reads: rangesOf(2)}, {Writes: []impl.Write{{}}}, {Writes: writesOf("a")}, {Out: true}, {Name: "a"}, {Name: "\x00"},
	}
}

// someInBase have each just one thing that is not nothing; Next alone makes some of them right.
func someInBase() []impl.Base {
	return []impl.Base{
		{Cs: 1}, {Cs: -1}, {Next: 1}, {Next: -1}, {Next: 9999}, {Versions: []impl.Version{{}}}, {Versions: history()},
		{Past: []impl.Txn{{}}}, {Past: pastOf(1)}, {Ready: []impl.Txn{{}}}, {Ready: readyOf(1)},
	}
}

// wrongRecords are not right, each for one reason.
func wrongRecords() map[string]impl.Record {
	wrong := map[string]impl.Record{
		"nothing in it": {}, "a Kind alone": {Kind: 1}, "RkReady alone": {Kind: 2}, "RkEnd alone": {Kind: 3}, "RkBase alone": {Kind: 4},
		"RkEnd and Yes alone": {Kind: 3, Yes: true}, "all of it": {Kind: 7, Txn: doneTxn(), Name: "a", Yes: true, Base: someBase()},
	}
	for i, r := range plainRecords() {
		for _, kind := range []int{0, 5, 6, -1, -r.Kind, r.Kind + 256, r.Kind + 1<<32, math.MinInt, math.MaxInt, r.Kind%4 + 1} {
			wrong[fmt.Sprint(i, " as Kind ", kind)] = changedRecord(r, func(r *impl.Record) { r.Kind = kind })
		}
		for k, x := range append(someInTxn(), openTxn(), readyTxn(), doneTxn(), impl.Txn{Id: 1, State: 1}) {
			if r.Kind > 2 {
				wrong[fmt.Sprint(i, " with a Txn ", k)] = changedRecord(r, func(r *impl.Record) { r.Txn = x })
			}
		}
		for _, name := range anyTexts() {
			if r.Kind != 3 && name != "" {
				wrong[fmt.Sprintf("%d with the Name %q", i, name)] = changedRecord(r, func(r *impl.Record) { r.Name = name })
			}
		}
		if r.Kind != 3 {
			wrong[fmt.Sprint(i, " with Yes")] = changedRecord(r, func(r *impl.Record) { r.Yes = true })
		}
		for k, b := range append(someInBase(), someBase(), greatestBase()) {
			if r.Kind != 4 {
				wrong[fmt.Sprint(i, " with a Base ", k)] = changedRecord(r, func(r *impl.Record) { r.Base = b })
			}
		}
	}
	for what, x := range wrongTxns() {
		wrong["RkThrough, "+what], wrong["RkReady, "+what] = throughRecord(x), readyRecord(x)
	}
	for what, x := range rightTxns() {
		if x.State != 2 {
			wrong["RkReady, right, but "+what] = readyRecord(x)
		}
		if x.State != 3 {
			wrong["RkThrough, right, but "+what] = throughRecord(x)
		}
	}
	for _, name := range wrongKeys() {
		wrong[fmt.Sprintf("RkEnd, no, %q", name)], wrong[fmt.Sprintf("RkEnd, yes, %q", name)] = endRecord(name, false), endRecord(name, true)
	}
	for what, b := range wrongBases() {
		wrong["RkBase, "+what] = baseRecord(b)
	}
	return wrong
}

func anyRecords() []impl.Record {
	var all []impl.Record
	for _, r := range rightRecords() {
		all = append(all, r)
	}
	for _, r := range wrongRecords() {
		all = append(all, r)
	}
	return all
}

func sameRecord(a, b impl.Record) bool {
	return a.Kind == b.Kind && sameTxn(a.Txn, b.Txn) && a.Name == b.Name && a.Yes == b.Yes && sameBase(a.Base, b.Base)
}

// recordRight is the document's sentence, kind by kind.
func recordRight(r impl.Record) bool {
	noTxn, noBase := sameTxn(r.Txn, impl.Txn{}), sameBase(r.Base, impl.Base{})
	switch r.Kind {
	case 1:
		return impl.TxnOk(r.Txn) && r.Txn.State == 3 && r.Name == "" && !r.Yes && noBase
	case 2:
		return impl.TxnOk(r.Txn) && r.Txn.State == 2 && r.Name == "" && !r.Yes && noBase
	case 3:
		return noTxn && impl.KeyOk(r.Name) && noBase
	case 4:
		return noTxn && r.Name == "" && !r.Yes && impl.BaseOk(r.Base)
	}
	return false
}

func TestRecordKinds(t *testing.T) {
	if impl.RkThrough != 1 || impl.RkReady != 2 || impl.RkEnd != 3 || impl.RkBase != 4 {
		t.Error("a kind is not what the document says")
	}
}

func TestRecordOk(t *testing.T) {
	for what, r := range rightRecords() {
		if !impl.RecordOk(r) {
			t.Errorf("%s: not right", what)
		}
	}
	for what, r := range wrongRecords() {
		if impl.RecordOk(r) {
			t.Errorf("%s: right", what)
		}
	}
	for _, b := range tangledBases() {
		if impl.RecordOk(baseRecord(b)) {
			t.Errorf("%#v is right", b)
		}
	}
}

// Every kind with every choice of a Txn, a Name, Yes and a Base beside each other.
func TestRecordOkOfEveryMix(t *testing.T) {
	txns := append(someInTxn(), impl.Txn{}, impl.Txn{Reads: []impl.Range{}, Writes: []impl.Write{}}, openTxn(), readyTxn(), doneTxn(), markedOut(doneTxn()), markedOut(openTxn()))
	bases := append(someInBase(), impl.Base{}, impl.Base{Versions: []impl.Version{}, Past: []impl.Txn{}, Ready: []impl.Txn{}}, someBase(), impl.Base{Past: pastOf(13), Cs: 13, Next: 101})
	right := 0
	for kind := -1; kind <= 6; kind++ {
		for _, x := range txns {
			for _, b := range bases {
				for _, name := range []string{"", "a", "abc", "abcd", "A"} {
					for _, yes := range []bool{false, true} {
						r := impl.Record{Kind: kind, Txn: x, Name: name, Yes: yes, Base: b}
						want := recordRight(r)
						if want {
							right++
						}
						if impl.RecordOk(r) != want {
							t.Fatalf("RecordOk of %#v is %v", r, !want)
						}
					}
				}
			}
		}
	}
	// Two of each kind's Txns but one of RkReady, twice for the two ways of nothing; two names with Yes or without; three right bases.
	if right != 2*2+1*2+2*2*2*2+3*2 {
		t.Errorf("%d are right", right)
	}
}

func versionParts(list []impl.Version) []txnPart {
	parts := []txnPart{numberPart(len(list))}
	for _, v := range list {
		parts = append(append(parts, shortParts(v.Key)...), shortParts(v.Value)...)
		parts = append(parts, flagPart(v.Gone), numberPart(v.Cs))
	}
	return parts
}

func txnListParts(list []impl.Txn) []txnPart {
	parts := []txnPart{numberPart(len(list))}
	for _, x := range list {
		parts = append(parts, txnParts(x)...)
	}
	return parts
}

// baseParts are the parts of a text of b, right or not, as long as no number of it is below 0.
func baseParts(b impl.Base) []txnPart {
	return slices.Concat([]txnPart{numberPart(b.Cs), numberPart(b.Next)}, versionParts(b.Versions), txnListParts(b.Past), txnListParts(b.Ready))
}

// recordParts are those of a record, right or not, that are sealed: its kind, and what belongs to it.
func recordParts(r impl.Record) []txnPart {
	parts := []txnPart{{"kind", string([]byte{byte(r.Kind)})}}
	switch r.Kind {
	case 1, 2:
		return append(parts, txnParts(r.Txn)...)
	case 3:
		return append(append(parts, shortParts(r.Name)...), flagPart(r.Yes))
	case 4:
		return append(parts, baseParts(r.Base)...)
	}
	return parts
}

func hasLowNumber(b impl.Base) bool {
	low := min(b.Cs, b.Next) < 0
	for _, v := range b.Versions {
		low = low || v.Cs < 0
	}
	for _, x := range slices.Concat(b.Past, b.Ready) {
		low = low || min(x.Id, x.State, x.Snap, x.Cs) < 0
	}
	return low
}

func sealedOf(text string) string {
	return text + fourBytes(sumBitByBit(math.MaxUint32, text))
}

func checkBaseAt(t *testing.T, what, text string, at int, want impl.Base, end int) {
	t.Helper()
	got, behind, ok := impl.ReadBase(text, at)
	if !ok || behind != end || !sameBase(got, want) {
		t.Fatalf("%s: ReadBase of %q at %d: %#v, %d, %v; want %#v, %d", what, text, at, got, behind, ok, want, end)
	}
}

func checkNoBase(t *testing.T, what, text string, at int) {
	t.Helper()
	got, behind, ok := impl.ReadBase(text, at)
	if ok || behind != 0 || !sameBase(got, impl.Base{}) {
		t.Fatalf("%s: ReadBase of %q at %d: %#v, %d, %v", what, text, at, got, behind, ok)
	}
}

// checkNoBaseAnywhere lays bytes ahead of the text, too: such of which a reader that began anew would make something.
func checkNoBaseAnywhere(t *testing.T, what, text string) {
	t.Helper()
	for _, ahead := range []string{"", "xyz", "\x00\x01\x00\x00\x00"} {
		checkNoBase(t, what, ahead+text, len(ahead))
	}
}

func TestBaseTextBytes(t *testing.T) {
	for _, c := range []struct {
		b    impl.Base
		text string
	}{
		{impl.BaseNew(), "\x00\x01\x00\x00\x00"},
		{impl.Base{Cs: 9999, Next: 128}, "\x8f\x4e\x80\x01\x00\x00\x00"},
		{impl.Base{Versions: []impl.Version{ver("a", "one", 127), goneVer("a", 300), ver("bcd", "", 2)}, Cs: 300, Next: 1},
			"\xac\x02\x01\x03\x01a\x03one\x00\x7f\x01a\x00\x01\xac\x02\x03bcd\x00\x00\x02\x00\x00"},
		{impl.Base{Past: []impl.Txn{writing(pastOne(2, 0, 1), "k")}, Ready: []impl.Txn{markedOut(namedOne(1, 1, "no")), reading(namedOne(3, 0, "z"), "q")}, Cs: 1, Next: 4},
			"\x01\x04\x00" + "\x01\x02\x03\x00\x01\x00\x01\x01k\x01A\x00\x00\x00" + "\x02\x01\x02\x01\x00\x00\x00\x01\x02no" + "\x03\x02\x00\x00\x01\x01q\x01q\x00\x00\x01z"},
	} {
		if text, ok := impl.BaseText(c.b); text != c.text || !ok {
			t.Errorf("BaseText of %#v: %q, %v; want %q", c.b, text, ok, c.text)
		}
		checkBaseAt(t, "known bytes", c.text, 0, c.b, len(c.text))
	}
}

// Promise 10: bases come back from their texts, wherever these stand and whatever stands around them.
func TestBasesComeBack(t *testing.T) {
	around := []string{"", "\x00", "\x01", "\x80", "\xff\xff", "a", strings.Repeat("\x01", 40), joined(baseParts(someBase()))}
	bases := rightBases()
	bases["the greatest"] = greatestBase()
	bases["120 versions that are Gone"] = impl.Base{Versions: goneVersions(120), Cs: 9, Next: 1}
	for what, b := range bases {
		text, ok := impl.BaseText(b)
		if want := joined(baseParts(b)); text != want || !ok {
			t.Errorf("%s: BaseText is %q, %v; want %q", what, text, ok, want)
		}
		for _, ahead := range around {
			for _, behind := range around {
				checkBaseAt(t, what, ahead+text+behind, len(ahead), b, len(ahead)+len(text))
			}
		}
	}
}

// goneVersions are n right ones, all of them Gone.
func goneVersions(n int) []impl.Version {
	list := manyVersions(n)
	for i := range list {
		list[i].Value, list[i].Gone = "", true
	}
	return list
}

func TestBaseTextRefuses(t *testing.T) {
	all := tangledBases()
	for _, b := range wrongBases() {
		all = append(all, b)
	}
	for _, b := range all {
		if text, ok := impl.BaseText(b); text != "" || ok {
			t.Errorf("BaseText of %#v is %q, %v", b, text, ok)
		}
	}
}

// Among the wrong ones are one more of Versions, of Past and of Ready than there may be.
func TestReadBaseOfOneThatIsNotRight(t *testing.T) {
	for what, b := range wrongBases() {
		if hasLowNumber(b) {
			continue
		}
		text := joined(baseParts(b))
		checkNoBaseAnywhere(t, what, text)
		checkNoBaseAnywhere(t, what, text+strings.Repeat("\x00", 100))
	}
}

func TestReadBaseOutsideOfItsText(t *testing.T) {
	for what, b := range rightBases() {
		text := joined(baseParts(b))
		for _, at := range []int{math.MinInt, -len(text), -2, -1, len(text), len(text) + 1, len(text) + 100, math.MaxInt} {
			checkNoBase(t, what, text, at)
		}
	}
	for _, at := range []int{math.MinInt, -1, 0, 1, math.MaxInt} {
		checkNoBase(t, "no text", "", at)
	}
}

func TestReadBaseOfATextThatEndsTooEarly(t *testing.T) {
	bases := rightBases()
	bases["the greatest"] = greatestBase()
	for what, b := range bases {
		text := joined(baseParts(b))
		for end := range len(text) {
			checkNoBaseAnywhere(t, what, text[:end])
		}
	}
}

// Each number, a text's length too, in a longer form, in one that is too great, or without its end; each flag as another byte.
func TestReadBaseOfOtherForms(t *testing.T) {
	for what, b := range rightBases() {
		parts := baseParts(b)
		for at, p := range parts {
			if p.kind == "text" {
				continue
			}
			for _, wrong := range []string{longerForm(p.text), longerForm(longerForm(p.text)), varBytes(1000000001), varBytes(1 << 40), strings.Repeat("\xff", 30)} {
				checkNoBase(t, what, withPart(parts, at, wrong), 0)
				checkNoBase(t, what, "\x01"+withPart(parts, at, wrong)+strings.Repeat("\x00", 100), 1)
			}
			if p.kind != "flag" {
				continue
			}
			for other := 2; other < 256; other += 1 + len(parts)/100 {
				checkNoBase(t, what, withPart(parts, at, string([]byte{byte(other)})), 0)
			}
		}
	}
}

// However many a text says there are, it has no more than stand in it.
func TestReadBaseOfTooMany(t *testing.T) {
	past, ready := joined(txnParts(pastOne(1, 0, 1))), joined(txnParts(namedOne(1, 0, "a")))
	for _, n := range []int{4, 13, 121, 128, 1000000, 999999999, 1000000000} {
		for _, there := range []int{0, 1, 3, 12, 120, min(n, 500)} {
			checkNoBase(t, "so many Versions", "\x09\x09"+varBytes(n)+strings.Repeat("\x01a\x00\x00\x01", there)+"\x00\x00", 0)
			checkNoBase(t, "so many of Past", "\x09\x09\x00"+varBytes(n)+strings.Repeat(past, there)+"\x00", 0)
			checkNoBase(t, "so many of Ready", "\x09\x09\x00\x00"+varBytes(n)+strings.Repeat(ready, there), 0)
		}
	}
	for n := range 15 {
		b := impl.Base{Past: pastOf(n), Cs: 20, Next: 101}
		text := joined(baseParts(b))
		if n <= 12 {
			checkBaseAt(t, "Past", text, 0, b, len(text))
		} else {
			checkNoBase(t, "too many of Past", text, 0)
		}
		b = impl.Base{Ready: readyOf(n), Cs: 20, Next: 201}
		text = joined(baseParts(b))
		if n <= 3 {
			checkBaseAt(t, "Ready", text, 0, b, len(text))
		} else {
			checkNoBase(t, "too many of Ready", text, 0)
		}
		b = impl.Base{Versions: manyVersions(108 + n), Cs: 3, Next: 1}
		text = joined(baseParts(b))
		if n <= 12 {
			checkBaseAt(t, "Versions", text, 0, b, len(text))
		} else {
			checkNoBase(t, "too many Versions", text, 0)
		}
	}
}

// Each number, a text's length and how many there are too, as another one that there may be, or as one that passes a limit.
func TestReadBaseOfOtherNumbers(t *testing.T) {
	bases := []impl.Base{someBase(), {Versions: manyVersions(120), Cs: 3, Next: 9}, {Past: pastOf(12), Cs: 12, Next: 101}, {Ready: readyOf(3), Next: 201}, {Past: pastOf(12), Ready: readyOf(3), Cs: 12, Next: 201}}
	for _, b := range bases {
		parts := baseParts(b)
		for at, p := range parts {
			if p.kind != "number" {
				continue
			}
			for _, n := range []int{0, 1, 2, 3, 4, 5, 8, 9, 11, 12, 13, 14, 60, 119, 120, 121, 122, 127, 128, 9999, 10000, 1000000000} {
				checkReadsBaseText(t, withPart(parts, at, varBytes(n)), 0)
				checkReadsBaseText(t, withPart(parts, at, varBytes(n))+"\x00\x00\x00", 0)
			}
		}
	}
}

// Whatever stands there: what is read is right, and its text is just what stood there.
func TestReadBaseReadsNothingElse(t *testing.T) {
	for _, b := range []impl.Base{someBase(), impl.BaseNew(), {Versions: history()[:3], Past: pastOf(2), Ready: readyOf(2), Cs: 130, Next: 201}} {
		text := joined(baseParts(b))
		for at := range text {
			for other := range 256 {
				one := string([]byte{byte(other)})
				checkReadsBaseText(t, text[:at]+one+text[at+1:], 0)
				checkReadsBaseText(t, text[:at]+one+text[at:], 0)
			}
			checkReadsBaseText(t, text[:at]+text[at+1:], 0)
			checkReadsBaseText(t, text+text, at)
		}
	}
}

func checkReadsBaseText(t *testing.T, text string, at int) {
	t.Helper()
	got, behind, ok := impl.ReadBase(text, at)
	if !ok {
		if behind != 0 || !sameBase(got, impl.Base{}) {
			t.Fatalf("ReadBase of %q at %d answers something beside false: %#v, %d", text, at, got, behind)
		}
		return
	}
	if !impl.BaseOk(got) || behind > len(text) || joined(baseParts(got)) != text[at:behind] {
		t.Fatalf("ReadBase of %q at %d: %#v, %d", text, at, got, behind)
	}
}

func checkRecordRead(t *testing.T, what, text string, want impl.Record) {
	t.Helper()
	got, ok := impl.ReadRecord(text)
	if !ok || !sameRecord(got, want) {
		t.Fatalf("%s: ReadRecord of %q: %#v, %v; want %#v", what, text, got, ok, want)
	}
}

func checkNoRecord(t *testing.T, what, text string) {
	t.Helper()
	got, ok := impl.ReadRecord(text)
	if ok || !sameRecord(got, impl.Record{}) {
		t.Fatalf("%s: ReadRecord of %q: %#v, %v", what, text, got, ok)
	}
}

func TestRecordTextBytes(t *testing.T) {
	for _, c := range []struct {
		r    impl.Record
		text string
	}{
		{throughRecord(writing(pastOne(2, 0, 1), "k")), "\x01" + "\x02\x03\x00\x01\x00\x01\x01k\x01A\x00\x00\x00"},
		{readyRecord(markedOut(namedOne(1, 1, "no"))), "\x02" + "\x01\x02\x01\x00\x00\x00\x01\x02no"},
		{endRecord("abc", true), "\x03\x03abc\x01"},
		{endRecord("z", false), "\x03\x01z\x00"},
		{baseRecord(impl.Base{Cs: 9999, Next: 128}), "\x04\x8f\x4e\x80\x01\x00\x00\x00"},
	} {
		sealed := sealedOf(c.text)
		if text, ok := impl.RecordText(c.r); text != sealed || !ok {
			t.Errorf("RecordText of %#v: %q, %v; want %q", c.r, text, ok, sealed)
		}
		checkRecordRead(t, "known bytes", sealed, c.r)
	}
}

// Promise 10: records come back from their texts.
func TestRecordsComeBack(t *testing.T) {
	for what, r := range rightRecords() {
		text, ok := impl.RecordText(r)
		if want := sealedOf(joined(recordParts(r))); text != want || !ok {
			t.Errorf("%s: RecordText is %q, %v; want %q", what, text, ok, want)
		}
		checkRecordRead(t, what, text, r)
	}
}

// No two records that are unlike have one text.
func TestRecordTextsAreUnlike(t *testing.T) {
	seen := map[string]impl.Record{}
	for _, r := range rightRecords() {
		text, _ := impl.RecordText(r)
		if other, ok := seen[text]; ok && !sameRecord(r, other) {
			t.Errorf("%#v and %#v have one text", r, other)
		}
		seen[text] = r
	}
}

func TestRecordTextRefuses(t *testing.T) {
	for what, r := range wrongRecords() {
		if text, ok := impl.RecordText(r); text != "" || ok {
			t.Errorf("%s: RecordText is %q, %v", what, text, ok)
		}
	}
}

// What is right is never too long to be sealed; what would be is not right, and has no text either.
func TestRecordTextOfTheLongest(t *testing.T) {
	r := baseRecord(greatestBase())
	text, ok := impl.RecordText(r)
	if !ok || len(text) > impl.MaxText+4 || len(text) < 5000 {
		t.Fatalf("the longest: %d bytes, %v", len(text), ok)
	}
	checkRecordRead(t, "the longest", text, r)
	for _, n := range []int{900, 2000, 5000} {
		b := impl.Base{Cs: 9999, Next: 9999}
		for i := range n {
			b.Versions = append(b.Versions, ver(string([]byte{byte('a' + i/676), byte('a' + i/26%26), byte('a' + i%26)}), strings.Repeat("v", 12), 9999))
		}
		if text, ok := impl.RecordText(baseRecord(b)); text != "" || ok {
			t.Errorf("%d versions: %d bytes, %v", n, len(text), ok)
		}
	}
	name := strings.Repeat("n", 19990)
	for _, long := range []string{name, name + "1234567", strings.Repeat("n", 30000)} {
		if text, ok := impl.RecordText(endRecord(long, true)); text != "" || ok {
			t.Errorf("a Name of %d bytes: %d bytes, %v", len(long), len(text), ok)
		}
		checkNoRecord(t, "a long Name", sealedOf("\x03"+varBytes(len(long))+long+"\x01"))
	}
}

// One byte turned, anywhere, and there is none.
func TestReadRecordOfATurnedByte(t *testing.T) {
	for _, r := range append(plainRecords(), baseRecord(impl.BaseNew())) {
		text, _ := impl.RecordText(r)
		for at := range len(text) {
			for by := 1; by < 256; by++ {
				checkNoRecord(t, "one byte turned", turned(text, at, byte(by)))
			}
		}
	}
	text, _ := impl.RecordText(baseRecord(greatestBase()))
	for at := range len(text) {
		checkNoRecord(t, "one byte turned", turned(text, at, byte(1<<(at%8))))
	}
}

// A byte more or fewer, outside of the seal and inside of it.
func TestReadRecordOfAnotherLength(t *testing.T) {
	for what, r := range rightRecords() {
		inner := joined(recordParts(r))
		text := sealedOf(inner)
		for _, b := range []string{"\x00", "\x01", "\x04", "a", "\xff"} {
			checkNoRecord(t, what+", more behind it", text+b)
			checkNoRecord(t, what+", more ahead of it", b+text)
			checkNoRecord(t, what+", more sealed", sealedOf(inner+b))
			checkNoRecord(t, what+", more sealed ahead", sealedOf(b+inner))
		}
		checkNoRecord(t, what+", twice", text+text)
		checkNoRecord(t, what+", twice sealed", sealedOf(text))
		checkNoRecord(t, what+", twice in one seal", sealedOf(inner+inner))
		checkNoRecord(t, what+", not sealed", inner)
		for end := 0; end < len(inner); end += 1 + len(inner)/200 {
			checkNoRecord(t, what+", cut off", text[:end])
			checkNoRecord(t, what+", cut off and sealed", sealedOf(inner[:end]))
		}
		for end := len(inner); end < len(text); end++ {
			checkNoRecord(t, what+", cut off in its seal", text[:end])
		}
	}
}

func TestReadRecordOfNothing(t *testing.T) {
	checkNoRecord(t, "no text", "")
	checkNoRecord(t, "a seal over nothing", sealedOf(""))
	checkNoRecord(t, "the seal over nothing", "\xff\xff\xff\xff")
	checkNoRecord(t, "noughts", "\x00\x00\x00\x00")
	for b := range 256 {
		one := string([]byte{byte(b)})
		checkNoRecord(t, "one byte", one)
		checkNoRecord(t, "a seal over one byte", sealedOf(one))
		checkNoRecord(t, "a seal over two bytes", sealedOf(one+"\x00"))
	}
	for _, n := range []int{19999, 20000, 20001, 50000} {
		for _, b := range []string{"\x00", "\x01", "\x03", "\x04", "\xff"} {
			checkNoRecord(t, "a long text", sealedOf(strings.Repeat(b, n)))
			checkNoRecord(t, "a long text, not sealed", strings.Repeat(b, n))
		}
	}
}

// Each kind's byte as any other one, ahead of what belongs to it.
func TestReadRecordOfOtherKinds(t *testing.T) {
	for _, r := range plainRecords() {
		body := joined(recordParts(r)[1:])
		for kind := range 256 {
			if kind != r.Kind {
				checkNoRecord(t, fmt.Sprint(r.Kind, " as ", kind), sealedOf(string([]byte{byte(kind)})+body))
			}
		}
		checkRecordRead(t, "as it is", sealedOf(string([]byte{byte(r.Kind)})+body), r)
		for _, kind := range []string{"", longerForm(varBytes(r.Kind)), varBytes(r.Kind + 256), varBytes(1000000001), string([]byte{byte('0' + r.Kind)})} {
			checkNoRecord(t, fmt.Sprintf("%d as %q", r.Kind, kind), sealedOf(kind+body))
		}
	}
}

func TestReadRecordOfOneThatIsNotRight(t *testing.T) {
	for what, r := range wrongRecords() {
		if r.Kind < 0 || r.Kind > 5 || hasLowNumber(r.Base) || min(r.Txn.Id, r.Txn.State, r.Txn.Snap, r.Txn.Cs) < 0 {
			continue
		}
		// What does not belong to its kind is not in the text: without it a record may be right.
		kept := impl.Record{Kind: r.Kind}
		switch r.Kind {
		case 1, 2:
			kept.Txn = r.Txn
		case 3:
			kept.Name, kept.Yes = r.Name, r.Yes
		case 4:
			kept.Base = r.Base
		}
		text := sealedOf(joined(recordParts(r)))
		if recordRight(kept) {
			checkRecordRead(t, what, text, kept)
		} else {
			checkNoRecord(t, what, text)
		}
	}
}

// Each number, a text's length too, in a longer form or too great; each flag as another byte; all of it sealed anew.
func TestReadRecordOfOtherForms(t *testing.T) {
	for what, r := range rightRecords() {
		if r.Kind == 4 && len(r.Base.Versions) > 20 {
			continue
		}
		parts := recordParts(r)
		for at, p := range parts {
			if p.kind == "text" || p.kind == "kind" {
				continue
			}
			for _, wrong := range []string{longerForm(p.text), varBytes(1000000001), strings.Repeat("\xff", 12)} {
				checkNoRecord(t, what, sealedOf(withPart(parts, at, wrong)))
			}
			for other := 2; other < 256 && p.kind == "flag"; other++ {
				checkNoRecord(t, what, sealedOf(withPart(parts, at, string([]byte{byte(other)}))))
			}
		}
	}
}

// Whatever is sealed: what is read is right, and its text is just what was read.
func TestReadRecordReadsNothingElse(t *testing.T) {
	for _, r := range append(plainRecords(), baseRecord(impl.BaseNew())) {
		text := joined(recordParts(r))
		for at := range text {
			for other := range 256 {
				one := string([]byte{byte(other)})
				checkReadsRecordText(t, sealedOf(text[:at]+one+text[at+1:]))
				checkReadsRecordText(t, sealedOf(text[:at]+one+text[at:]))
			}
			checkReadsRecordText(t, sealedOf(text[:at]+text[at+1:]))
			checkReadsRecordText(t, sealedOf(text[at:]))
		}
	}
}

func checkReadsRecordText(t *testing.T, text string) {
	t.Helper()
	got, ok := impl.ReadRecord(text)
	if !ok {
		if !sameRecord(got, impl.Record{}) {
			t.Fatalf("ReadRecord of %q answers something beside false: %#v", text, got)
		}
		return
	}
	if !recordRight(got) || sealedOf(joined(recordParts(got))) != text {
		t.Fatalf("ReadRecord of %q: %#v", text, got)
	}
}

// playedOf is the document's sentence, from one part to the next.
func playedOf(b impl.Base, r impl.Record) (impl.Base, bool) {
	if !impl.BaseOk(b) || !recordRight(r) {
		return b, false
	}
	out, may := impl.Base{}, false
	switch r.Kind {
	case 1:
		out, may = throughOf(b, r.Txn), r.Txn.Cs-1 == b.Cs
	case 2:
		out, may = madeReadyOf(b, r.Txn, r.Txn.Name), len(b.Ready) <= 2
		for _, x := range b.Ready {
			may = may && x.Name != r.Txn.Name
		}
	case 3:
		for _, x := range b.Ready {
			if x.Name == r.Name && r.Yes {
				out, may = throughOf(b, x), true
			} else if x.Name == r.Name {
				out, may = givenUpOf(b, x.Name), true
			}
		}
	case 4:
		out, may = r.Base, true
	}
	out = tidiedOf(out, nil)
	if !may || !impl.BaseOk(out) {
		return b, false
	}
	return out, true
}

func checkPlayed(t *testing.T, what string, b impl.Base, r impl.Record, want impl.Base) impl.Base {
	t.Helper()
	got, ok := impl.Played(b, r)
	checkAnswer(t, what+" is played", ok, true)
	checkBase(t, what, got, want)
	checkAnswer(t, what+": right", impl.BaseOk(got), true)
	return got
}

func checkNotPlayed(t *testing.T, what string, b impl.Base, r impl.Record) {
	t.Helper()
	got, ok := impl.Played(b, r)
	checkAnswer(t, what+" is played", ok, false)
	checkBase(t, what, got, b)
}

// tidiedVersions are what is left of history with nobody open.
func tidiedVersions() []impl.Version {
	return []impl.Version{ver("a", "a7", 7), ver("ab", "ab5", 5), ver("d", "", 8), ver("zzz", "end", 9)}
}

func TestPlayedThrough(t *testing.T) {
	x := reading(pastOne(17, 9, 10), "x")
	x.Writes = []impl.Write{put("a", "new"), gone("ab"), gone("b"), put("e", ""), put("r", "r")}
	want := someBase()
	want.Versions = []impl.Version{ver("a", "new", 10), ver("d", "", 8), ver("e", "", 10), ver("r", "r", 10), ver("zzz", "end", 9)}
	want.Past, want.Cs = nil, 10
	// The first of Ready read what is written now, without seeing it.
	want.Ready[0].Out = true
	checkPlayed(t, "RkThrough", someBase(), throughRecord(x), want)

	x = writing(pastOne(1, 0, 1), "a")
	checkPlayed(t, "the first", impl.BaseNew(), throughRecord(x), impl.Base{Versions: []impl.Version{ver("a", "A", 1)}, Cs: 1, Next: 2})
	checkPlayed(t, "nothing written", impl.BaseNew(), throughRecord(pastOne(5, 0, 1)), impl.Base{Cs: 1, Next: 6})
	checkPlayed(t, "an old Snap", impl.Base{Cs: 500, Next: 9}, throughRecord(pastOne(2, 0, 501)), impl.Base{Cs: 501, Next: 9})
}

// Only the one Cs is let in.
func TestPlayedThroughAsksForItsCs(t *testing.T) {
	for _, b := range []impl.Base{impl.BaseNew(), someBase(), {Cs: 3, Next: 4}, {Cs: 9997, Next: 9}, {Cs: 9998, Next: 9}, {Cs: 9999, Next: 9}} {
		for _, cs := range []int{1, 2, 3, 4, 5, 8, 9, 10, 11, 12, 9997, 9998, 9999} {
			r := throughRecord(writing(pastOne(1, 0, cs), "k"))
			if cs != b.Cs+1 {
				checkNotPlayed(t, fmt.Sprint("Cs ", cs, " behind ", b.Cs), b, r)
				continue
			}
			want := tidiedOf(b, nil)
			want.Versions, want.Cs, want.Next = impl.PutVersions(want.Versions, r.Txn.Writes, cs), cs, max(b.Next, 2)
			checkPlayed(t, fmt.Sprint("Cs ", cs, " behind ", b.Cs), b, r, want)
		}
	}
}

// One that is let through is not of Ready any more, by its Id; that one of Past has its Id is no matter, since none of them stays.
func TestPlayedThroughOfAnIdThatIsThere(t *testing.T) {
	b := someBase()
	tidy := tidiedOf(b, nil)
	for at, x := range b.Ready {
		want := tidy
		want.Ready, want.Cs = slices.Delete(slices.Clone(b.Ready), at, at+1), 10
		checkPlayed(t, "an Id of Ready", b, throughRecord(pastOne(x.Id, 5, 10)), want)
	}
	want := tidy
	want.Cs = 10
	for _, x := range b.Past {
		checkPlayed(t, "an Id of Past", b, throughRecord(pastOne(x.Id, 5, 10)), want)
	}
}

// Past is still there when one is made ready, and none of it behind that.
func TestPlayedReady(t *testing.T) {
	b := impl.GivenUp(someBase(), "c")
	for _, c := range []struct {
		what string
		x    impl.Txn
		at   int
		out  bool
	}{
		{"ahead of all", namedOne(17, 9, "a"), 0, false},
		{"between", reading(writing(namedOne(17, 6, "mc"), "b"), "x"), 1, false},
		{"behind all", namedOne(17, 0, "z"), 2, false},
		{"ahead of Past", reading(namedOne(17, 6, "z"), "a"), 2, true},
		{"Out already", markedOut(namedOne(17, 9, "a")), 0, true},
		{"Out already, and ahead of Past", markedOut(reading(namedOne(17, 6, "a"), "a")), 0, true},
		{"an Id that is Next", namedOne(20, 9, "a"), 0, false},
		{"an Id above Next", namedOne(300, 9, "a"), 0, false},
		{"an Id of Past", namedOne(11, 9, "a"), 0, false},
		{"an Id of nobody", namedOne(15, 9, "c"), 0, false},
	} {
		want := tidiedOf(b, nil)
		x := c.x
		x.Out = c.out
		want.Ready = slices.Insert(slices.Clone(b.Ready), c.at, x)
		want.Next = max(20, x.Id+1)
		checkPlayed(t, c.what, b, readyRecord(c.x), want)
	}
	checkPlayed(t, "the first", impl.BaseNew(), readyRecord(namedOne(1, 0, "p")), impl.Base{Ready: []impl.Txn{namedOne(1, 0, "p")}, Next: 2})
}

func TestPlayedReadyRefuses(t *testing.T) {
	b := someBase()
	for _, name := range []string{"a", "c", "m", "mm", "z"} {
		checkNotPlayed(t, "MaxReady of them", b, readyRecord(namedOne(17, 9, name)))
	}
	two := impl.GivenUp(b, "m")
	for _, x := range two.Ready {
		checkNotPlayed(t, "a Name that is there", two, readyRecord(namedOne(17, 9, x.Name)))
		checkNotPlayed(t, "one that is there", two, readyRecord(x))
		checkNotPlayed(t, "an Id that is there", two, readyRecord(namedOne(x.Id, 9, "a")))
	}
	checkNotPlayed(t, "a Snap above Cs", two, readyRecord(namedOne(17, 10, "a")))
	checkNotPlayed(t, "a Snap above Cs 0", impl.BaseNew(), readyRecord(namedOne(17, 1, "a")))
	for n := range 4 {
		many := impl.Base{Ready: readyOf(n), Cs: 4, Next: 201}
		r := readyRecord(namedOne(201, 4, "x"))
		if n < 3 {
			want := many
			want.Ready, want.Next = append(slices.Clone(many.Ready), r.Txn), 202
			checkPlayed(t, fmt.Sprint("behind ", n), many, r, want)
		} else {
			checkNotPlayed(t, fmt.Sprint("behind ", n), many, r)
		}
	}
}

func TestPlayedEnd(t *testing.T) {
	b := changedBase(someBase(), func(b *impl.Base) { b.Ready[1].Writes = []impl.Write{gone("a"), put("m", "new"), put("r", "new")} })
	for at, x := range b.Ready {
		want := tidiedOf(b, nil)
		want.Ready = slices.Delete(slices.Clone(b.Ready), at, at+1)
		checkPlayed(t, "given up", b, endRecord(x.Name, false), want)
	}
	want := tidiedOf(b, nil)
	want.Versions = []impl.Version{ver("ab", "ab5", 5), ver("d", "", 8), ver("m", "new", 10), ver("r", "new", 10), ver("zzz", "end", 9)}
	want.Ready, want.Cs = []impl.Txn{markedOut(b.Ready[0]), b.Ready[2]}, 10
	checkPlayed(t, "let through", b, endRecord("m", true), want)
	want = tidiedOf(b, nil)
	want.Ready, want.Cs = b.Ready[1:], 10
	checkPlayed(t, "let through, nothing written", b, endRecord("c", true), want)
}

func TestPlayedEndRefuses(t *testing.T) {
	for _, yes := range []bool{false, true} {
		for _, name := range []string{"a", "b", "cc", "l", "mmm", "z", "zzz"} {
			checkNotPlayed(t, "a Name that is not there", someBase(), endRecord(name, yes))
			checkNotPlayed(t, "nobody there", impl.BaseNew(), endRecord(name, yes))
		}
		ended, ok := impl.Played(someBase(), endRecord("m", yes))
		checkAnswer(t, "ended", ok, true)
		checkNotPlayed(t, "ended twice", ended, endRecord("m", yes))
		checkNotPlayed(t, "ended twice, otherwise", ended, endRecord("m", !yes))
	}
}

// A base stands in place of all that was, and is tidied, too.
func TestPlayedBase(t *testing.T) {
	for what, b := range rightBases() {
		for _, over := range []impl.Base{impl.BaseNew(), someBase(), greatestBase(), {Cs: 9999, Next: 9999}} {
			checkPlayed(t, what, over, baseRecord(b), tidiedOf(b, nil))
		}
	}
	want := someBase()
	want.Versions, want.Past = tidiedVersions(), nil
	checkPlayed(t, "known versions", greatestBase(), baseRecord(someBase()), want)
}

func TestPlayedOfWhatIsNotRight(t *testing.T) {
	wrong := tangledBases()
	for _, b := range wrongBases() {
		wrong = append(wrong, b)
	}
	records := append(plainRecords(), throughRecord(pastOne(1, 0, 1)), readyRecord(namedOne(1, 0, "p")), endRecord("a", true), endRecord("a", false), endRecord("m", false), baseRecord(impl.BaseNew()))
	for _, b := range wrong {
		for _, r := range records {
			checkNotPlayed(t, "a base that is not right", b, r)
		}
		if cs := b.Cs + 1; cs >= 1 && cs <= 9999 {
			checkNotPlayed(t, "a base that is not right, the next Cs", b, throughRecord(pastOne(500, 0, cs)))
		}
	}
	for what, r := range wrongRecords() {
		for _, b := range []impl.Base{someBase(), impl.BaseNew(), {Cs: 199, Next: 4}, {Ready: []impl.Txn{namedOne(1, 0, "ab")}, Cs: 199, Next: 2}} {
			checkNotPlayed(t, what, b, r)
		}
	}
}

// A record with something in it that does not belong to its kind is not played, though without that it would be.
func TestPlayedOfRecordsWithMoreInThem(t *testing.T) {
	b := impl.Base{Ready: []impl.Txn{namedOne(1, 0, "k")}, Cs: 4, Next: 9}
	for _, r := range []impl.Record{throughRecord(pastOne(2, 0, 5)), readyRecord(namedOne(2, 0, "a")), endRecord("k", false), endRecord("k", true), baseRecord(someBase())} {
		want, _ := playedOf(b, r)
		checkPlayed(t, "as it is", b, r, want)
		if r.Kind != 3 {
			checkNotPlayed(t, "with a Name", b, changedRecord(r, func(r *impl.Record) { r.Name = "k" }))
			checkNotPlayed(t, "with Yes", b, changedRecord(r, func(r *impl.Record) { r.Yes = true }))
		}
		if r.Kind != 4 {
			checkNotPlayed(t, "with a Base", b, changedRecord(r, func(r *impl.Record) { r.Base = impl.BaseNew() }))
		}
		if r.Kind > 2 {
			checkNotPlayed(t, "with a Txn", b, changedRecord(r, func(r *impl.Record) { r.Txn = pastOne(2, 0, 5) }))
		}
		for _, kind := range []int{0, 5, r.Kind%4 + 1} {
			checkNotPlayed(t, "another Kind", b, changedRecord(r, func(r *impl.Record) { r.Kind = kind }))
		}
	}
}

func TestPlayedAtTheLastNumbers(t *testing.T) {
	for _, cs := range []int{9997, 9998, 9999} {
		b := impl.Base{Ready: []impl.Txn{namedOne(7, 5, "k")}, Cs: cs, Next: 8}
		checkPlayed(t, "given up", b, endRecord("k", false), impl.Base{Cs: cs, Next: 8})
		if cs < 9999 {
			checkPlayed(t, "let through", b, endRecord("k", true), impl.Base{Cs: cs + 1, Next: 8})
			checkPlayed(t, "RkThrough", b, throughRecord(pastOne(7, 5, cs+1)), impl.Base{Cs: cs + 1, Next: 8})
		} else {
			checkNotPlayed(t, "let through with Cs at MaxCs", b, endRecord("k", true))
			checkNotPlayed(t, "RkThrough with Cs at MaxCs", b, throughRecord(pastOne(7, 5, 9999)))
		}
		checkPlayed(t, "made ready", impl.Base{Cs: cs, Next: 8}, readyRecord(namedOne(7, cs, "k")), impl.Base{Ready: []impl.Txn{namedOne(7, cs, "k")}, Cs: cs, Next: 8})
	}
	for _, next := range []int{1, 9997, 9998, 9999} {
		b := impl.Base{Cs: 3, Next: next}
		for _, id := range []int{9996, 9997, 9998} {
			above := max(next, id+1)
			checkPlayed(t, "let through", b, throughRecord(pastOne(id, 3, 4)), impl.Base{Cs: 4, Next: above})
			checkPlayed(t, "made ready", b, readyRecord(namedOne(id, 3, "k")), impl.Base{Ready: []impl.Txn{namedOne(id, 3, "k")}, Cs: 3, Next: above})
		}
		checkNotPlayed(t, "Id MaxCs, let through", b, throughRecord(pastOne(9999, 3, 4)))
		checkNotPlayed(t, "Id MaxCs, made ready", b, readyRecord(namedOne(9999, 3, "k")))
	}
}

// keysOf are n versions of n keys.
func keysOf(n int) []impl.Version {
	var list []impl.Version
	for i := range n {
		list = append(list, ver(string([]byte{'k', byte('a' + i/26), byte('a' + i%26)}), "v", 2))
	}
	return list
}

// Only what comes out may have no more than 120 versions: there may be more ahead of its being tidied.
func TestPlayedUpTo120Versions(t *testing.T) {
	for _, c := range []struct {
		there  []impl.Version
		writes []impl.Write
		left   int
	}{
		{keysOf(119), writesOf("a"), 120}, {keysOf(120), writesOf("a"), 121}, {keysOf(120), writesOf("kaa"), 120}, {keysOf(120), writesOf("kaa", "kab", "ked"), 120},
		{keysOf(120), []impl.Write{put("a", "1"), gone("kbb")}, 120}, {keysOf(120), []impl.Write{put("a", "1"), put("b", "1"), gone("kbb")}, 121},
		{keysOf(120), []impl.Write{gone("kbb"), gone("kcc")}, 118}, {keysOf(120), []impl.Write{gone("a"), gone("b")}, 120},
		{keysOf(112), writesOf(letters(8)...), 120}, {keysOf(113), writesOf(letters(8)...), 121}, {keysOf(120), nil, 120},
		{manyVersions(120), writesOf(letters(8)...), 48}, {goneVersions(120), writesOf(letters(8)...), 8},
	} {
		b := impl.Base{Versions: c.there, Ready: []impl.Txn{{Id: 1, State: 2, Snap: 3, Writes: c.writes, Name: "p"}}, Cs: 3, Next: 2}
		for _, r := range []impl.Record{endRecord("p", true), throughRecord(impl.Txn{Id: 1, State: 3, Snap: 3, Cs: 4, Writes: c.writes})} {
			if c.left > 120 {
				checkNotPlayed(t, fmt.Sprint(c.left, " versions"), b, r)
				continue
			}
			want, _ := playedOf(b, r)
			if got := checkPlayed(t, fmt.Sprint(c.left, " versions"), b, r, want); len(got.Versions) != c.left {
				t.Errorf("%d versions are left; want %d", len(got.Versions), c.left)
			}
		}
		given, _ := playedOf(b, endRecord("p", false))
		checkPlayed(t, "given up", b, endRecord("p", false), given)
	}
}

// With MaxPast of Past one more is let through: none of them stays.
func TestPlayedBehindMaxPast(t *testing.T) {
	b := impl.Base{Past: pastOf(12), Ready: []impl.Txn{reading(namedOne(200, 12, "k"), "a")}, Cs: 12, Next: 300}
	want := impl.Base{Versions: []impl.Version{ver("a", "A", 13)}, Ready: []impl.Txn{markedOut(b.Ready[0])}, Cs: 13, Next: 300}
	checkPlayed(t, "RkThrough", b, throughRecord(writing(pastOne(50, 12, 13), "a")), want)
	checkPlayed(t, "RkEnd, yes", b, endRecord("k", true), impl.Base{Cs: 13, Next: 300})
	checkPlayed(t, "RkEnd, no", b, endRecord("k", false), impl.Base{Cs: 12, Next: 300})
}

// What is played is tidied: nobody of Past is there any more, and each key once, with what is seen at Cs.
func TestPlayedIsTidied(t *testing.T) {
	bases := rightBases()
	bases["the greatest"] = greatestBase()
	for what, b := range bases {
		for _, r := range rightRecords() {
			got, ok := impl.Played(b, r)
			if !ok {
				continue
			}
			checkBase(t, what+", tidied again", impl.Tidied(got, nil), got)
			if len(got.Past) != 0 || len(got.Versions) != len(impl.ScanAt(got.Versions, everyKey, got.Cs)) {
				t.Fatalf("%s: not tidied: %#v", what, got)
			}
		}
	}
}

// Every base and every record, right or wrong, held against the document's sentence.
func TestPlayedOfAnything(t *testing.T) {
	bases, records := append(anyBases(), greatestBase()), anyRecords()
	for i, b := range bases {
		mine := []impl.Record{baseRecord(b), throughRecord(reading(writing(pastOne(i+1, max(0, b.Cs-1), b.Cs+1), "a", "r"), "b")), readyRecord(reading(namedOne(i+1, b.Cs, "j"), "a"))}
		for _, x := range b.Ready {
			mine = append(mine, endRecord(x.Name, true), endRecord(x.Name, false), readyRecord(x))
		}
		for _, r := range append(mine, records...) {
			want, may := playedOf(b, r)
			got, ok := impl.Played(b, r)
			if ok != may || !sameBase(got, want) {
				t.Fatalf("Played of %#v and %#v: %#v, %v; want %#v, %v", b, r, got, ok, want, may)
			}
		}
	}
}

// handedOn is a record that went through its text.
func handedOn(t *testing.T, r impl.Record) impl.Record {
	t.Helper()
	text, ok := impl.RecordText(r)
	if !ok {
		t.Fatalf("%#v has no text", r)
	}
	back, ok := impl.ReadRecord(text)
	if !ok || !sameRecord(back, r) {
		t.Fatalf("%#v comes back as %#v, %v", r, back, ok)
	}
	return back
}

// doSomething lets one through, makes one ready or ends one that is, and tells the record of it; false where it can't be.
func (l *life) doSomething() (impl.Record, bool) {
	was := l.base
	kind := l.draw.below(5)
	switch {
	case kind <= 1:
		l.letThrough(l.someTxn())
		return throughRecord(l.base.Past[len(l.base.Past)-1]), true
	case kind == 2 && len(was.Ready) < 3:
		x, name := l.someTxn(), letters(26)[l.next%26]
		l.base = impl.MadeReady(was, x, name)
		return readyRecord(l.base.Ready[impl.ReadyAt(l.base, name)]), true
	case kind == 3 && len(was.Ready) > 0:
		x := was.Ready[l.draw.below(len(was.Ready))]
		l.letThrough(x)
		return endRecord(x.Name, true), true
	case kind == 4 && len(was.Ready) > 0:
		x := was.Ready[l.draw.below(len(was.Ready))]
		l.base = impl.GivenUp(was, x.Name)
		return endRecord(x.Name, false), true
	}
	return impl.Record{}, false
}

// Promise 10: in drawn lives, in which some are open, what is played of the records is what was done, but for what only those that are open need.
func TestWhatIsPlayedIsWhatWasDone(t *testing.T) {
	for seed := range 80 {
		l := &life{drawn(seed), impl.BaseNew(), []map[string]string{{}}, 1}
		played := impl.BaseNew()
		var log []impl.Record
		for range 60 {
			if r, ok := l.doSomething(); ok {
				log = append(log, handedOn(t, r))
				played = checkPlayed(t, "the next one", played, log[len(log)-1], tidiedOf(l.base, nil))
			}
			if len(l.base.Past) > 9 || l.draw.below(4) == 0 {
				l.base = impl.Tidied(l.base, snapsOf(l.base.Cs-l.draw.below(min(l.base.Cs+1, 4))))
			}
			// Now and then one base stands for all that was.
			if l.draw.below(20) == 0 {
				log = []impl.Record{handedOn(t, baseRecord(played))}
			}
		}
		again := impl.BaseNew()
		for _, r := range log {
			again, _ = impl.Played(again, r)
		}
		checkBase(t, "all of them again", again, played)
		for _, key := range letters(6) {
			value, there := l.at[len(l.at)-1][key]
			checkSeen(t, again.Versions, key, again.Cs, value, there)
		}
	}
}

// One that was Out when it was made ready is so when that is played, where nobody of Past is left.
func TestPlayedKeepsOut(t *testing.T) {
	done := impl.MadeReady(impl.GivenUp(someBase(), "m"), reading(openAt(17, 6), "a"), "d")
	x := done.Ready[impl.ReadyAt(done, "d")]
	was := impl.Tidied(impl.GivenUp(someBase(), "m"), nil)
	got, ok := impl.Played(was, handedOn(t, readyRecord(x)))
	if !ok || !got.Ready[impl.ReadyAt(got, "d")].Out {
		t.Errorf("%#v, %v", got, ok)
	}
	checkBase(t, "as it was done", got, impl.Tidied(done, nil))
}

func roomyRecord(r impl.Record) impl.Record {
	return impl.Record{Kind: r.Kind, Txn: roomyTxn(r.Txn), Name: fresh(r.Name), Yes: r.Yes, Base: roomyBase(r.Base)}
}

func recordTexts(r impl.Record) []string {
	return slices.Concat(txnTexts(r.Txn), []string{r.Name}, baseTexts(r.Base))
}

// checkRecordUntouched tells whether r, and the room behind all its lists, is as it was.
func checkRecordUntouched(t *testing.T, r, was impl.Record) {
	t.Helper()
	if !sameRecord(r, was) {
		t.Errorf("something is written into %#v", was)
	}
	checkUntouched(t, r.Base, was.Base)
	reads, writes := len(was.Txn.Reads), len(was.Txn.Writes)
	for i := range 3 {
		if r.Txn.Reads[:reads+3][reads+i] != oneKey("mark") || r.Txn.Writes[:writes+3][writes+i] != put("mark", "mark") {
			t.Errorf("something is written behind the lists of %#v", was)
		}
	}
}

// memoryRecords are some of each kind, refused ones too, in which one text stands in all places.
func memoryRecords() []impl.Record {
	key := fresh("abc")
	one := reading(writing(namedOne(3, 0, key), key), key)
	one.Writes[0].Value = key
	done := changed(one, func(x *impl.Txn) { x.State, x.Cs, x.Name = 3, 1, "" })
	b := impl.Base{Versions: []impl.Version{ver(key, key, 1)}, Past: []impl.Txn{done}, Ready: []impl.Txn{changed(one, func(x *impl.Txn) { x.Id = 4 })}, Cs: 1, Next: 9}
	records := append(plainRecords(), throughRecord(done), throughRecord(changed(done, func(x *impl.Txn) { x.Cs = 2 })), throughRecord(changed(done, func(x *impl.Txn) { x.Id, x.Cs = 30, 10 })), readyRecord(one),
		endRecord(key, true), endRecord(key, false), endRecord("m", true), endRecord("m", false), baseRecord(b))
	return append(records, impl.Record{}, impl.Record{Kind: 3, Txn: one, Name: key, Base: b}, impl.Record{Kind: 4, Txn: done, Base: b})
}

func TestPlayedAnswersNewMemory(t *testing.T) {
	for _, plain := range memoryBases() {
		if len(plain.Past)+len(plain.Ready) > 40 {
			continue
		}
		for _, plainRecord := range append(memoryRecords(), baseRecord(plain)) {
			b, r := roomyBase(plain), roomyRecord(plainRecord)
			first, _ := impl.Played(b, r)
			second, _ := impl.Played(b, r)
			checkApart(t, "Played", baseTexts(first), slices.Concat(baseTexts(second), baseTexts(b), recordTexts(r)))
			checkListsApart(t, "Played", first)
			// Whatever is done to an answer is not to be seen in an argument, nor in another answer.
			spoil(first)
			again, _ := impl.Played(b, r)
			checkBase(t, "Played, answered again", again, second)
			checkUntouched(t, b, plain)
			checkRecordUntouched(t, r, plainRecord)
		}
	}
}

// One piece of memory in both arguments, one behind the other, or the same: nothing is written into it.
func TestPlayedInOnePieceOfMemory(t *testing.T) {
	whole := slices.Concat(someBase().Past, someBase().Ready, []impl.Txn{writing(pastOne(17, 9, 10), "r", "w")})
	was := slices.Clone(whole)
	b := someBase()
	b.Past, b.Ready = whole[:3], whole[3:5]
	for _, r := range []impl.Record{throughRecord(whole[6]), readyRecord(whole[5]), endRecord("c", true), endRecord("m", false), baseRecord(b), endRecord("z", true), throughRecord(whole[0])} {
		want, may := playedOf(b, r)
		got, ok := impl.Played(b, r)
		checkAnswer(t, "Played", ok, may)
		checkBase(t, "Played", got, want)
		spoil(got)
	}
	if !slices.EqualFunc(whole, was, sameTxn) {
		t.Error("something is written into what was handed in")
	}
}

func TestRecordTextsAnswerNewMemory(t *testing.T) {
	for _, plain := range append(memoryRecords(), baseRecord(greatestBase())) {
		r := roomyRecord(plain)
		impl.RecordOk(r)
		text, _ := impl.RecordText(r)
		again, _ := impl.RecordText(r)
		baseText, _ := impl.BaseText(r.Base)
		baseAgain, _ := impl.BaseText(r.Base)
		checkApart(t, "RecordText", []string{text}, append(recordTexts(r), again))
		checkApart(t, "BaseText", []string{baseText}, append(recordTexts(r), baseAgain))
		checkRecordUntouched(t, r, plain)

		first, _ := impl.ReadRecord(text)
		second, _ := impl.ReadRecord(text)
		checkApart(t, "ReadRecord", recordTexts(first), append(recordTexts(second), text))
		checkApart(t, "the Txn of a record", rangeTexts(first.Txn.Reads), append(writeTexts(first.Txn.Writes), first.Txn.Name, first.Name))
		checkApart(t, "the Txn of a record", writeTexts(first.Txn.Writes), []string{first.Txn.Name, first.Name})
		checkListsApart(t, "ReadRecord", first.Base)
		spoil(impl.Base{Past: []impl.Txn{first.Txn}})
		spoil(first.Base)
		third, _ := impl.ReadRecord(text)
		if !sameRecord(second, third) {
			t.Errorf("ReadRecord of %q, answered again: %#v; want %#v", text, third, second)
		}

		base, _, _ := impl.ReadBase(baseText, 0)
		other, _, _ := impl.ReadBase(baseText, 0)
		checkApart(t, "ReadBase", baseTexts(base), append(baseTexts(other), baseText))
		checkListsApart(t, "ReadBase", base)
		spoil(base)
		third.Base, _, _ = impl.ReadBase(baseText, 0)
		checkBase(t, "ReadBase, answered again", third.Base, other)
	}
}
