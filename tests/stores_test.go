package tests

import (
	"fmt"
	"maps"
	"math"
	"slices"
	"strings"
	"testing"

	"loop.example/g00327/impl"
)

// textOf is the text of a right record, as the document says it.
func textOf(r impl.Record) string {
	return sealedOf(joined(recordParts(r)))
}

// sizeOf is how many bytes of a log a record takes.
func sizeOf(r impl.Record) int {
	return len(recordBytes(textOf(r)))
}

// logWith is a log of which area 0 counts and has these texts; the other one has something else.
func logWith(texts ...string) impl.Disk {
	return logOf(6, texts, []string{"not", "asked", "for"})
}

// logSaying is a log of which area 0 counts and has these records.
func logSaying(records ...impl.Record) impl.Disk {
	var texts []string
	for _, r := range records {
		texts = append(texts, textOf(r))
	}
	return logWith(texts...)
}

// storeOf has an engine, and a log that says the same.
func storeOf(e impl.Engine) impl.Store {
	return impl.Store{Engine: e, Disk: logSaying(baseRecord(e.Base))}
}

// baseOfSize is right, nobody can tidy anything of it, and its record takes just so many bytes of a log, from 1700 on to 3050.
func baseOfSize(size int) impl.Base {
	b := greatestBase()
	b.Past, b.Cs = nil, 9500
	over := sizeOf(baseRecord(b)) - size
	for i := range b.Versions {
		n := min(max(over, 0), 12)
		b.Versions[i].Value = b.Versions[i].Value[n:]
		over -= n
	}
	if over != 0 {
		panic(fmt.Sprint("no base of the size ", size))
	}
	return b
}

// logWithRoom says b, and has just so many bytes left.
func logWithRoom(b impl.Base, left int) impl.Disk {
	return logSaying(baseRecord(baseOfSize(3008-left-sizeOf(baseRecord(b)))), baseRecord(b))
}

// unplayableTexts are those of which one is no record, or can't be played where it stands.
func unplayableTexts() map[string][]string {
	base, other := textOf(baseRecord(someBase())), textOf(baseRecord(impl.BaseNew()))
	next := textOf(throughRecord(pastOne(17, 9, 10)))
	return map[string][]string{
		"a text that is no record":                     {"x"},
		"a text that is no record behind one":          {base, "record"},
		"a text that is no record ahead of one":        {"record", base},
		"a text that is no record, between two":        {base, "\x00", next},
		"a record with a byte turned":                  {turned(base, 3, 1)},
		"a record with its last byte turned":           {base, turned(next, len(next)-1, 128)},
		"a record without its last byte":               {base[:len(base)-1]},
		"a record with a byte behind it":               {base + "\x00"},
		"two records in one text":                      {base + next},
		"a sealed text that is no record":              {sealedOf("x")},
		"a sealed text of nothing":                     {sealedOf("")},
		"a sealed base that is not right":              {sealedOf(joined(recordParts(baseRecord(impl.Base{}))))},
		"let through with a number too high":           {textOf(throughRecord(pastOne(1, 0, 2)))},
		"let through with its number once more":        {base, next, next},
		"let through with the number of Cs":            {base, textOf(throughRecord(pastOne(17, 8, 9)))},
		"made ready with a name that is there":         {base, textOf(readyRecord(namedOne(17, 9, "m")))},
		"made ready where three are":                   {base, textOf(readyRecord(namedOne(17, 9, "k")))},
		"ended, where nobody is ready":                 {textOf(endRecord("m", true))},
		"ended twice":                                  {base, textOf(endRecord("m", true)), textOf(endRecord("m", false))},
		"given up, where nobody has that name":         {base, textOf(endRecord("k", false))},
		"what can't be played, ahead of a base":        {textOf(endRecord("m", true)), base},
		"what can't be played, then what might be":     {base, textOf(endRecord("k", false)), next},
		"255, of which the last one is none":           append(slices.Repeat([]string{other}, 254), "x"),
		"255, of which the first one is none":          append([]string{"x"}, slices.Repeat([]string{other}, 254)...),
		"255, of which none is one":                    ones(255),
		"so long that there is no room, and no record": textsOf(3006),
	}
}

// unkeeping are disks in which no record can be kept.
func unkeeping() map[string]impl.Disk {
	disks := map[string]impl.Disk{
		"nothing":                             {},
		"a write that waits":                  {Sectors: logSaying().Sectors, Cache: []impl.Put{{At: 0, Text: full("\x00")}}},
		"a log whose other area is no one":    areaLaid(logSaying(baseRecord(someBase())), 1, 1, "\x00"),
		"full, what is played is as long":     logSaying(baseRecord(baseOfSize(3008))),
		"full but for one byte, and so alone": logSaying(baseRecord(baseOfSize(3007))),
		"full, alone 8 bytes are left":        logSaying(baseRecord(baseOfSize(3000))),
	}
	for what, texts := range unplayableTexts() {
		if len(texts) == 255 || len(texts[0]) > 3000 {
			disks["full, "+what] = logWith(texts...)
		}
	}
	return disks
}

func sameStore(a, b impl.Store) bool {
	return sameEngine(a.Engine, b.Engine) && sameDisk(a.Disk, b.Disk)
}

// checkStore ends the test with the first wrong one, since it is asked of very many.
func checkStore(t *testing.T, what string, got, want impl.Store) {
	t.Helper()
	checkEngine(t, what, got.Engine, want.Engine)
	if !sameDisk(got.Disk, want.Disk) {
		t.Fatalf("%s: %s", what, unlike(got.Disk, want.Disk))
	}
}

// likeByWords holds the texts of two against each other: one that is not right has none.
func likeByWords(x, y impl.Txn) bool {
	if impl.TxnOk(x) != impl.TxnOk(y) {
		return false
	}
	return !impl.TxnOk(x) || sameTxn(x, y)
}

func likeOf(a, b impl.Base) bool {
	return a.Cs == b.Cs && slices.EqualFunc(a.Past, b.Past, likeByWords) && slices.EqualFunc(a.Ready, b.Ready, likeByWords) && sameAsFrom(a.Versions, b.Versions, b.Cs)
}

func playLogOf(d impl.Disk) (impl.Base, bool) {
	b := impl.Base{Next: 1}
	for _, text := range impl.LogTexts(d) {
		r, ok := impl.ReadRecord(text)
		if !ok {
			return impl.Base{}, false
		}
		if b, ok = playedOf(b, r); !ok {
			return impl.Base{}, false
		}
	}
	return b, true
}

func storeRight(s impl.Store) bool {
	played, ok := playLogOf(s.Disk)
	return engineRight(s.Engine) && impl.LogOk(s.Disk) && ok && likeOf(played, tidiedOf(s.Engine.Base, nil))
}

// appendedOf is the log with one text more, laid over its bytes.
func appendedOf(d impl.Disk, text string) (impl.Disk, bool) {
	if !impl.LogOk(d) {
		return d, false
	}
	texts := impl.LogTexts(d)
	if len(texts) >= 255 || len(allRecords(texts))+len(recordBytes(text)) > 3008 {
		return d, false
	}
	return withPut(d, int(d.Sectors[0][0])%2, texts, text), true
}

// fixedOf is the log with what is played alone in the other area, laid over its bytes.
func fixedOf(d impl.Disk) (impl.Disk, bool) {
	played, ok := playLogOf(d)
	if !ok || !impl.LogOk(d) || sizeOf(baseRecord(played)) > 3008 {
		return d, false
	}
	return withSwitch(d, []string{textOf(baseRecord(played))}), true
}

func keepOf(s impl.Store, r impl.Record) (impl.Store, bool) {
	if !recordRight(r) {
		return s, false
	}
	d, ok := appendedOf(s.Disk, textOf(r))
	if !ok {
		if d, ok = fixedOf(s.Disk); ok {
			d, ok = appendedOf(d, textOf(r))
		}
	}
	if !ok {
		return s, false
	}
	return impl.Store{Engine: s.Engine, Disk: d}, true
}

// keptOf is what follows a step of the engine: its record kept, or left as what is given for that.
func keptOf(s impl.Store, e impl.Engine, r impl.Record, code int, left impl.Engine) (impl.Store, int) {
	if code != 0 {
		return impl.Store{Engine: e, Disk: s.Disk}, code
	}
	if out, ok := keepOf(impl.Store{Engine: e, Disk: s.Disk}, r); ok {
		return out, 0
	}
	return impl.Store{Engine: left, Disk: s.Disk}, 3
}

func storeCommitOf(s impl.Store, id int) (impl.Store, int) {
	e, r, code := commitOf(s.Engine, id)
	left, _ := leaveOf(s.Engine, id)
	return keptOf(s, e, r, code, left)
}

func storePrepareOf(s impl.Store, id int, name string) (impl.Store, int) {
	e, r, code := prepareOf(s.Engine, id, name)
	left, _ := leaveOf(s.Engine, id)
	return keptOf(s, e, r, code, left)
}

func storeFinishOf(s impl.Store, name string, yes bool) (impl.Store, int) {
	e, r, code := finishOf(s.Engine, name, yes)
	return keptOf(s, e, r, code, s.Engine)
}

// The check functions ask one function of the program, hold all of its answer against the document's sentence, and answer it.

func checkPlayLog(t *testing.T, what string, d impl.Disk) (impl.Base, bool) {
	t.Helper()
	got, ok := impl.PlayLog(d)
	want, may := playLogOf(d)
	checkAnswer(t, what+": PlayLog", ok, may)
	checkBase(t, what+": PlayLog", got, want)
	return got, ok
}

func checkKeep(t *testing.T, what string, s impl.Store, r impl.Record) (impl.Store, bool) {
	t.Helper()
	got, ok := impl.KeepRecord(s, r)
	want, may := keepOf(s, r)
	checkAnswer(t, what+": KeepRecord", ok, may)
	checkStore(t, what+": KeepRecord", got, want)
	return got, ok
}

func checkStoreCommit(t *testing.T, what string, s impl.Store, id int) (impl.Store, int) {
	t.Helper()
	got, code := impl.StoreCommit(s, id)
	want, wantCode := storeCommitOf(s, id)
	checkCode(t, what+": StoreCommit", code, wantCode)
	checkStore(t, what+": StoreCommit", got, want)
	return got, code
}

func checkStorePrepare(t *testing.T, what string, s impl.Store, id int, name string) (impl.Store, int) {
	t.Helper()
	got, code := impl.StorePrepare(s, id, name)
	want, wantCode := storePrepareOf(s, id, name)
	checkCode(t, what+": StorePrepare", code, wantCode)
	checkStore(t, what+": StorePrepare", got, want)
	return got, code
}

func checkStoreFinish(t *testing.T, what string, s impl.Store, name string, yes bool) (impl.Store, int) {
	t.Helper()
	got, code := impl.StoreFinish(s, name, yes)
	want, wantCode := storeFinishOf(s, name, yes)
	checkCode(t, what+": StoreFinish", code, wantCode)
	checkStore(t, what+": StoreFinish", got, want)
	return got, code
}

func checkFix(t *testing.T, what string, s impl.Store) (impl.Store, bool) {
	t.Helper()
	got, ok := impl.FixStore(s)
	d, may := fixedOf(s.Disk)
	checkAnswer(t, what+": FixStore", ok, may)
	checkStore(t, what+": FixStore", got, impl.Store{Engine: s.Engine, Disk: d})
	return got, ok
}

func checkRise(t *testing.T, what string, d impl.Disk) (impl.Store, bool) {
	t.Helper()
	got, ok := impl.RiseStore(d)
	played, may := playLogOf(d)
	want := impl.Store{Engine: impl.Engine{Base: played}, Disk: d}
	if may = may && impl.LogOk(d); !may {
		want = impl.Store{}
	}
	checkAnswer(t, what+": RiseStore", ok, may)
	checkStore(t, what+": RiseStore", got, want)
	return got, ok
}

func TestStoreNew(t *testing.T) {
	s := impl.StoreNew()
	checkStore(t, "StoreNew", s, impl.Store{Engine: impl.Engine{Base: impl.Base{Next: 1}}, Disk: impl.Disk{Sectors: slices.Repeat([]string{full("\x00")}, 97)}})
	checkAnswer(t, "StoreNew is right", impl.StoreOk(s), true)
	checkAnswer(t, "nobody is in doubt", len(impl.InDoubt(s)) == 0, true)
	s.Disk.Sectors[0] = "other"
	checkAnswer(t, "StoreNew once more", impl.StoreOk(impl.StoreNew()), true)
}

func TestLikeBase(t *testing.T) {
	some := someBase()
	for what, c := range map[string]struct {
		change func(b *impl.Base)
		want   bool
	}{
		"nothing":                                  {func(b *impl.Base) {}, true},
		"only Next":                                {func(b *impl.Base) { b.Next = 21 }, true},
		"only Next, which is none":                 {func(b *impl.Base) { b.Next = -7 }, true},
		"only Cs, one more":                        {func(b *impl.Base) { b.Cs = 10 }, false},
		"only Cs, one less":                        {func(b *impl.Base) { b.Cs = 8 }, false},
		"one of Past less, the first":              {func(b *impl.Base) { b.Past = b.Past[1:] }, false},
		"one of Past less, the last":               {func(b *impl.Base) { b.Past = b.Past[:2] }, false},
		"one of Past more":                         {func(b *impl.Base) { b.Past = append(b.Past, pastOne(17, 8, 9)) }, false},
		"one of Past twice":                        {func(b *impl.Base) { b.Past = append(b.Past, b.Past[2]) }, false},
		"nobody of Past":                           {func(b *impl.Base) { b.Past = nil }, false},
		"two of Past in another order":             {func(b *impl.Base) { b.Past[0], b.Past[2] = b.Past[2], b.Past[0] }, false},
		"one of Past with another Id":              {func(b *impl.Base) { b.Past[0].Id = 10 }, false},
		"one of Past with another Snap":            {func(b *impl.Base) { b.Past[2].Snap = 7 }, false},
		"one of Past with another Cs":              {func(b *impl.Base) { b.Past[0].Cs = 6 }, false},
		"one of Past with other Reads":             {func(b *impl.Base) { b.Past[1] = reading(b.Past[1], "a", "r") }, false},
		"one of Past with no Reads":                {func(b *impl.Base) { b.Past[1].Reads = nil }, false},
		"one of Past with other Writes":            {func(b *impl.Base) { b.Past[2].Writes = []impl.Write{put("b", "other"), put("zzz", "B")} }, false},
		"one of Past with a Write that is Gone":    {func(b *impl.Base) { b.Past[0].Writes = []impl.Write{gone("a")} }, false},
		"one of Past not Out":                      {func(b *impl.Base) { b.Past[1].Out = false }, false},
		"one of Past Out":                          {func(b *impl.Base) { b.Past[2].Out = true }, false},
		"one of Past that is ready":                {func(b *impl.Base) { b.Past[0] = namedOne(11, 5, "a") }, false},
		"one of Past that is not right":            {func(b *impl.Base) { b.Past[0].Id = 0 }, false},
		"one of Past that is nothing":              {func(b *impl.Base) { b.Past[2] = impl.Txn{} }, false},
		"one of Ready less, the first":             {func(b *impl.Base) { b.Ready = b.Ready[1:] }, false},
		"one of Ready less, the last":              {func(b *impl.Base) { b.Ready = b.Ready[:2] }, false},
		"one of Ready more":                        {func(b *impl.Base) { b.Ready = append(b.Ready, namedOne(17, 8, "n")) }, false},
		"nobody of Ready":                          {func(b *impl.Base) { b.Ready = nil }, false},
		"two of Ready in another order":            {func(b *impl.Base) { b.Ready[0], b.Ready[1] = b.Ready[1], b.Ready[0] }, false},
		"one of Ready with another Id":             {func(b *impl.Base) { b.Ready[2].Id = 19 }, false},
		"one of Ready with another Name":           {func(b *impl.Base) { b.Ready[2].Name = "mn" }, false},
		"one of Ready with another Snap":           {func(b *impl.Base) { b.Ready[0].Snap = 5 }, false},
		"one of Ready with other Reads":            {func(b *impl.Base) { b.Ready[0].Reads = []impl.Range{{From: "r", To: "s"}} }, false},
		"one of Ready with other Writes":           {func(b *impl.Base) { b.Ready[1] = writing(b.Ready[1], "m", "n") }, false},
		"one of Ready not Out":                     {func(b *impl.Base) { b.Ready[1].Out = false }, false},
		"one of Ready Out":                         {func(b *impl.Base) { b.Ready[2].Out = true }, false},
		"one of Ready that is not right":           {func(b *impl.Base) { b.Ready[1].Name = "M" }, false},
		"Past and Ready the other way round":       {func(b *impl.Base) { b.Past, b.Ready = b.Ready, b.Past }, false},
		"one of Past in Ready":                     {func(b *impl.Base) { b.Past, b.Ready = b.Past[:2], append(b.Past[2:], b.Ready...) }, false},
		"a value that is seen at Cs":               {func(b *impl.Base) { b.Versions[2].Value = "other" }, false},
		"a value that is seen at Cs and is empty":  {func(b *impl.Base) { b.Versions[10].Value = "x" }, false},
		"what is seen at Cs is gone":               {func(b *impl.Base) { b.Versions[3] = goneVer("ab", 5) }, false},
		"what is gone at Cs is seen":               {func(b *impl.Base) { b.Versions[7] = ver("b", "", 9) }, false},
		"what is seen at Cs is not there":          {func(b *impl.Base) { b.Versions = b.Versions[:11] }, false},
		"one more key is seen at Cs":               {func(b *impl.Base) { b.Versions = append(b.Versions[:11], ver("zz", "", 9), b.Versions[11]) }, false},
		"a value that is not seen any more":        {func(b *impl.Base) { b.Versions[0].Value = "other" }, true},
		"a version that is not seen any more goes": {func(b *impl.Base) { b.Versions = b.Versions[1:] }, true},
		"one that is gone, and was":                {func(b *impl.Base) { b.Versions = append(b.Versions[:8], b.Versions[9:]...) }, true},
		"a version with another Cs below":          {func(b *impl.Base) { b.Versions[2].Cs = 6 }, true},
		"a version above Cs":                       {func(b *impl.Base) { b.Versions = append(b.Versions, ver("zzz", "more", 10)) }, false},
		"a version far above Cs":                   {func(b *impl.Base) { b.Versions = append(b.Versions, goneVer("zzz", 9999)) }, false},
		"a version above Cs that is as it was":     {func(b *impl.Base) { b.Versions = append(b.Versions, ver("zzz", "end", 10)) }, true},
		"one that is gone above Cs, and was": {func(b *impl.Base) {
			b.Versions = append(b.Versions[:9:9], b.Versions[8:]...)
			b.Versions[9] = goneVer("c", 12)
		}, true},
		"all that nobody sees from Cs on":               {func(b *impl.Base) { b.Versions = trimmedOf(b.Versions, 9) }, true},
		"a version of a key that is none, in no range":  {func(b *impl.Base) { b.Versions = append(b.Versions, ver("zzzz", "end", 9)) }, true},
		"versions in another order":                     {func(b *impl.Base) { slices.Reverse(b.Versions) }, true},
		"no versions at all":                            {func(b *impl.Base) { b.Versions = nil }, false},
		"Tidied, nobody open":                           {func(b *impl.Base) { *b = tidiedOf(*b, nil) }, false},
		"a version at Cs that was let through later on": {func(b *impl.Base) { b.Versions[11].Cs = 10 }, false},
	} {
		other := changedBase(some, c.change)
		checkAnswer(t, what, impl.LikeBase(some, other), c.want)
		checkAnswer(t, what+", the other way round", impl.LikeBase(other, some), c.want)
		checkAnswer(t, what+", by words", likeOf(some, other), c.want)
	}
}

// Two that are not right have no text, and are alike; one that is right is like none of them.
func TestLikeBaseOfWhatIsNotRight(t *testing.T) {
	wrong := slices.Collect(maps.Values(wrongTxns()))
	for i, x := range wrong {
		y := wrong[(i+1)%len(wrong)]
		for what, lists := range map[string]func(list ...impl.Txn) impl.Base{
			"Past":  func(list ...impl.Txn) impl.Base { return impl.Base{Past: list, Cs: 3} },
			"Ready": func(list ...impl.Txn) impl.Base { return impl.Base{Ready: list, Cs: 3} },
		} {
			checkAnswer(t, what+": two that are not right", impl.LikeBase(lists(x), lists(y)), true)
			checkAnswer(t, what+": one of them, twice", impl.LikeBase(lists(x), lists(x)), true)
			checkAnswer(t, what+": one more of them", impl.LikeBase(lists(x), lists(x, x)), false)
			checkAnswer(t, what+": one, and nobody", impl.LikeBase(lists(x), lists()), false)
			checkAnswer(t, what+": nobody, and one", impl.LikeBase(lists(), lists(x)), false)
			checkAnswer(t, what+": one that is right", impl.LikeBase(lists(x), lists(doneTxn())), false)
			checkAnswer(t, what+": ahead of one that is right", impl.LikeBase(lists(x, doneTxn()), lists(y, doneTxn())), true)
			checkAnswer(t, what+": in another order", impl.LikeBase(lists(x, doneTxn()), lists(doneTxn(), x)), false)
		}
	}
	// An empty list and nil are the same value.
	empty := impl.Base{Versions: []impl.Version{}, Past: []impl.Txn{}, Ready: []impl.Txn{}}
	checkAnswer(t, "nothing", impl.LikeBase(impl.Base{}, empty) && impl.LikeBase(empty, impl.BaseNew()), true)
	for what, x := range rightTxns() {
		y := x
		y.Reads, y.Writes = append([]impl.Range{}, x.Reads...), append([]impl.Write{}, x.Writes...)
		checkAnswer(t, what, impl.LikeBase(impl.Base{Past: []impl.Txn{x}, Ready: []impl.Txn{y}}, impl.Base{Past: []impl.Txn{y}, Ready: []impl.Txn{x}}), true)
	}
	for _, cs := range []int{math.MinInt, -1, 0, math.MaxInt} {
		a, b := impl.Base{Versions: []impl.Version{ver("a", "1", cs)}, Cs: cs}, impl.Base{Versions: []impl.Version{ver("a", "2", cs)}, Cs: cs}
		checkAnswer(t, fmt.Sprint("Cs ", cs), impl.LikeBase(a, a) && !impl.LikeBase(a, b), true)
	}
}

func TestLikeBaseOfEveryTwo(t *testing.T) {
	all := append(anyBases(), tangledBases()[:40]...)
	like := 0
	for i, a := range all {
		for _, b := range append(all[i:min(i+60, len(all))], tidiedOf(a, nil)) {
			want := likeOf(a, b)
			if want {
				like++
			}
			if impl.LikeBase(a, b) != want || impl.LikeBase(b, a) != want {
				t.Fatalf("LikeBase of %#v and %#v is not %v", a, b, want)
			}
		}
	}
	if like <= len(all) {
		t.Errorf("just %d are alike", like)
	}
}

func TestPlayLog(t *testing.T) {
	first, second := writing(pastOne(1, 0, 1), "a", "b"), reading(writing(pastOne(2, 0, 2), "b", "c"), "q")
	ready := reading(writing(namedOne(3, 1, "p"), "d"), "a")
	behind := func(b impl.Base, x impl.Txn) impl.Base { return tidiedOf(throughOf(b, x), nil) }
	one := behind(impl.BaseNew(), first)
	two := behind(one, second)
	with := madeReadyOf(two, ready, "p")
	for what, c := range map[string]struct {
		records []impl.Record
		want    impl.Base
	}{
		"no record":                     {nil, impl.Base{Next: 1}},
		"one":                           {[]impl.Record{throughRecord(first)}, one},
		"two":                           {[]impl.Record{throughRecord(first), throughRecord(second)}, two},
		"one that is made ready":        {[]impl.Record{throughRecord(first), throughRecord(second), readyRecord(ready)}, with},
		"one that is made ready, yes":   {[]impl.Record{throughRecord(first), throughRecord(second), readyRecord(ready), endRecord("p", true)}, behind(with, ready)},
		"one that is made ready, no":    {[]impl.Record{throughRecord(first), throughRecord(second), readyRecord(ready), endRecord("p", false)}, givenUpOf(with, "p")},
		"a name once more":              {[]impl.Record{throughRecord(first), throughRecord(second), readyRecord(ready), endRecord("p", false), readyRecord(ready)}, with},
		"a base alone":                  {[]impl.Record{baseRecord(someBase())}, tidiedOf(someBase(), nil)},
		"a base first":                  {[]impl.Record{baseRecord(one), throughRecord(second), readyRecord(ready)}, with},
		"a base later":                  {[]impl.Record{throughRecord(first), throughRecord(second), baseRecord(one), throughRecord(second)}, two},
		"a base last":                   {[]impl.Record{throughRecord(first), throughRecord(second), readyRecord(ready), baseRecord(someBase())}, tidiedOf(someBase(), nil)},
		"a base last, with less":        {[]impl.Record{throughRecord(first), throughRecord(second), baseRecord(impl.BaseNew())}, impl.BaseNew()},
		"two bases":                     {[]impl.Record{baseRecord(someBase()), baseRecord(two), readyRecord(ready)}, with},
		"a base, then one of its Ready": {[]impl.Record{baseRecord(someBase()), endRecord("m", true)}, behind(someBase(), someBase().Ready[1])},
		"a base of which much is left":  {[]impl.Record{baseRecord(baseOfSize(2900)), endRecord("rra", false)}, givenUpOf(baseOfSize(2900), "rra")},
		"very many":                     {slices.Repeat([]impl.Record{baseRecord(impl.BaseNew())}, 255), impl.BaseNew()},
	} {
		got, ok := checkPlayLog(t, what, logSaying(c.records...))
		checkAnswer(t, what+" is played", ok, true)
		checkBase(t, what, got, c.want)
	}
	checkPlayLog(t, "LogNew", impl.LogNew())
	for what, texts := range unplayableTexts() {
		got, ok := checkPlayLog(t, what, logWith(texts...))
		checkAnswer(t, what+" is played", ok, false)
		checkBase(t, what, got, impl.Base{})
		// What does not count is not looked at.
		counts := logOf(7, texts, []string{textOf(baseRecord(someBase()))})
		got, ok = checkPlayLog(t, what+" in the other area", counts)
		checkAnswer(t, what+" in the other area", ok && sameBase(got, tidiedOf(someBase(), nil)), true)
	}
}

// Of a disk that is no log just LogTexts are asked for: where there are none, a new base is what is played.
func TestPlayLogWithoutALog(t *testing.T) {
	got, ok := checkPlayLog(t, "nothing", impl.Disk{})
	checkAnswer(t, "nothing", ok && sameBase(got, impl.BaseNew()), true)
	got, ok = checkPlayLog(t, "an area that is not whole", areaLaid(logSaying(baseRecord(someBase())), 0, 2, recordBytes(textOf(baseRecord(someBase())))+"\x00"))
	checkAnswer(t, "an area that is not whole", ok && sameBase(got, impl.BaseNew()), true)
	got, ok = checkPlayLog(t, "another area that is not whole", areaLaid(logSaying(baseRecord(someBase())), 1, 1, "\x00"))
	checkAnswer(t, "another area that is not whole", ok && sameBase(got, tidiedOf(someBase(), nil)), true)
	waits := logSaying(baseRecord(someBase()))
	waits.Cache = []impl.Put{{At: 0, Text: full("\x01")}}
	_, ok = checkPlayLog(t, "a write that waits lets the other area count", waits)
	checkAnswer(t, "a write that waits lets the other area count", ok, false)
	waits.Cache = []impl.Put{{At: 1, Text: full("\x00")}}
	got, ok = checkPlayLog(t, "a write that waits has no records", waits)
	checkAnswer(t, "a write that waits has no records", ok && sameBase(got, impl.BaseNew()), true)
	for what, d := range wrongLogs() {
		checkPlayLog(t, what, d)
	}
}

func TestStoreOk(t *testing.T) {
	for what, e := range rightEngines() {
		if sizeOf(baseRecord(e.Base)) > 3008 {
			t.Fatalf("%s has no room in a log", what)
		}
		s := storeOf(e)
		checkAnswer(t, what, impl.StoreOk(s), true)
		checkAnswer(t, what+", tidied", impl.StoreOk(impl.Store{Engine: e, Disk: logSaying(baseRecord(tidiedOf(e.Base, nil)))}), true)
		s.Disk.Cache = []impl.Put{}
		checkAnswer(t, what+", an empty Cache", impl.StoreOk(s), true)
		s.Disk.Cache = []impl.Put{{At: 0, Text: s.Disk.Sectors[0]}}
		checkAnswer(t, what+", a write that waits and changes nothing", impl.StoreOk(s), false)
	}
	for what, e := range wrongEngines() {
		checkAnswer(t, what, impl.StoreOk(impl.Store{Engine: e, Disk: impl.LogNew()}), false)
		if impl.BaseOk(e.Base) {
			checkAnswer(t, what+", the log says the same", impl.StoreOk(storeOf(e)), false)
		}
	}
	for what, d := range wrongLogs() {
		checkAnswer(t, what, impl.StoreOk(impl.Store{Engine: impl.EngineNew(), Disk: d}), false)
	}
	// Nothing is like a new base, but what can't be played is none.
	for what, texts := range unplayableTexts() {
		checkAnswer(t, what, impl.StoreOk(impl.Store{Engine: impl.EngineNew(), Disk: logWith(texts...)}), false)
		checkAnswer(t, what+", some engine", impl.StoreOk(impl.Store{Engine: someEngine(), Disk: logWith(texts...)}), false)
	}
	checkAnswer(t, "nothing", impl.StoreOk(impl.Store{}), false)
}

// The log says more than the engine, or less, or something else.
func TestStoreOkHoldsTheLogAgainstTheEngine(t *testing.T) {
	e := someEngine()
	said := func(more ...impl.Record) impl.Disk {
		return logSaying(append([]impl.Record{baseRecord(e.Base)}, more...)...)
	}
	changed := func(change func(b *impl.Base)) impl.Disk { return logSaying(baseRecord(changedBase(e.Base, change))) }
	for what, c := range map[string]struct {
		d    impl.Disk
		want bool
	}{
		"the same":                      {said(), true},
		"one more let through":          {said(throughRecord(pastOne(17, 9, 10))), false},
		"one of Ready let through":      {said(endRecord("m", true)), false},
		"one of Ready given up":         {said(endRecord("m", false)), false},
		"one more made ready":           {said(endRecord("m", false), readyRecord(namedOne(17, 9, "k"))), false},
		"given up, and made ready":      {said(endRecord("c", false), readyRecord(e.Base.Ready[0])), true},
		"no record":                     {logSaying(), false},
		"a base that has less":          {logSaying(baseRecord(impl.BaseNew())), false},
		"a base that has less, then it": {logSaying(baseRecord(impl.BaseNew()), baseRecord(e.Base)), true},
		"it, then a base with less":     {said(baseRecord(impl.BaseNew())), false},
		"one of Ready less":             {changed(func(b *impl.Base) { b.Ready = b.Ready[:2] }), false},
		"one of Ready, not Out":         {changed(func(b *impl.Base) { b.Ready[1].Out = false }), false},
		"one of Ready with an Id":       {changed(func(b *impl.Base) { b.Ready[1].Id = 10 }), false},
		"Cs one less":                   {changed(func(b *impl.Base) { b.Cs, b.Versions, b.Past, b.Ready = 8, b.Versions[:7], b.Past[:2], b.Ready[:2] }), false},
		"Cs one more":                   {changed(func(b *impl.Base) { b.Cs = 10 }), false},
		"another value at Cs":           {changed(func(b *impl.Base) { b.Versions[2].Value = "A7" }), false},
		"another value below Cs":        {changed(func(b *impl.Base) { b.Versions[1].Value = "A4" }), true},
		"one of Past less":              {changed(func(b *impl.Base) { b.Past = b.Past[1:] }), true},
		"another Next":                  {changed(func(b *impl.Base) { b.Next = 400 }), true},
		"the least Next":                {changed(func(b *impl.Base) { b.Next = 17 }), true},
	} {
		s := impl.Store{Engine: e, Disk: c.d}
		checkAnswer(t, what, impl.StoreOk(s), c.want)
		checkAnswer(t, what+", by words", storeRight(s), c.want)
		// Who is open is not written down.
		s.Engine = impl.Engine{Base: e.Base}
		checkAnswer(t, what+", nobody open", impl.StoreOk(s), c.want)
		// What counts is looked at, and nothing else.
		texts, _, _ := impl.ReadArea(c.d, 0)
		s.Disk = logOf(3, []string{"x"}, texts)
		checkAnswer(t, what+", in the other area", impl.StoreOk(s), c.want)
	}
}

// keptRecords are right ones of each kind, of several lengths.
func keptRecords() []impl.Record {
	long := changed(fullTxn(17), func(x *impl.Txn) { x.State, x.Cs = 3, 9501 })
	return append(plainRecords(), endRecord("c", true), endRecord("rra", false), throughRecord(pastOne(17, 9, 10)), throughRecord(long), readyRecord(changed(fullTxn(17), func(x *impl.Txn) { x.State, x.Name = 2, "k" })), baseRecord(impl.BaseNew()))
}

// A record goes in as long as there is room for it; with a byte less it stands behind what was played alone, in the other area.
func TestKeepRecord(t *testing.T) {
	e := someEngine()
	for i, r := range keptRecords() {
		need := sizeOf(r)
		for _, left := range []int{0, 1, need - 2, need - 1, need, need + 1, need + 60} {
			what := fmt.Sprint("record ", i, " of ", need, " with room for ", left)
			s := impl.Store{Engine: e, Disk: logWithRoom(e.Base, left)}
			was := impl.LogTexts(s.Disk)
			got, ok := checkKeep(t, what, s, r)
			checkAnswer(t, what, ok, true)
			want := append(was, textOf(r))
			if left < need {
				want = []string{textOf(baseRecord(tidiedOf(e.Base, nil))), textOf(r)}
			}
			checkAnswer(t, what+": the texts", slices.Equal(impl.LogTexts(got.Disk), want), true)
			checkAnswer(t, what+": it is switched", impl.ActiveOf(got.Disk) == 1, left < need)
			checkEngine(t, what, got.Engine, e)
			checkAnswer(t, what+": a log", impl.LogOk(got.Disk), true)
		}
	}
	for i, r := range keptRecords() {
		got, ok := checkKeep(t, "the first one", impl.StoreNew(), r)
		checkAnswer(t, fmt.Sprint("the first one, ", i), ok && slices.Equal(impl.LogTexts(got.Disk), []string{textOf(r)}), true)
	}
}

// A record may go in only when the log is switched, and not even then: at each of the two limits it does, and one byte past it does not.
func TestKeepRecordWhereThereIsNoRoomEvenThen(t *testing.T) {
	ahead := baseRecord(impl.BaseNew())
	for i, r := range keptRecords() {
		need := sizeOf(r)
		for _, size := range []int{3008 - need - sizeOf(ahead) - 1, 3008 - need - sizeOf(ahead), 3008 - need - sizeOf(ahead) + 1, 3008 - need - 1, 3008 - need, 3008 - need + 1, 2997} {
			if size > 2997 {
				continue
			}
			what := fmt.Sprint("record ", i, " of ", need, " behind ", size)
			b := baseOfSize(size)
			s := impl.Store{Engine: impl.EngineNew(), Disk: logSaying(ahead, baseRecord(b))}
			got, ok := checkKeep(t, what, s, r)
			checkAnswer(t, what, ok, size+need <= 3008)
			switched := ok && size+need+sizeOf(ahead) > 3008
			checkAnswer(t, what+": it is switched", impl.ActiveOf(got.Disk) == 1, switched)
			if switched {
				checkAnswer(t, what+": the texts", slices.Equal(impl.LogTexts(got.Disk), []string{textOf(baseRecord(b)), textOf(r)}), true)
			}
			if !ok {
				checkStore(t, what+": as it is", got, s)
			}
		}
		// What is played alone fills an area to its last byte, and goes in.
		full := impl.Store{Engine: someEngine(), Disk: logSaying(baseRecord(baseOfSize(3008)))}
		got, ok := checkKeep(t, "full", full, r)
		checkAnswer(t, "full", ok, false)
		checkStore(t, "full", got, full)
	}
	// A base that has no room in any log is a right record, too.
	great := baseRecord(greatestBase())
	_, ok := checkKeep(t, "the greatest base", impl.StoreNew(), great)
	checkAnswer(t, "the greatest base", ok, false)
}

// With 255 records there is no room, however short they are.
func TestKeepRecordOfTheCount(t *testing.T) {
	short := baseRecord(impl.BaseNew())
	for _, r := range keptRecords() {
		if sizeOf(r) > 180 {
			continue
		}
		for _, n := range []int{253, 254, 255} {
			s := impl.Store{Engine: someEngine(), Disk: logSaying(slices.Repeat([]impl.Record{short}, n)...)}
			got, ok := checkKeep(t, fmt.Sprint(n), s, r)
			checkAnswer(t, fmt.Sprint(n, " records"), ok && impl.LogOk(got.Disk), true)
			want := n + 1
			if n == 255 {
				want = 2
			}
			if texts := impl.LogTexts(got.Disk); len(texts) != want || texts[want-1] != textOf(r) {
				t.Errorf("%d records, and one more, are %d", n, len(texts))
			}
		}
	}
}

// The record is not asked for what it says, nor the engine; a log that can't be played is not switched.
func TestKeepRecordAsksForNothingElse(t *testing.T) {
	for _, r := range keptRecords() {
		for what, e := range map[string]impl.Engine{"nothing": {}, "new": impl.EngineNew(), "some": someEngine(), "tangled": tangledEngines()[3]} {
			_, ok := checkKeep(t, what, impl.Store{Engine: e, Disk: impl.LogNew()}, r)
			checkAnswer(t, what, ok, true)
		}
		for what, texts := range unplayableTexts() {
			s := impl.Store{Engine: someEngine(), Disk: logWith(texts...)}
			got, ok := checkKeep(t, what, s, r)
			room := len(texts) < 255 && len(allRecords(texts))+sizeOf(r) <= 3008
			checkAnswer(t, what, ok, room)
			if !ok {
				checkStore(t, what, got, s)
			}
		}
		for what, d := range wrongLogs() {
			s := impl.Store{Engine: someEngine(), Disk: d}
			got, ok := checkKeep(t, what, s, r)
			checkAnswer(t, what, ok, false)
			checkStore(t, what, got, s)
		}
		for what, d := range unkeeping() {
			_, ok := checkKeep(t, what, impl.Store{Engine: someEngine(), Disk: d}, r)
			checkAnswer(t, what, ok, false)
		}
	}
	disks := []impl.Disk{impl.LogNew(), logWithRoom(someBase(), 5), logSaying(baseRecord(baseOfSize(3008))), {}, logWith(ones(255)...)}
	for what, r := range wrongRecords() {
		for _, d := range disks {
			s := impl.Store{Engine: impl.EngineNew(), Disk: d}
			got, ok := impl.KeepRecord(s, r)
			checkAnswer(t, what, ok, false)
			checkStore(t, what, got, s)
		}
	}
}

func TestStoreCommit(t *testing.T) {
	s := storeOf(judgedOne(8, "a f", "e"))
	s.Engine.Open = append(s.Engine.Open, openAt(18, 7))
	got, code := checkStoreCommit(t, "StoreCommit", s, 17)
	checkCode(t, "StoreCommit", code, 0)
	e, r, _ := impl.Commit(s.Engine, 17)
	checkEngine(t, "StoreCommit", got.Engine, e)
	checkAnswer(t, "the log", slices.Equal(impl.LogTexts(got.Disk), []string{textOf(baseRecord(someBase())), textOf(r)}), true)
	checkAnswer(t, "right, both", impl.StoreOk(s) && impl.StoreOk(got), true)
	again, code := checkStoreCommit(t, "again", got, 17)
	checkCode(t, "again", code, 1)
	checkStore(t, "again", again, got)
	// One that writes nothing has a number, and is written down, too.
	more, code := checkStoreCommit(t, "who writes nothing", got, 18)
	checkCode(t, "who writes nothing", code, 0)
	checkAnswer(t, "who writes nothing", len(impl.LogTexts(more.Disk)) == 3 && impl.StoreOk(more) && more.Engine.Base.Cs == 11, true)
}

func TestStorePrepareAndFinish(t *testing.T) {
	s := storeOf(impl.Engine{Base: impl.GivenUp(someBase(), "m"), Open: []impl.Txn{reading(writing(openAt(17, 6), "e"), "f"), openAt(18, 8)}})
	ready, code := checkStorePrepare(t, "StorePrepare", s, 17, "d")
	checkCode(t, "StorePrepare", code, 0)
	e, r, _ := impl.Prepare(s.Engine, 17, "d")
	checkEngine(t, "StorePrepare", ready.Engine, e)
	said := append(impl.LogTexts(s.Disk), textOf(r))
	checkAnswer(t, "the log", slices.Equal(impl.LogTexts(ready.Disk), said) && impl.StoreOk(ready), true)
	checkAnswer(t, "who is in doubt", slices.Equal(impl.InDoubt(ready), []string{"c", "d", "mm"}), true)
	for _, yes := range []bool{true, false} {
		got, code := checkStoreFinish(t, "StoreFinish", ready, "d", yes)
		checkCode(t, "StoreFinish", code, 0)
		e, _, _ := impl.Finish(ready.Engine, "d", yes)
		checkEngine(t, "StoreFinish", got.Engine, e)
		checkAnswer(t, "the log", slices.Equal(impl.LogTexts(got.Disk), append(said, textOf(endRecord("d", yes)))) && impl.StoreOk(got), true)
		checkAnswer(t, "who is in doubt then", slices.Equal(impl.InDoubt(got), []string{"c", "mm"}), true)
		_, there := impl.SeenAt(got.Engine.Base.Versions, "e", 10)
		checkAnswer(t, "what it wrote is seen", there, yes)
		again, code := checkStoreFinish(t, "again", got, "d", yes)
		checkCode(t, "again", code, 1)
		checkStore(t, "again", again, got)
	}
}

// refusedCommits are stores, who is to be let through in each, and why that can't be.
func refusedCommits() map[string]struct {
	e    impl.Engine
	id   int
	want int
} {
	return map[string]struct {
		e    impl.Engine
		id   int
		want int
	}{
		"not there":             {someEngine(), 20, 1},
		"one of Past":           {someEngine(), 11, 1},
		"one of Ready":          {someEngine(), 15, 1},
		"no Id":                 {someEngine(), 0, 1},
		"nobody open":           {impl.EngineNew(), 1, 1},
		"what another wrote":    {judgedOne(6, "f", "a e"), 17, 4},
		"what one ready writes": {judgedOne(9, "", "m"), 17, 4},
		"no order":              {judgedOne(6, "a", "q"), 17, 5},
		"reads Out":             {judgedOne(9, "m", ""), 17, 5},
		"MaxPast of Past":       {roomFor(12, 0, 20), 300, 3},
		"101 Versions":          {roomFor(0, 101, 20), 300, 3},
		"Cs is MaxCs":           {roomFor(0, 0, 9999), 300, 3},
	}
}

// refusedPrepares likewise, but for those that refusedCommits has; stays tells whether it stays open.
func refusedPrepares() map[string]struct {
	e     impl.Engine
	id    int
	name  string
	want  int
	stays bool
} {
	room := changedEngine(someEngine(), func(e *impl.Engine) { e.Base = impl.GivenUp(e.Base, "c") })
	chain := impl.Base{Ready: []impl.Txn{writing(namedOne(200, 0, "p"), "a"), reading(namedOne(201, 0, "q"), "b")}, Next: 400}
	return map[string]struct {
		e     impl.Engine
		id    int
		name  string
		want  int
		stays bool
	}{
		"not there":                   {room, 20, "k", 1, true},
		"not there, no key":           {room, 20, "K", 1, true},
		"no key":                      {room, 17, "K", 2, true},
		"an empty name":               {room, 17, "", 2, true},
		"a name that one has":         {room, 17, "mm", 6, true},
		"a name, and what it may not": {judgedOne(6, "", "a"), 17, "m", 6, true},
		"what another wrote":          {judgedOne(6, "", "a"), 17, "k", 4, false},
		"no order":                    {judgedOne(6, "d", ""), 17, "k", 5, false},
		"may be let through alone":    {impl.Engine{Base: chain, Open: []impl.Txn{reading(writing(openAt(300, 0), "b"), "a")}}, 300, "k", 5, false},
		"three are ready":             {someEngine(), 18, "k", 3, false},
		"MaxPast of Past":             {roomFor(12, 0, 20), 300, "k", 3, false},
		"101 Versions":                {roomFor(0, 101, 20), 300, "k", 3, false},
		"Cs is MaxCs":                 {roomFor(0, 0, 9999), 300, "k", 3, false},
	}
}

// With a code the disk is as it was, whatever it is, and the engine is as Commit, Prepare or Finish leave it; each of them is beside a log that has room,
// one that has none, and others.
func TestStoresRefuse(t *testing.T) {
	disks := unkeeping()
	disks["a log that has room"] = impl.LogNew()
	disks["a log that is to be switched"] = logWithRoom(someBase(), 2)
	for _, d := range disks {
		for what, c := range refusedCommits() {
			s := impl.Store{Engine: c.e, Disk: d}
			got, code := checkStoreCommit(t, what, s, c.id)
			checkCode(t, what, code, c.want)
			want, _, _ := impl.Commit(c.e, c.id)
			checkStore(t, what, got, impl.Store{Engine: want, Disk: d})
			checkAnswer(t, what+": as it is", sameStore(got, s), c.want == 1)
		}
		for what, c := range refusedPrepares() {
			s := impl.Store{Engine: c.e, Disk: d}
			got, code := checkStorePrepare(t, what, s, c.id, c.name)
			checkCode(t, what, code, c.want)
			want, _, _ := impl.Prepare(c.e, c.id, c.name)
			checkStore(t, what, got, impl.Store{Engine: want, Disk: d})
			checkAnswer(t, what+": as it is", sameStore(got, s), c.stays)
		}
		for _, name := range append(wrongKeys(), "k", "cc") {
			for _, yes := range []bool{true, false} {
				s := impl.Store{Engine: someEngine(), Disk: d}
				got, code := checkStoreFinish(t, "nobody", s, name, yes)
				checkCode(t, "nobody", code, 1)
				checkStore(t, "nobody", got, s)
			}
		}
		for _, e := range []impl.Engine{roomFor(12, 0, 20), roomFor(0, 101, 20), roomFor(0, 0, 9999)} {
			s := impl.Store{Engine: e, Disk: d}
			got, code := checkStoreFinish(t, "no room", s, "r", true)
			checkCode(t, "no room", code, 3)
			checkStore(t, "no room", got, s)
		}
	}
}

// Who can't be written down is not let through, nor made ready: it leaves, with CodeFull. Who is in doubt stays in doubt.
func TestStoresThatKeepNothing(t *testing.T) {
	for what, d := range unkeeping() {
		for _, e := range []impl.Engine{judgedOne(9, "", ""), judgedOne(6, "f g", "e"), judgedOne(8, "b", "e"), roomFor(11, 100, 9998)} {
			e = changedEngine(e, func(e *impl.Engine) { e.Base = impl.GivenUp(e.Base, "c") })
			for _, others := range [][]impl.Txn{nil, {openAt(398, 0)}, {openAt(398, 8), openAt(399, 9)}} {
				e.Open = append(e.Open[:1:1], others...)
				e.Base.Next = 400
				s, id := impl.Store{Engine: e, Disk: d}, e.Open[0].Id
				left, _ := impl.Leave(e, id)
				want := impl.Store{Engine: left, Disk: d}
				got, code := checkStoreCommit(t, what, s, id)
				checkCode(t, what+": StoreCommit", code, 3)
				checkStore(t, what+": StoreCommit", got, want)
				got, code = checkStorePrepare(t, what, s, id, "k")
				checkCode(t, what+": StorePrepare", code, 3)
				checkStore(t, what+": StorePrepare", got, want)
				checkAnswer(t, what+": nothing is seen of it", impl.OpenAt(got.Engine, id) < 0 && got.Engine.Base.Cs == e.Base.Cs && impl.ReadyAt(got.Engine.Base, "k") < 0, true)
				for _, name := range impl.InDoubt(s) {
					for _, yes := range []bool{true, false} {
						got, code = checkStoreFinish(t, what, s, name, yes)
						checkCode(t, what+": StoreFinish", code, 3)
						checkStore(t, what+": StoreFinish", got, s)
					}
				}
			}
		}
	}
}

// A right store, too, may have no room for who is given up: that one stays in doubt, until there is.
func TestStoreFinishWhereThereIsNoRoom(t *testing.T) {
	need := sizeOf(endRecord("rrb", false))
	for size := 3008 - need - 2; size <= 3008; size++ {
		s := storeOf(impl.Engine{Base: baseOfSize(size)})
		checkAnswer(t, "right", impl.StoreOk(s), true)
		got, code := checkStoreFinish(t, fmt.Sprint(size), s, "rrb", false)
		checkAnswer(t, fmt.Sprint("room behind ", size), code == 0, size+need <= 3008)
		checkAnswer(t, fmt.Sprint("right behind ", size), impl.StoreOk(got), true)
		if code != 0 {
			checkCode(t, fmt.Sprint(size), code, 3)
			checkStore(t, fmt.Sprint(size), got, s)
			checkAnswer(t, "in doubt", slices.Equal(impl.InDoubt(got), []string{"rra", "rrb", "rrc"}), true)
		}
	}
}

// Where there is room only in a log that is switched, whoever ends is written down behind what is played, and the store is right.
func TestStoresThatSwitchTheirLog(t *testing.T) {
	e := judgedOne(6, "f g", "e")
	e.Base = impl.GivenUp(e.Base, "c")
	e.Open = append(e.Open, openAt(18, 7))
	_, through, _ := impl.Commit(e, 17)
	_, ready, _ := impl.Prepare(e, 17, "k")
	first := textOf(baseRecord(tidiedOf(e.Base, nil)))
	for what, c := range map[string]struct {
		r  impl.Record
		do func(s impl.Store) (impl.Store, int)
	}{
		"StoreCommit":  {through, func(s impl.Store) (impl.Store, int) { return checkStoreCommit(t, "switched", s, 17) }},
		"StorePrepare": {ready, func(s impl.Store) (impl.Store, int) { return checkStorePrepare(t, "switched", s, 17, "k") }},
		"yes":          {endRecord("m", true), func(s impl.Store) (impl.Store, int) { return checkStoreFinish(t, "switched", s, "m", true) }},
		"no":           {endRecord("m", false), func(s impl.Store) (impl.Store, int) { return checkStoreFinish(t, "switched", s, "m", false) }},
	} {
		for left := range sizeOf(c.r) + 3 {
			s := impl.Store{Engine: e, Disk: logWithRoom(e.Base, left)}
			checkAnswer(t, "right", impl.StoreOk(s), true)
			got, code := c.do(s)
			checkCode(t, what, code, 0)
			checkAnswer(t, what+": right", impl.StoreOk(got), true)
			want := append(impl.LogTexts(s.Disk), textOf(c.r))
			if left < sizeOf(c.r) {
				want = []string{first, textOf(c.r)}
			}
			checkAnswer(t, fmt.Sprint(what, ", the texts, with room for ", left), slices.Equal(impl.LogTexts(got.Disk), want), true)
		}
	}
}

func TestFixStore(t *testing.T) {
	records := []impl.Record{throughRecord(writing(pastOne(1, 0, 1), "a")), throughRecord(writing(pastOne(2, 1, 2), "a", "b")), readyRecord(reading(namedOne(3, 2, "p"), "a"))}
	for what, c := range map[string]struct {
		d    impl.Disk
		want impl.Base
	}{
		"no record":         {impl.LogNew(), impl.BaseNew()},
		"one":               {logSaying(records[0]), impl.Base{Versions: []impl.Version{ver("a", "A", 1)}, Cs: 1, Next: 2}},
		"many":              {logSaying(records...), impl.Base{Versions: []impl.Version{ver("a", "A", 2), ver("b", "B", 2)}, Ready: []impl.Txn{reading(namedOne(3, 2, "p"), "a")}, Cs: 2, Next: 4}},
		"255":               {logSaying(slices.Repeat([]impl.Record{baseRecord(impl.BaseNew())}, 255)...), impl.BaseNew()},
		"a base that stays": {logSaying(baseRecord(tidiedOf(someBase(), nil))), tidiedOf(someBase(), nil)},
		"a base to be tidied, filled to the last byte": {logWithRoom(someBase(), 0), tidiedOf(someBase(), nil)},
		"a base that fills an area":                    {logSaying(baseRecord(baseOfSize(3008))), baseOfSize(3008)},
		"the first byte 255":                           {logOf(255, []string{"other"}, []string{textOf(records[0])}), impl.Base{Versions: []impl.Version{ver("a", "A", 1)}, Cs: 1, Next: 2}},
	} {
		s := impl.Store{Engine: someEngine(), Disk: c.d}
		got, ok := checkFix(t, what, s)
		checkAnswer(t, what, ok, true)
		checkAnswer(t, what+": the texts", slices.Equal(impl.LogTexts(got.Disk), []string{textOf(baseRecord(c.want))}), true)
		checkAnswer(t, what+": the other area counts", impl.ActiveOf(got.Disk) == 1-impl.ActiveOf(c.d) && impl.LogOk(got.Disk), true)
		checkEngine(t, what, got.Engine, s.Engine)
		again, ok := checkFix(t, what+", once more", got)
		checkAnswer(t, what+", once more", ok && slices.Equal(impl.LogTexts(again.Disk), impl.LogTexts(got.Disk)), true)
	}
	for what, e := range rightEngines() {
		got, ok := checkFix(t, what, storeOf(e))
		checkAnswer(t, what, ok && impl.StoreOk(got), true)
	}
}

// What can't be played, or is no log, is left as it is.
func TestFixStoreRefuses(t *testing.T) {
	disks := wrongLogs()
	for what, texts := range unplayableTexts() {
		disks["log: "+what] = logWith(texts...)
	}
	for what, d := range disks {
		for _, e := range []impl.Engine{impl.EngineNew(), someEngine(), {}} {
			s := impl.Store{Engine: e, Disk: d}
			got, ok := checkFix(t, what, s)
			checkAnswer(t, what, ok, false)
			checkStore(t, what, got, s)
		}
	}
}

func TestRiseStore(t *testing.T) {
	got, ok := checkRise(t, "LogNew", impl.LogNew())
	checkAnswer(t, "LogNew", ok, true)
	checkStore(t, "LogNew", got, impl.StoreNew())
	for what, e := range rightEngines() {
		s := storeOf(e)
		got, ok := checkRise(t, what, s.Disk)
		checkAnswer(t, what, ok && impl.StoreOk(got), true)
		checkStore(t, what, got, impl.Store{Engine: impl.Engine{Base: tidiedOf(e.Base, nil)}, Disk: s.Disk})
		checkAnswer(t, what+": as it was", impl.LikeBase(got.Engine.Base, impl.Tidied(e.Base, nil)), true)
	}
	for what, d := range wrongLogs() {
		got, ok := checkRise(t, what, d)
		checkAnswer(t, what, ok, false)
		checkStore(t, what, got, impl.Store{})
	}
	for what, d := range map[string]impl.Disk{
		"a log whose other area is no one": areaLaid(logSaying(baseRecord(someBase())), 1, 1, "\x00"),
		"a write that waits":               {Sectors: logSaying(baseRecord(someBase())).Sectors, Cache: []impl.Put{{At: 96, Text: full("x")}}},
	} {
		_, played := checkPlayLog(t, what, d)
		got, ok := checkRise(t, what, d)
		checkAnswer(t, what, played && !ok, true)
		checkStore(t, what, got, impl.Store{})
	}
	for what, texts := range unplayableTexts() {
		got, ok := checkRise(t, what, logWith(texts...))
		checkAnswer(t, what, ok, false)
		checkStore(t, what, got, impl.Store{})
		got, ok = checkRise(t, what+" in the other area", logOf(1, texts, nil))
		checkAnswer(t, what+" in the other area", ok && sameEngine(got.Engine, impl.EngineNew()), true)
	}
}

func TestInDoubt(t *testing.T) {
	for n := range 4 {
		s := storeOf(impl.Engine{Base: impl.Base{Ready: readyOf(n), Next: 201}})
		if got := impl.InDoubt(s); !slices.Equal(got, letters(n)) {
			t.Errorf("InDoubt of %d is %q", n, got)
		}
	}
	if got := impl.InDoubt(storeOf(someEngine())); !slices.Equal(got, []string{"c", "m", "mm"}) {
		t.Errorf("InDoubt is %q", got)
	}
	// They are told as they stand there, whatever they are; those that are open, or were let through, are not asked.
	odd := impl.Base{Past: []impl.Txn{namedOne(1, 0, "past")}, Ready: []impl.Txn{namedOne(7, 0, "z"), {}, openAt(2, 3), namedOne(7, 0, "z"), pastOne(1, 2, 3), namedOne(-1, 0, "not a key")}}
	s := impl.Store{Engine: impl.Engine{Base: odd, Open: []impl.Txn{namedOne(9, 0, "open")}}, Disk: logSaying(baseRecord(someBase()))}
	if got := impl.InDoubt(s); !slices.Equal(got, []string{"z", "", "", "z", "", "not a key"}) {
		t.Errorf("InDoubt is %q", got)
	}
}

// A store that several use for a while comes up again from its disk: what was answered as let through is seen, who was made ready is in doubt, nobody is open.
func TestStoreComesUpAgain(t *testing.T) {
	s := impl.StoreNew()
	ids := make([]int, 4)
	for i := range ids {
		s.Engine, ids[i] = open(t, s.Engine)
	}
	s.Engine = does(t, s.Engine, ids[0], "a", "x y")
	s.Engine = does(t, s.Engine, ids[1], "b", "z")
	s.Engine = does(t, s.Engine, ids[2], "", "x")
	s.Engine = does(t, s.Engine, ids[3], "", "w")
	code := 0
	for i, want := range []int{0, 0, 4} {
		if i == 1 {
			s, code = checkStorePrepare(t, "the second", s, ids[1], "p")
		} else {
			s, code = checkStoreCommit(t, "one of them", s, ids[i])
		}
		checkCode(t, "one of them", code, want)
		checkAnswer(t, "right", impl.StoreOk(s), true)
	}
	risen, ok := checkRise(t, "it", s.Disk)
	checkAnswer(t, "it comes up", ok && impl.StoreOk(risen) && len(risen.Engine.Open) == 0 && slices.Equal(impl.InDoubt(risen), []string{"p"}), true)
	checkScan(t, risen.Engine.Base.Versions, everyKey, 1, []impl.Pair{pair("x", "by1"), pair("y", "by1")})
	// The one that was open is not known any more; the one in doubt still bars what it writes, and may be let through.
	lost, code := checkStoreCommit(t, "who was open", risen, ids[3])
	checkCode(t, "who was open", code, 1)
	checkStore(t, "who was open", lost, risen)
	var late int
	risen.Engine, late = open(t, risen.Engine)
	risen.Engine = does(t, risen.Engine, late, "y", "z")
	barred, code := checkStoreCommit(t, "who writes what is in doubt", risen, late)
	checkCode(t, "who writes what is in doubt", code, 4)
	for _, yes := range []bool{true, false} {
		ended, code := checkStoreFinish(t, "who was in doubt", barred, "p", yes)
		checkCode(t, "who was in doubt", code, 0)
		again, ok := checkRise(t, "it, again", ended.Disk)
		checkAnswer(t, "it comes up again", ok && impl.StoreOk(again) && len(impl.InDoubt(again)) == 0, true)
		value, there := impl.SeenAt(again.Engine.Base.Versions, "z", again.Engine.Base.Cs)
		checkAnswer(t, "what it wrote is seen", there && value == "by2", yes)
	}
	// What was not kept is not there: the disk that was ahead of an answer comes up as it was then.
	before, ok := checkRise(t, "what was ahead of it", barred.Disk)
	checkAnswer(t, "what was ahead of it", ok && impl.LikeBase(before.Engine.Base, impl.Tidied(barred.Engine.Base, nil)), true)
}

// used is a drawn life of a store: what was answered as let through, each key with its value, and what those in doubt are to write.
type used struct {
	draw  drawn
	store impl.Store
	keys  []string
	value string
	seen  map[string]string
	doubt map[string][]impl.Write
	codes map[int]int
}

func (u *used) letThrough(writes []impl.Write) {
	for _, w := range writes {
		u.seen[w.Key] = w.Value
		if w.Gone {
			delete(u.seen, w.Key)
		}
	}
}

// end lets one that is open be let through, or made ready, and takes in what was answered.
func (u *used) end(t *testing.T, x impl.Txn, name string, ready bool) {
	t.Helper()
	var code int
	if ready {
		u.store, code = checkStorePrepare(t, "a drawn life", u.store, x.Id, name)
	} else {
		u.store, code = checkStoreCommit(t, "a drawn life", u.store, x.Id)
	}
	u.codes[code]++
	if code == 0 && ready {
		u.doubt[name] = x.Writes
	} else if code == 0 {
		u.letThrough(x.Writes)
	}
}

func (u *used) finish(t *testing.T, name string, yes bool) {
	t.Helper()
	var code int
	u.store, code = checkStoreFinish(t, "a drawn life", u.store, name, yes)
	u.codes[code]++
	if code == 0 && yes {
		u.letThrough(u.doubt[name])
	}
	if code == 0 {
		delete(u.doubt, name)
	}
}

// step does one thing, with somebody who is open, or in doubt; now and then with one who is neither.
func (u *used) step(t *testing.T) {
	t.Helper()
	x := impl.Txn{Id: u.draw.below(u.store.Engine.Base.Next + 1)}
	if n := len(u.store.Engine.Open); n > 0 {
		x = u.store.Engine.Open[u.draw.below(n)]
	}
	key, name := u.keys[u.draw.below(len(u.keys))], letters(4)[u.draw.below(4)]
	switch kind := u.draw.below(32); {
	case kind < 7:
		u.store.Engine, _, _ = impl.Begin(u.store.Engine)
	case kind < 10:
		u.store.Engine, _, _, _ = impl.GetKey(u.store.Engine, x.Id, key)
	case kind < 11:
		u.store.Engine, _, _ = impl.ScanKeys(u.store.Engine, x.Id, impl.Range{From: key, To: "zzz"})
	case kind < 18:
		u.store.Engine, _ = impl.PutKey(u.store.Engine, x.Id, put(key, u.value+impl.Decimal(u.draw.below(100))))
	case kind < 19:
		u.store.Engine, _ = impl.PutKey(u.store.Engine, x.Id, gone(key))
	case kind < 20:
		u.store.Engine, _ = impl.Leave(u.store.Engine, x.Id)
	case kind < 25:
		u.end(t, x, "", false)
	case kind < 28:
		u.end(t, x, name, true)
	case kind < 30:
		u.finish(t, name, u.draw.below(3) > 0)
	case kind < 31 && u.draw.below(4) == 0:
		u.store, _ = checkFix(t, "a drawn life", u.store)
	case u.draw.below(6) == 0:
		// It falls, and comes up again: who was open is not known any more.
		u.store, _ = checkRise(t, "a drawn life", u.store.Disk)
	}
}

// check tells whether the store is right, and comes up again with what was answered.
func (u *used) check(t *testing.T) {
	t.Helper()
	if !impl.StoreOk(u.store) {
		t.Fatalf("a store that is not right: %#v", u.store.Engine)
	}
	risen, ok := impl.RiseStore(u.store.Disk)
	if !ok || len(risen.Engine.Open) > 0 || !impl.StoreOk(risen) || !sameDisk(risen.Disk, u.store.Disk) {
		t.Fatal("it does not come up again")
	}
	if !likeOf(risen.Engine.Base, tidiedOf(u.store.Engine.Base, nil)) {
		t.Fatalf("it does not come up as it was: %#v; want %#v", risen.Engine.Base, u.store.Engine.Base)
	}
	var want []impl.Pair
	for _, key := range slices.Sorted(maps.Keys(u.seen)) {
		want = append(want, pair(key, u.seen[key]))
	}
	if got := impl.ScanAt(risen.Engine.Base.Versions, everyKey, risen.Engine.Base.Cs); !slices.Equal(got, want) {
		t.Fatalf("%#v is seen; want %#v", got, want)
	}
	names := slices.Sorted(maps.Keys(u.doubt))
	if got := impl.InDoubt(risen); !slices.Equal(got, names) || !slices.Equal(impl.InDoubt(u.store), names) {
		t.Fatalf("%q are in doubt; want %q", got, names)
	}
	for i, name := range names {
		if !slices.Equal(risen.Engine.Base.Ready[i].Writes, u.doubt[name]) {
			t.Fatalf("%q is to write %#v; want %#v", name, risen.Engine.Base.Ready[i].Writes, u.doubt[name])
		}
		if _, code := impl.StoreFinish(risen, name, true); code != 0 && code != 3 {
			t.Fatalf("%q may not be let through any more: %d", name, code)
		}
	}
}

// Promise 12: in drawn lives of few keys and of many, with short values and long ones, a store comes up again as it was at every step, and answers what it kept.
func TestStoresComeUpAgain(t *testing.T) {
	codes, switches := map[int]int{}, 0
	for seed := range 90 {
		u := &used{draw: drawn(seed * 104729), store: impl.StoreNew(), seen: map[string]string{}, doubt: map[string][]impl.Write{}, codes: codes}
		u.keys, u.value = letters(2+seed%5), "v"
		if seed%3 == 0 {
			for _, v := range keysOf(110) {
				u.keys = append(u.keys, v.Key)
			}
			u.value = strings.Repeat("\xff", 10)
		}
		for at := range 240 {
			was := impl.ActiveOf(u.store.Disk)
			u.step(t)
			if was != impl.ActiveOf(u.store.Disk) {
				switches++
			}
			if at%8 == seed%8 || was != impl.ActiveOf(u.store.Disk) {
				u.check(t)
			}
		}
	}
	for _, code := range []int{0, 1, 3, 4, 5, 6} {
		if codes[code] == 0 {
			t.Errorf("code %d never came", code)
		}
	}
	if switches < 50 {
		t.Errorf("logs are switched just %d times", switches)
	}
}

// anyDisks are logs of all sorts, and disks that are none.
func anyDisks() []impl.Disk {
	disks := []impl.Disk{impl.LogNew(), logSaying(baseRecord(someBase())), logWithRoom(someBase(), 0), logWithRoom(someBase(), 20), logOf(255, nil, []string{textOf(baseRecord(impl.BaseNew()))})}
	for _, what := range slices.Sorted(maps.Keys(unkeeping())) {
		disks = append(disks, unkeeping()[what])
	}
	for _, what := range slices.Sorted(maps.Keys(unplayableTexts())) {
		disks = append(disks, logWith(unplayableTexts()[what]...))
	}
	for _, what := range slices.Sorted(maps.Keys(wrongLogs())) {
		disks = append(disks, wrongLogs()[what])
	}
	return disks
}

// Every function, of every engine beside disks of all sorts, right or wrong, held against the document's sentences.
func TestStoresOfAnything(t *testing.T) {
	disks, names, records := anyDisks(), append(anyTexts(), "p", "c", "mm"), anyRecords()
	for _, d := range disks {
		checkRise(t, "any", d)
		checkPlayLog(t, "any", d)
	}
	for i, e := range anyEngines() {
		ids := []int{0, -1, 1, 20, math.MinInt, math.MaxInt, e.Base.Next}
		for _, x := range slices.Concat(e.Open, e.Base.Past, e.Base.Ready) {
			ids = append(ids, x.Id)
		}
		slices.Sort(ids)
		for k, id := range slices.Compact(ids) {
			s := impl.Store{Engine: e, Disk: disks[(i*7+k)%len(disks)]}
			if k%2 == 0 {
				s.Disk = disks[(i+k)%5]
			}
			name := names[(i*3+k)%len(names)]
			checkStoreCommit(t, "any", s, id)
			checkStorePrepare(t, "any", s, id, name)
			checkStorePrepare(t, "any", s, id, "k")
			checkStoreFinish(t, "any", s, name, k%3 == 0)
			checkKeep(t, "any", s, records[(i*5+k)%len(records)])
		}
		s := impl.Store{Engine: e, Disk: disks[i%len(disks)]}
		checkFix(t, "any", s)
		checkAnswer(t, fmt.Sprintf("%#v", e), impl.StoreOk(s), storeRight(s))
		for k, x := range e.Base.Ready[:min(len(e.Base.Ready), 8)] {
			checkStoreFinish(t, "any", s, x.Name, true)
			checkStoreFinish(t, "any", impl.Store{Engine: e, Disk: disks[(i+k)%5]}, x.Name, k%2 == 0)
			checkAnswer(t, "the name", impl.InDoubt(s)[k] == x.Name, true)
		}
	}
}

// What is wrong with an engine, or a record, in lists that are very long, is answered, too.
func TestStoresOfLongLists(t *testing.T) {
	e := impl.Engine{Base: impl.Base{Versions: manyVersions(900), Cs: 5000, Next: 3}}
	for i := range 300 {
		e.Base.Past = append(e.Base.Past, writing(pastOne(-i, 1, 5000-i), "p"))
		e.Base.Ready = append(e.Base.Ready, reading(namedOne(1000+i, 1, fmt.Sprintf("%05d", i*2)), "r"))
		e.Open = append(e.Open, reading(writing(openAt(2000+i, 4000+i), letters(26)[i%26]), "w"))
	}
	d := diskOf(400, manyWrites(200, 300)...)
	for _, s := range []impl.Store{{Engine: e, Disk: impl.LogNew()}, {Engine: e, Disk: d}, {Engine: someEngine(), Disk: d}} {
		checkAnswer(t, "StoreOk", impl.StoreOk(s), false)
		checkStoreCommit(t, "long", s, 2013)
		checkStoreCommit(t, "long", s, 17)
		checkStorePrepare(t, "long", s, 2299, "k")
		checkStoreFinish(t, "long", s, "00444", true)
		checkStoreFinish(t, "long", s, "00444", false)
		checkFix(t, "long", s)
		checkKeep(t, "long", s, baseRecord(e.Base))
		checkAnswer(t, "InDoubt", len(impl.InDoubt(s)) == len(s.Engine.Base.Ready), true)
		checkAnswer(t, "LikeBase", impl.LikeBase(s.Engine.Base, s.Engine.Base), true)
	}
	checkRise(t, "long", d)
}

func roomyStore(s impl.Store) impl.Store {
	d := roomy(s.Disk)
	for i, text := range d.Sectors {
		d.Sectors[i] = fresh(text)
	}
	for i, w := range d.Cache {
		d.Cache[i].Text = fresh(w.Text)
	}
	return impl.Store{Engine: roomyEngine(s.Engine), Disk: d}
}

func storeTexts(s impl.Store) []string {
	return append(engineTexts(s.Engine), diskTexts(s.Disk)...)
}

func spoilDisk(d impl.Disk) {
	for i := range d.Sectors {
		d.Sectors[i] = "other"
	}
	for i := range d.Cache {
		d.Cache[i] = impl.Put{At: 7, Text: "other"}
	}
	_, _ = append(d.Sectors, "other"), append(d.Cache, impl.Put{At: 7, Text: "other"})
}

// storeAnswers asks for everything that answers one, done and refused.
func storeAnswers(s impl.Store, id int, name string, r impl.Record) map[string]impl.Store {
	var commit, prepare, yes, no, keep, fix, rise, played impl.Store
	commit, _ = impl.StoreCommit(s, id)
	prepare, _ = impl.StorePrepare(s, id, name)
	yes, _ = impl.StoreFinish(s, name, true)
	no, _ = impl.StoreFinish(s, name, false)
	keep, _ = impl.KeepRecord(s, r)
	fix, _ = impl.FixStore(s)
	rise, _ = impl.RiseStore(s.Disk)
	played.Engine.Base, _ = impl.PlayLog(s.Disk)
	return map[string]impl.Store{"StoreCommit": commit, "StorePrepare": prepare, "yes": yes, "no": no, "KeepRecord": keep, "FixStore": fix, "RiseStore": rise, "PlayLog": played, "StoreNew": impl.StoreNew()}
}

// memoryStores have one text in all places, or are wrong, or have much to be copied, beside logs that have room, have none, or are none.
func memoryStores() []impl.Store {
	var all []impl.Store
	disks := []impl.Disk{impl.LogNew(), logSaying(baseRecord(someBase())), logWithRoom(someBase(), 3), logSaying(baseRecord(baseOfSize(3008))), logWith("x"), diskOf(3, manyWrites(4, 3)...)}
	for i, e := range memoryEngines() {
		all = append(all, impl.Store{Engine: e, Disk: disks[i%len(disks)]})
		if i < 8 && impl.BaseOk(e.Base) {
			all = append(all, storeOf(e), impl.Store{Engine: e, Disk: logWithRoom(e.Base, 3)}, impl.Store{Engine: e, Disk: disks[(i+3)%len(disks)]})
		}
	}
	return all
}

// storeListsApart tells whether no text of one list of an answer lies in the memory of another list.
func storeListsApart(t *testing.T, what string, s impl.Store) {
	t.Helper()
	checkListsApart(t, what, impl.Base{Versions: s.Engine.Base.Versions, Past: slices.Concat(s.Engine.Base.Past, s.Engine.Base.Ready), Ready: s.Engine.Open})
	checkApart(t, what+", its disk", diskTexts(s.Disk), engineTexts(s.Engine))
	checkApart(t, what+", its engine", engineTexts(s.Engine), diskTexts(s.Disk))
	for _, w := range s.Disk.Cache {
		checkApart(t, what+", its Cache", []string{w.Text}, s.Disk.Sectors)
	}
}

func TestStoresAnswerNewMemory(t *testing.T) {
	for i, plain := range memoryStores() {
		s, plainRecord := roomyStore(plain), memoryRecords()[i%len(memoryRecords())]
		r, was := roomyRecord(plainRecord), withSpare(s.Disk)
		ids := []int{1}
		for _, x := range plain.Engine.Open {
			ids = append(ids, x.Id)
		}
		for _, name := range []string{fresh("k"), fresh("abc"), fresh("r")} {
			given := slices.Concat(storeTexts(s), recordTexts(r), []string{name})
			for _, id := range ids[:min(len(ids), 3)] {
				first, second := storeAnswers(s, id, name, r), storeAnswers(s, id, name, r)
				for what, answer := range first {
					checkApart(t, what, storeTexts(answer), append(storeTexts(second[what]), given...))
					storeListsApart(t, what, answer)
					spoil(answer.Engine.Base)
					checkAnswer(t, what+": Open", slices.EqualFunc(answer.Engine.Open, second[what].Engine.Open, sameTxn), true)
					spoil(impl.Base{Past: answer.Engine.Open})
					checkDisk(t, what, answer.Disk, second[what].Disk)
					spoilDisk(answer.Disk)
				}
				for what, answer := range storeAnswers(s, id, name, r) {
					checkAnswer(t, what+" is the same again", sameStore(answer, second[what]), true)
				}
			}
		}
		names := impl.InDoubt(s)
		checkApart(t, "InDoubt", names, append(storeTexts(s), impl.InDoubt(s)...))
		for i := range names {
			names[i] = "other"
		}
		impl.StoreOk(s)
		impl.LikeBase(s.Engine.Base, s.Engine.Base)
		impl.LikeBase(s.Engine.Base, r.Base)
		checkUntouched(t, s.Engine.Base, plain.Engine.Base)
		checkRoomy(t, s.Engine.Open, plain.Engine.Open)
		checkRecordUntouched(t, r, plainRecord)
		checkDisk(t, "an argument, and what is behind it", withSpare(s.Disk), was)
	}
}

// Lists that lie in one piece of memory, one behind the other, are not written into.
func TestStoresInOnePieceOfMemory(t *testing.T) {
	plain := storeOf(someEngine())
	whole := slices.Concat(plain.Engine.Base.Past, plain.Engine.Base.Ready, plain.Engine.Open, snapsOf(6, 7))
	was := slices.Clone(whole)
	for _, d := range []impl.Disk{plain.Disk, logWithRoom(someBase(), 1), logSaying(baseRecord(baseOfSize(3008)))} {
		plain.Disk = d
		s := plain
		s.Engine.Base.Past, s.Engine.Base.Ready, s.Engine.Open = whole[:3], whole[3:6], whole[6:9]
		for _, id := range []int{17, 18, 19, 20} {
			for _, name := range []string{"k", "c", "m"} {
				r := throughRecord(whole[2])
				want := storeAnswers(plain, id, name, r)
				for what, answer := range storeAnswers(s, id, name, r) {
					checkAnswer(t, what, sameStore(answer, want[what]), true)
					spoil(answer.Engine.Base)
					spoil(impl.Base{Past: answer.Engine.Open})
				}
			}
		}
		impl.StoreOk(s)
		impl.InDoubt(s)
	}
	if !slices.EqualFunc(whole, was, sameTxn) {
		t.Error("something is written into what was handed in")
	}
}
