package tests

import (
	"fmt"
	"math"
	"slices"
	"strings"
	"testing"

	"loop.example/g00327/impl"
)

// someEngine has someBase, and three that are open: one began ahead of all of Past, one in their midst, one behind them.
func someEngine() impl.Engine {
	return impl.Engine{Base: someBase(), Open: []impl.Txn{
		reading(writing(openAt(17, 6), "e"), "f", "g"), openAt(18, 8), writing(reading(openAt(19, 9), "k"), "x", "y"),
	}}
}

// changedEngine is e behind what change does to it; its lists are its own.
func changedEngine(e impl.Engine, change func(e *impl.Engine)) impl.Engine {
	e.Base, e.Open = changedBase(e.Base, func(*impl.Base) {}), slices.Clone(e.Open)
	change(&e)
	return e
}

// openOf are n that are open, with the Ids from 300 on.
func openOf(n int) []impl.Txn {
	var list []impl.Txn
	for i := range n {
		list = append(list, openAt(300+i, 0))
	}
	return list
}

func rightEngines() map[string]impl.Engine {
	right := map[string]impl.Engine{
		"the least": {Base: impl.BaseNew()}, "some": someEngine(),
		"MaxOpen open":              {Base: impl.Base{Next: 304}, Open: openOf(4)},
		"all that there can be":     {Base: impl.Base{Versions: manyVersions(120), Past: pastOf(12), Ready: readyOf(3), Cs: 12, Next: 304}, Open: openOf(4)},
		"an Id one below Next":      {Base: impl.Base{Next: 8}, Open: []impl.Txn{openAt(7, 0)}},
		"an Id 1":                   {Base: impl.Base{Next: 8}, Open: []impl.Txn{openAt(1, 0)}},
		"Ids that leave some out":   {Base: impl.Base{Next: 99}, Open: []impl.Txn{openAt(2, 0), openAt(5, 0), openAt(60, 0)}},
		"a Snap that is Cs":         {Base: impl.Base{Cs: 5, Next: 9}, Open: []impl.Txn{openAt(1, 5), openAt(2, 5)}},
		"Snaps that fall":           {Base: impl.Base{Cs: 5, Next: 9}, Open: []impl.Txn{openAt(1, 5), openAt(2, 3), openAt(3, 0)}},
		"Ids between those of Past": {Base: impl.Base{Past: []impl.Txn{pastOne(2, 0, 1), pastOne(4, 0, 2)}, Ready: []impl.Txn{namedOne(6, 0, "a")}, Cs: 2, Next: 8}, Open: []impl.Txn{openAt(1, 0), openAt(3, 0), openAt(5, 1), openAt(7, 2)}},
		"Past that nobody needs":    {Base: someBase(), Open: []impl.Txn{openAt(19, 9)}},
		"the greatest numbers":      {Base: impl.Base{Cs: 9999, Next: 9999}, Open: []impl.Txn{openAt(9998, 9999)}},
		"all that one can have":     {Base: impl.Base{Next: 9}, Open: []impl.Txn{{Id: 3, State: 1, Reads: rangesOf(8), Writes: writesOf(letters(8)...)}}},
	}
	for what, b := range rightBases() {
		right["nobody open, "+what] = impl.Engine{Base: b}
	}
	return right
}

// wrongEngines are not right, each for one reason.
func wrongEngines() map[string]impl.Engine {
	past, ready := pastOne(2, 0, 1), namedOne(6, 0, "a")
	b := impl.Base{Past: []impl.Txn{past}, Ready: []impl.Txn{ready}, Cs: 5, Next: 9}
	wrong := map[string]impl.Engine{
		"nothing in it":              {},
		"MaxOpen and 1 open":         {Base: impl.Base{Next: 500}, Open: openOf(5)},
		"50 open":                    {Base: impl.Base{Next: 500}, Open: openOf(50)},
		"one that is ready":          {Base: b, Open: []impl.Txn{namedOne(1, 0, "b")}},
		"one that is done":           {Base: b, Open: []impl.Txn{pastOne(1, 0, 2)}},
		"the second one is ready":    {Base: b, Open: []impl.Txn{openAt(1, 0), namedOne(3, 0, "b")}},
		"one of no state":            {Base: b, Open: []impl.Txn{{Id: 1}}},
		"Ids that fall":              {Base: b, Open: []impl.Txn{openAt(3, 0), openAt(1, 0)}},
		"one Id twice":               {Base: b, Open: []impl.Txn{openAt(3, 0), openAt(3, 0)}},
		"Ids that fall at the end":   {Base: b, Open: []impl.Txn{openAt(1, 0), openAt(5, 0), openAt(4, 0)}},
		"an Id that is Next":         {Base: b, Open: []impl.Txn{openAt(1, 0), openAt(9, 0)}},
		"an Id above Next":           {Base: b, Open: []impl.Txn{openAt(1, 0), openAt(10, 0)}},
		"an Id that one of Past has": {Base: b, Open: []impl.Txn{openAt(1, 0), openAt(2, 0)}},
		"an Id that one ready has":   {Base: b, Open: []impl.Txn{openAt(1, 0), openAt(6, 0)}},
		"a Snap one above Cs":        {Base: b, Open: []impl.Txn{openAt(1, 5), openAt(3, 6)}},
		"a Snap above Cs 0":          {Base: impl.BaseNew(), Open: []impl.Txn{openAt(1, 1)}},
		"an Id at the first Next":    {Base: impl.BaseNew(), Open: []impl.Txn{openAt(1, 0)}},
		"an Id that is MaxCs":        {Base: impl.Base{Next: 9999}, Open: []impl.Txn{openAt(9999, 0)}},
		"Ids of Past that are alike": {Base: impl.Base{Past: []impl.Txn{past, pastOne(2, 0, 2)}, Cs: 5, Next: 9}, Open: []impl.Txn{openAt(1, 0)}},
	}
	for what, b := range wrongBases() {
		wrong["Base: "+what] = impl.Engine{Base: b}
		wrong["Base, and one open: "+what] = impl.Engine{Base: b, Open: []impl.Txn{openAt(1, 0)}}
	}
	for what, x := range wrongTxns() {
		wrong["Open: "+what] = impl.Engine{Base: impl.Base{Cs: 9999, Next: 9999}, Open: []impl.Txn{x}}
	}
	return wrong
}

// tangledEngines are not right for many reasons, and have the same Ids and Names in several places.
func tangledEngines() []impl.Engine {
	var all []impl.Engine
	for i, b := range tangledBases() {
		all = append(all, impl.Engine{Base: b, Open: append(slices.Clone(b.Ready), openAt(5, i%3), reading(writing(openAt(40, 1), "a"), "b"), reading(writing(openAt(41, 2), "q"), "p"))})
	}
	for _, cs := range []int{-1, 0, 9998, 9999, 10000, math.MaxInt} {
		open := []impl.Txn{openAt(7, cs), writing(openAt(7, 3), "a"), reading(openAt(3, 2), "a"), markedOut(writing(openAt(0, 0), "b", "a")), namedOne(-4, 1, "p")}
		all = append(all, impl.Engine{Base: impl.Base{Ready: []impl.Txn{namedOne(7, 0, ""), namedOne(8, 0, "p"), namedOne(9, 0, "p")}, Cs: cs, Next: cs}, Open: open})
	}
	return all
}

func anyEngines() []impl.Engine {
	var all []impl.Engine
	for _, e := range rightEngines() {
		all = append(all, e)
	}
	for _, e := range wrongEngines() {
		all = append(all, e)
	}
	return append(all, tangledEngines()...)
}

func sameEngine(a, b impl.Engine) bool {
	return sameBase(a.Base, b.Base) && slices.EqualFunc(a.Open, b.Open, sameTxn)
}

// checkEngine ends the test with the first wrong one, since it is asked of very many.
func checkEngine(t *testing.T, what string, got, want impl.Engine) {
	t.Helper()
	if !sameEngine(got, want) {
		t.Fatalf("%s: %#v; want %#v", what, got, want)
	}
}

func checkCode(t *testing.T, what string, got, want int) {
	t.Helper()
	if got != want {
		t.Fatalf("%s: code %d; want %d", what, got, want)
	}
}

func checkRecord(t *testing.T, what string, got, want impl.Record) {
	t.Helper()
	if !sameRecord(got, want) {
		t.Fatalf("%s: %#v; want %#v", what, got, want)
	}
}

// engineRight is the document's sentence, from one part to the next.
func engineRight(e impl.Engine) bool {
	right := impl.BaseOk(e.Base) && len(e.Open) <= 4
	for i, x := range e.Open {
		right = right && impl.TxnOk(x) && x.State == 1 && (i == 0 || e.Open[i-1].Id < x.Id) && x.Id < e.Base.Next && x.Snap <= e.Base.Cs
		for _, other := range append(slices.Clone(e.Base.Past), e.Base.Ready...) {
			right = right && other.Id != x.Id
		}
	}
	return right
}

// openPlace is where the first of this Id stands; -1 without one.
func openPlace(e impl.Engine, id int) int {
	for i, x := range e.Open {
		if x.Id == id {
			return i
		}
	}
	return -1
}

// withOpen is e with x at a place of Open.
func withOpen(e impl.Engine, at int, x impl.Txn) impl.Engine {
	return changedEngine(e, func(e *impl.Engine) { e.Open[at] = x })
}

func beginOf(e impl.Engine) (impl.Engine, int, int) {
	if !engineRight(e) || len(e.Open) >= 4 || e.Base.Next >= 9999 {
		return e, 0, 3
	}
	id := e.Base.Next
	e.Open = append(slices.Clone(e.Open), impl.Txn{Id: id, State: 1, Snap: e.Base.Cs})
	e.Base.Next = id + 1
	return e, id, 0
}

// readOf is who looked at a range, and the code of that.
func readOf(e impl.Engine, id int, r impl.Range) (impl.Engine, int) {
	at := openPlace(e, id)
	if at < 0 {
		return e, 1
	}
	if !impl.RangeOk(r) {
		return e, 2
	}
	x := e.Open[at]
	if !impl.TxnOk(x) || x.State != 1 || len(x.Reads) >= 8 {
		return e, 3
	}
	if !slices.Contains(x.Reads, r) {
		x.Reads = append(slices.Clone(x.Reads), r)
	}
	return withOpen(e, at, x), 0
}

func getOf(e impl.Engine, id int, key string) (impl.Engine, string, bool, int) {
	out, code := readOf(e, id, oneKey(key))
	if code != 0 {
		return out, "", false, code
	}
	value, there := ownOf(out.Open[openPlace(out, id)], e.Base.Versions, key)
	return out, value, there, 0
}

func scanOf(e impl.Engine, id int, r impl.Range) (impl.Engine, []impl.Pair, int) {
	out, code := readOf(e, id, r)
	if code != 0 {
		return out, nil, code
	}
	return out, ownScanned(out.Open[openPlace(out, id)], e.Base.Versions, r), 0
}

func putOf(e impl.Engine, id int, w impl.Write) (impl.Engine, int) {
	at := openPlace(e, id)
	if at < 0 {
		return e, 1
	}
	if !impl.WriteOk(w) {
		return e, 2
	}
	x := e.Open[at]
	x.Writes = sortedWith(x.Writes, w)
	if !impl.TxnOk(e.Open[at]) || x.State != 1 || len(x.Writes) > 8 {
		return e, 3
	}
	return withOpen(e, at, x), 0
}

func leaveOf(e impl.Engine, id int) (impl.Engine, int) {
	if openPlace(e, id) < 0 {
		return e, 1
	}
	var open []impl.Txn
	for _, x := range e.Open {
		if x.Id != id {
			open = append(open, x)
		}
	}
	return impl.Engine{Base: tidiedOf(e.Base, open), Open: open}, 0
}

func fullOf(b impl.Base) bool {
	return len(b.Past) >= 12 || len(b.Versions) >= 101 || b.Cs >= 9999
}

func judgeOf(e impl.Engine, id int) int {
	at := openPlace(e, id)
	if at < 0 {
		return 1
	}
	x, others := e.Open[at], append(slices.Clone(e.Base.Past), e.Base.Ready...)
	switch {
	case blockedByWords(x, others):
		return 4
	case edgesOf(x, others).danger(x, others):
		return 5
	case fullOf(e.Base):
		return 3
	}
	return 0
}

func commitOf(e impl.Engine, id int) (impl.Engine, impl.Record, int) {
	code := judgeOf(e, id)
	if code == 1 {
		return e, impl.Record{}, 1
	}
	var r impl.Record
	if code == 0 {
		e.Base = throughOf(e.Base, e.Open[openPlace(e, id)])
		r = throughRecord(e.Base.Past[len(e.Base.Past)-1])
	}
	e, _ = leaveOf(e, id)
	return e, r, code
}

func prepareOf(e impl.Engine, id int, name string) (impl.Engine, impl.Record, int) {
	at := openPlace(e, id)
	if at < 0 {
		return e, impl.Record{}, 1
	}
	if !impl.KeyOk(name) {
		return e, impl.Record{}, 2
	}
	for _, x := range e.Base.Ready {
		if x.Name == name {
			return e, impl.Record{}, 6
		}
	}
	x, others := e.Open[at], append(slices.Clone(e.Base.Past), e.Base.Ready...)
	code := judgeOf(e, id)
	if code == 0 && edgesOf(x, others).readyDanger(x, others) {
		code = 5
	}
	if code == 0 && len(e.Base.Ready) >= 3 {
		code = 3
	}
	var r impl.Record
	if code == 0 {
		e.Base = madeReadyOf(e.Base, x, name)
		for _, ready := range e.Base.Ready {
			if ready.Name == name {
				r = readyRecord(ready)
			}
		}
	}
	e, _ = leaveOf(e, id)
	return e, r, code
}

func finishOf(e impl.Engine, name string, yes bool) (impl.Engine, impl.Record, int) {
	for _, x := range e.Base.Ready {
		if x.Name != name {
			continue
		}
		switch {
		case yes && fullOf(e.Base):
			return e, impl.Record{}, 3
		case yes:
			e.Base = tidiedOf(throughOf(e.Base, x), e.Open)
		default:
			e.Base = tidiedOf(givenUpOf(e.Base, name), e.Open)
		}
		return e, endRecord(name, yes), 0
	}
	return e, impl.Record{}, 1
}

// The check functions ask one function of the program, hold all of its answer against the document's sentence, and answer it.

func checkBegin(t *testing.T, what string, e impl.Engine) (impl.Engine, int, int) {
	t.Helper()
	got, id, code := impl.Begin(e)
	want, wantId, wantCode := beginOf(e)
	checkCode(t, what+": Begin", code, wantCode)
	checkEngine(t, what+": Begin", got, want)
	if id != wantId {
		t.Fatalf("%s: Begin: Id %d; want %d", what, id, wantId)
	}
	return got, id, code
}

func checkGet(t *testing.T, what string, e impl.Engine, id int, key string) (impl.Engine, string, bool, int) {
	t.Helper()
	got, value, there, code := impl.GetKey(e, id, key)
	want, wantValue, wantThere, wantCode := getOf(e, id, key)
	checkCode(t, what+": GetKey "+key, code, wantCode)
	checkEngine(t, what+": GetKey "+key, got, want)
	if value != wantValue || there != wantThere {
		t.Fatalf("%s: GetKey %q: %q, %v; want %q, %v", what, key, value, there, wantValue, wantThere)
	}
	return got, value, there, code
}

func checkScanned(t *testing.T, what string, e impl.Engine, id int, r impl.Range) (impl.Engine, []impl.Pair, int) {
	t.Helper()
	got, pairs, code := impl.ScanKeys(e, id, r)
	want, wantPairs, wantCode := scanOf(e, id, r)
	checkCode(t, what+": ScanKeys", code, wantCode)
	checkEngine(t, what+": ScanKeys", got, want)
	if !slices.Equal(pairs, wantPairs) {
		t.Fatalf("%s: ScanKeys %v: %v; want %v", what, r, pairs, wantPairs)
	}
	return got, pairs, code
}

func checkPutKey(t *testing.T, what string, e impl.Engine, id int, w impl.Write) (impl.Engine, int) {
	t.Helper()
	got, code := impl.PutKey(e, id, w)
	want, wantCode := putOf(e, id, w)
	checkCode(t, fmt.Sprint(what, ": PutKey ", w), code, wantCode)
	checkEngine(t, fmt.Sprint(what, ": PutKey ", w), got, want)
	return got, code
}

func checkLeave(t *testing.T, what string, e impl.Engine, id int) (impl.Engine, int) {
	t.Helper()
	got, code := impl.Leave(e, id)
	want, wantCode := leaveOf(e, id)
	checkCode(t, what+": Leave", code, wantCode)
	checkEngine(t, what+": Leave", got, want)
	return got, code
}

func checkCommit(t *testing.T, what string, e impl.Engine, id int) (impl.Engine, impl.Record, int) {
	t.Helper()
	checkCode(t, what+": Judge", impl.Judge(e, id), judgeOf(e, id))
	got, r, code := impl.Commit(e, id)
	want, wantRecord, wantCode := commitOf(e, id)
	checkCode(t, what+": Commit", code, wantCode)
	checkEngine(t, what+": Commit", got, want)
	checkRecord(t, what+": Commit", r, wantRecord)
	return got, r, code
}

func checkPrepare(t *testing.T, what string, e impl.Engine, id int, name string) (impl.Engine, impl.Record, int) {
	t.Helper()
	got, r, code := impl.Prepare(e, id, name)
	want, wantRecord, wantCode := prepareOf(e, id, name)
	checkCode(t, what+": Prepare", code, wantCode)
	checkEngine(t, what+": Prepare", got, want)
	checkRecord(t, what+": Prepare", r, wantRecord)
	return got, r, code
}

func checkFinish(t *testing.T, what string, e impl.Engine, name string, yes bool) (impl.Engine, impl.Record, int) {
	t.Helper()
	got, r, code := impl.Finish(e, name, yes)
	want, wantRecord, wantCode := finishOf(e, name, yes)
	checkCode(t, fmt.Sprint(what, ": Finish ", name, yes), code, wantCode)
	checkEngine(t, fmt.Sprint(what, ": Finish ", name, yes), got, want)
	checkRecord(t, fmt.Sprint(what, ": Finish ", name, yes), r, wantRecord)
	return got, r, code
}

// open begins one more; it ends the test where that can't be.
func open(t *testing.T, e impl.Engine) (impl.Engine, int) {
	t.Helper()
	got, id, code := checkBegin(t, "open", e)
	checkCode(t, "open", code, 0)
	return got, id
}

// does lets one that is open get some keys, and put others; it ends the test where that can't be.
func does(t *testing.T, e impl.Engine, id int, reads, writes string) impl.Engine {
	t.Helper()
	code := 0
	for _, key := range strings.Fields(reads) {
		e, _, _, code = checkGet(t, "does", e, id, key)
		checkCode(t, "does, "+key, code, 0)
	}
	for _, key := range strings.Fields(writes) {
		e, code = checkPutKey(t, "does", e, id, put(key, fmt.Sprint("by", id)))
		checkCode(t, "does, "+key, code, 0)
	}
	return e
}

func TestEngineLimits(t *testing.T) {
	if impl.MaxOpen != 4 || impl.CodeNone != 1 || impl.CodeBad != 2 || impl.CodeFull != 3 || impl.CodeWrite != 4 || impl.CodeSerial != 5 || impl.CodeName != 6 {
		t.Error("a limit or a code is not what the document says")
	}
	checkEngine(t, "EngineNew", impl.EngineNew(), impl.Engine{Base: impl.Base{Next: 1}})
	checkAnswer(t, "EngineNew is right", impl.EngineOk(impl.EngineNew()), true)
}

func TestEngineOk(t *testing.T) {
	for what, e := range rightEngines() {
		checkAnswer(t, what, impl.EngineOk(e), true)
	}
	for what, e := range wrongEngines() {
		checkAnswer(t, what, impl.EngineOk(e), false)
	}
	for _, e := range tangledEngines() {
		checkAnswer(t, fmt.Sprintf("%#v", e), impl.EngineOk(e), false)
	}
}

// At every place of full lists one that is not right is told.
func TestEngineOkLooksAtAll(t *testing.T) {
	full := impl.Engine{Base: impl.Base{Past: pastOf(12), Ready: readyOf(3), Cs: 20, Next: 400}, Open: openOf(4)}
	checkAnswer(t, "full lists", impl.EngineOk(full), true)
	for at := range full.Open {
		for what, change := range map[string]func(x *impl.Txn){
			"Snap one above Cs": func(x *impl.Txn) { x.Snap = 21 }, "Id Next": func(x *impl.Txn) { x.Id = 400 }, "done": func(x *impl.Txn) { x.State, x.Cs = 3, 15 },
			"ready": func(x *impl.Txn) { x.State, x.Name = 2, "k" }, "Out": func(x *impl.Txn) { x.Out = true }, "a Cs": func(x *impl.Txn) { x.Cs = 15 }, "a Name": func(x *impl.Txn) { x.Name = "k" },
			"a wrong Read": func(x *impl.Txn) { x.Reads = []impl.Range{{}} }, "a wrong Write": func(x *impl.Txn) { x.Writes = writesOf("b", "a") }, "nothing": func(x *impl.Txn) { *x = impl.Txn{} },
			"Snap below 0": func(x *impl.Txn) { x.Snap = -1 }, "Id 0": func(x *impl.Txn) { x.Id = 0 },
		} {
			checkAnswer(t, fmt.Sprint("Open, at ", at, ": ", what), impl.EngineOk(changedEngine(full, func(e *impl.Engine) { change(&e.Open[at]) })), false)
		}
		checkAnswer(t, "a Snap at Cs", impl.EngineOk(changedEngine(full, func(e *impl.Engine) { e.Open[at].Snap = 20 })), true)
		for other := range at {
			e := changedEngine(full, func(e *impl.Engine) { e.Open[at].Id = e.Open[other].Id })
			checkAnswer(t, fmt.Sprint("one Id at ", at, other), impl.EngineOk(e), false)
			e = changedEngine(full, func(e *impl.Engine) { e.Open[at], e.Open[other] = e.Open[other], e.Open[at] })
			checkAnswer(t, fmt.Sprint("Ids that fall at ", at, other), impl.EngineOk(e), false)
		}
	}
	// Each Id of Past and Ready, alone in Open.
	for _, x := range append(slices.Clone(full.Base.Past), full.Base.Ready...) {
		e := impl.Engine{Base: full.Base, Open: []impl.Txn{openAt(x.Id, 0)}}
		checkAnswer(t, fmt.Sprint("an Id of Base, ", x.Id), impl.EngineOk(e), false)
		e.Open[0].Id = 150
		checkAnswer(t, "an Id that nobody has", impl.EngineOk(e), true)
	}
}

// Every Cs and Next near those of the two that are open.
func TestEngineOkOfNumbers(t *testing.T) {
	numbers := []int{math.MinInt, math.MinInt + 1, -1, 0, 1, 2, 3, 4, 5, 6, 7, 9998, 9999, 10000, math.MaxInt - 1, math.MaxInt}
	for _, cs := range numbers {
		for _, next := range numbers {
			e := impl.Engine{Base: impl.Base{Cs: cs, Next: next}, Open: []impl.Txn{openAt(3, 4), openAt(5, 2)}}
			checkAnswer(t, fmt.Sprint("Cs ", cs, ", Next ", next), impl.EngineOk(e), cs >= 4 && cs <= 9999 && next >= 6 && next <= 9999)
		}
	}
}

func TestOpenAt(t *testing.T) {
	e := someEngine()
	for id, want := range map[int]int{17: 0, 18: 1, 19: 2, 16: -1, 20: -1, 11: -1, 15: -1, 0: -1, -1: -1, 1: -1, math.MinInt: -1, math.MaxInt: -1} {
		if got := impl.OpenAt(e, id); got != want {
			t.Errorf("OpenAt %d: %d; want %d", id, got, want)
		}
	}
	if impl.OpenAt(impl.EngineNew(), 1) != -1 || impl.OpenAt(impl.Engine{}, 0) != -1 {
		t.Error("OpenAt where nobody is")
	}
	for _, e := range anyEngines() {
		for id := -7; id < 25; id++ {
			if got := impl.OpenAt(e, id); got != openPlace(e, id) {
				t.Fatalf("OpenAt %d in %#v: %d", id, e, got)
			}
		}
	}
}

func TestBegin(t *testing.T) {
	e, id, code := impl.Begin(impl.EngineNew())
	checkCode(t, "the first", code, 0)
	checkEngine(t, "the first", e, impl.Engine{Base: impl.Base{Next: 2}, Open: []impl.Txn{openAt(1, 0)}})
	checkAnswer(t, "its Id", id == 1, true)
	e, id, code = impl.Begin(someEngine())
	want := someEngine()
	want.Open, want.Base.Next = append(want.Open, openAt(20, 9)), 21
	checkCode(t, "one more", code, 0)
	checkEngine(t, "one more", e, want)
	checkAnswer(t, "its Id", id == 20, true)
	checkAnswer(t, "right", impl.EngineOk(e), true)
	// Now there are MaxOpen.
	again, id, code := impl.Begin(e)
	checkCode(t, "MaxOpen", code, 3)
	checkEngine(t, "MaxOpen", again, e)
	checkAnswer(t, "no Id", id == 0, true)
}

func TestBeginWhereThereIsNoMore(t *testing.T) {
	for next, want := range map[int]int{1: 0, 2: 0, 9997: 0, 9998: 0, 9999: 3, 10000: 3, 0: 3, -1: 3, math.MaxInt: 3} {
		e, id, code := checkBegin(t, fmt.Sprint("Next ", next), impl.Engine{Base: impl.Base{Cs: 4, Next: next}})
		checkCode(t, fmt.Sprint("Next ", next), code, want)
		if code == 0 && (id != next || e.Base.Next != next+1 || !impl.EngineOk(e) || e.Open[0].Snap != 4) {
			t.Errorf("Next %d: Id %d, %#v", next, id, e)
		}
	}
	for n := range 7 {
		_, _, code := checkBegin(t, fmt.Sprint(n, " open"), impl.Engine{Base: impl.Base{Next: 400}, Open: openOf(n)})
		checkAnswer(t, fmt.Sprint(n, " open"), code == 0, n < 4)
	}
	for what, e := range wrongEngines() {
		_, _, code := checkBegin(t, what, e)
		checkCode(t, what, code, 3)
	}
	for what, e := range rightEngines() {
		_, _, code := checkBegin(t, what, e)
		checkAnswer(t, what, code == 0, len(e.Open) < 4 && e.Base.Next < 9999)
	}
}

// Several are open at once: each sees what was so when it began, and what it wrote itself, whoever is let through meanwhile.
func TestEachSeesWhatWasSo(t *testing.T) {
	e, writer := open(t, impl.EngineNew())
	e = does(t, e, writer, "", "a b")
	e, _, code := checkCommit(t, "the first", e, writer)
	checkCode(t, "the first", code, 0)
	e, early := open(t, e)
	e, second := open(t, e)
	e, code = impl.PutKey(e, second, gone("a"))
	checkCode(t, "gone", code, 0)
	e = does(t, e, second, "", "c")
	// Nobody sees what another one writes.
	e, pairs, _ := impl.ScanKeys(e, early, everyKey)
	if !slices.Equal(pairs, []impl.Pair{pair("a", "by1"), pair("b", "by1")}) {
		t.Errorf("the early one sees %v", pairs)
	}
	e, pairs, _ = impl.ScanKeys(e, second, everyKey)
	if !slices.Equal(pairs, []impl.Pair{pair("b", "by1"), pair("c", "by3")}) {
		t.Errorf("the second one sees %v", pairs)
	}
	e, _, code = checkCommit(t, "the second", e, second)
	checkCode(t, "the second", code, 0)
	e, late := open(t, e)
	for _, c := range []struct {
		id    int
		key   string
		value string
		there bool
	}{{early, "a", "by1", true}, {early, "b", "by1", true}, {early, "c", "", false}, {late, "a", "", false}, {late, "b", "by1", true}, {late, "c", "by3", true}} {
		_, value, there, code := checkGet(t, "seen", e, c.id, c.key)
		if value != c.value || there != c.there || code != 0 {
			t.Errorf("%d sees of %q: %q, %v, code %d", c.id, c.key, value, there, code)
		}
	}
	// Its own counts ahead of what was so, also when that is gone for others.
	e = does(t, e, early, "", "a")
	_, value, there, _ := checkGet(t, "its own", e, early, "a")
	checkAnswer(t, "its own", value == "by2" && there, true)
	_, _, there, _ = checkGet(t, "another one's", e, late, "a")
	checkAnswer(t, "another one's", there, false)
}

// What one looked at is in its Reads, once, in the order of its looking, whether it was there or not; nobody else's are changed.
func TestWhoLooksHasItInItsReads(t *testing.T) {
	e := someEngine()
	code := 0
	for _, key := range []string{"zz", "a", "zz", "f"} {
		e, _, _, code = checkGet(t, "GetKey", e, 18, key)
		checkCode(t, "GetKey", code, 0)
	}
	e, _, code = checkScanned(t, "ScanKeys", e, 18, everyKey)
	checkCode(t, "ScanKeys", code, 0)
	e, _, code = checkScanned(t, "ScanKeys again", e, 18, everyKey)
	checkCode(t, "ScanKeys again", code, 0)
	e, _, code = checkScanned(t, "ScanKeys of one key", e, 18, oneKey("a"))
	checkCode(t, "ScanKeys of one key", code, 0)
	want := someEngine()
	want.Open[1].Reads = []impl.Range{oneKey("zz"), oneKey("a"), oneKey("f"), everyKey}
	checkEngine(t, "what was read", e, want)
	// What one wrote itself is in its Reads, too, when it is looked at.
	e, value, there, _ := checkGet(t, "its own", e, 17, "e")
	checkAnswer(t, "its own", value == "A" && there && slices.Contains(e.Open[0].Reads, oneKey("e")), true)
}

func TestWhoLooksIsRefused(t *testing.T) {
	e := someEngine()
	e.Open[2].Reads = rangesOf(8)
	e.Open[0].Reads = rangesOf(7)
	there := e.Open[2].Reads[3]
	for what, c := range map[string]struct {
		id   int
		r    impl.Range
		want int
	}{
		"an Id that is not there":                    {20, oneKey("a"), 1},
		"an Id of Past":                              {11, oneKey("a"), 1},
		"an Id of Ready":                             {15, oneKey("a"), 1},
		"Id 0":                                       {0, oneKey("a"), 1},
		"an Id that is not there, and no key":        {20, oneKey("A"), 1},
		"no key":                                     {18, oneKey("A"), 2},
		"an empty key":                               {18, oneKey(""), 2},
		"a key of four letters":                      {18, oneKey("abcd"), 2},
		"no key, and no room":                        {19, oneKey("A"), 2},
		"no room":                                    {19, oneKey("b"), 3},
		"no room, what is there":                     {19, there, 3},
		"one place left":                             {17, oneKey("zzz"), 0},
		"one place left, what is there":              {17, e.Open[0].Reads[2], 0},
		"a range that falls":                         {18, impl.Range{From: "b", To: "a"}, 2},
		"a range to no key":                          {18, impl.Range{From: "b", To: "~"}, 2},
		"a range that falls, and no room":            {19, impl.Range{From: "b", To: "a"}, 2},
		"a range that falls, and nobody":             {16, impl.Range{From: "b", To: "a"}, 1},
		"a range of all keys":                        {18, everyKey, 0},
		"a range of all keys, and no room":           {19, everyKey, 3},
		"a range of all keys in the last place left": {17, everyKey, 0},
	} {
		got, pairs, code := checkScanned(t, what, e, c.id, c.r)
		checkCode(t, what, code, c.want)
		if code != 0 && (len(pairs) != 0 || !sameEngine(got, e)) {
			t.Errorf("%s: something is told, or changed", what)
		}
		if c.r.From != c.r.To {
			continue
		}
		got, value, has, code := checkGet(t, what, e, c.id, c.r.From)
		checkCode(t, what, code, c.want)
		if code != 0 && (value != "" || has || !sameEngine(got, e)) {
			t.Errorf("%s: something is told, or changed", what)
		}
	}
	for _, key := range wrongKeys() {
		_, _, _, code := checkGet(t, "no key", e, 18, key)
		checkCode(t, "no key", code, 2)
		_, _, _, code = checkGet(t, "no key, and nobody", e, 21, key)
		checkCode(t, "no key, and nobody", code, 1)
	}
}

func TestPutKey(t *testing.T) {
	e := someEngine()
	for _, w := range []impl.Write{put("m", "1"), put("a", ""), put("m", "2"), gone("b"), put("zzz", strings.Repeat("\xff", 12)), gone("a")} {
		var code int
		e, code = checkPutKey(t, "PutKey", e, 18, w)
		checkCode(t, "PutKey", code, 0)
	}
	want := someEngine()
	want.Open[1].Writes = []impl.Write{gone("a"), gone("b"), put("m", "2"), put("zzz", strings.Repeat("\xff", 12))}
	checkEngine(t, "what is written", e, want)
	checkAnswer(t, "right", impl.EngineOk(e), true)
}

func TestPutKeyIsRefused(t *testing.T) {
	e := someEngine()
	e.Open[2].Writes = writesOf(letters(8)...)
	e.Open[0].Writes = writesOf(letters(7)...)
	for what, c := range map[string]struct {
		id   int
		w    impl.Write
		want int
	}{
		"an Id that is not there":                 {20, put("a", "1"), 1},
		"an Id of Past":                           {11, put("a", "1"), 1},
		"an Id of Ready":                          {15, put("a", "1"), 1},
		"an Id that is not there, and no key":     {20, put("A", "1"), 1},
		"no key":                                  {18, put("A", "1"), 2},
		"a Value of 13 bytes":                     {18, put("a", "thirteen byte"), 2},
		"a Value beside Gone":                     {18, impl.Write{Key: "a", Value: "1", Gone: true}, 2},
		"no key, and no room":                     {19, put("", "1"), 2},
		"a Value of 13 bytes, and no room":        {19, put("z", "thirteen byte"), 2},
		"a Value of 13 bytes of one that's there": {19, put("b", "thirteen byte"), 2},
		"no room":                                 {19, put("z", "1"), 3},
		"no room to take one out":                 {19, gone("aa"), 3},
		"in place of one that's there":            {19, put("c", "new"), 0},
		"gone in place of one that's there":       {19, gone("h"), 0},
		"one place left":                          {17, put("z", "1"), 0},
		"a Value of 12 bytes":                     {18, put("a", "twelve bytes"), 0},
	} {
		got, code := checkPutKey(t, what, e, c.id, c.w)
		checkCode(t, what, code, c.want)
		if code != 0 {
			checkEngine(t, what+": as it is", got, e)
		}
	}
	for _, key := range wrongKeys() {
		_, code := checkPutKey(t, "no key", e, 18, put(key, "1"))
		checkCode(t, "no key", code, 2)
		_, code = checkPutKey(t, "no key, gone", e, 18, gone(key))
		checkCode(t, "no key, gone", code, 2)
	}
}

// Who is in Open of an engine that is not right, but is not open itself, or is not right, reads and writes nothing.
func TestWhoIsNotOpenReadsAndWritesNothing(t *testing.T) {
	for _, x := range append(allTxns(), namedOne(3, 0, "a"), pastOne(3, 0, 1)) {
		e := impl.Engine{Base: someBase(), Open: []impl.Txn{x}}
		want := 3
		if impl.TxnOk(x) && x.State == 1 {
			want = 0
		}
		_, _, _, code := checkGet(t, "GetKey", e, x.Id, "kkk")
		checkAnswer(t, fmt.Sprintf("GetKey of %#v", x), code == want || len(x.Reads) == 8, true)
		_, code = checkPutKey(t, "PutKey", e, x.Id, put("kkk", "v"))
		checkAnswer(t, fmt.Sprintf("PutKey of %#v", x), code == want || len(x.Writes) == 8, true)
		checkScanned(t, "ScanKeys", e, x.Id, everyKey)
	}
}

// What is left is Tidied to those that are still open.
func TestLeave(t *testing.T) {
	e := someEngine()
	b := e.Base
	for _, c := range []struct {
		ids  []int
		past []impl.Txn
		snap int
	}{
		{[]int{17}, b.Past[2:], 8}, {[]int{18}, b.Past, 6}, {[]int{19}, b.Past, 6}, {[]int{17, 18}, nil, 9}, {[]int{18, 17}, nil, 9}, {[]int{17, 19}, b.Past[2:], 8},
		{[]int{19, 18}, b.Past, 6}, {[]int{17, 18, 19}, nil, 9}, {[]int{19, 18, 17}, nil, 9},
	} {
		got := e
		want := e
		want.Open = slices.DeleteFunc(slices.Clone(e.Open), func(x impl.Txn) bool { return slices.Contains(c.ids, x.Id) })
		for _, id := range c.ids {
			var code int
			got, code = checkLeave(t, fmt.Sprint(c.ids), got, id)
			checkCode(t, fmt.Sprint(c.ids), code, 0)
			checkAnswer(t, "there any more", impl.OpenAt(got, id) >= 0, false)
		}
		want.Base.Past, want.Base.Versions = c.past, trimmedOf(b.Versions, c.snap)
		checkEngine(t, fmt.Sprint("without ", c.ids), got, want)
		checkAnswer(t, "right", impl.EngineOk(got), true)
	}
}

func TestLeaveOfOneThatIsNotThere(t *testing.T) {
	// Nothing is tidied then.
	e := impl.Engine{Base: someBase()}
	for _, id := range []int{0, 1, 11, 15, 16, 17, 20, -1, math.MinInt, math.MaxInt} {
		got, code := checkLeave(t, "nobody open", e, id)
		checkCode(t, "nobody open", code, 1)
		checkEngine(t, "nobody open", got, e)
	}
	e.Open = []impl.Txn{openAt(17, 9)}
	for _, id := range []int{0, 11, 15, 16, 18} {
		got, code := checkLeave(t, "another one open", e, id)
		checkCode(t, "another one open", code, 1)
		checkEngine(t, "another one open", got, e)
	}
}

// Several of one Id, in an engine that is not right: the first one counts, and none is there any more then.
func TestSeveralOpenOfOneId(t *testing.T) {
	e := impl.Engine{Base: someBase(), Open: []impl.Txn{writing(openAt(17, 9), "e"), openAt(18, 9), openAt(17, 6)}}
	got, code := checkLeave(t, "Leave", e, 17)
	checkCode(t, "Leave", code, 0)
	checkEngine(t, "Leave", got, impl.Engine{Base: impl.Tidied(e.Base, snapsOf(9)), Open: e.Open[1:2]})
	got, r, code := checkCommit(t, "Commit", e, 17)
	checkCode(t, "Commit", code, 0)
	checkAnswer(t, "Commit", len(got.Open) == 1 && len(r.Txn.Writes) == 1, true)
	got, code = checkPutKey(t, "PutKey", e, 17, put("k", ""))
	checkAnswer(t, "PutKey", code == 0 && len(got.Open[0].Writes) == 2 && len(got.Open[2].Writes) == 0, true)
}

// judgedOne is someBase with one that is open, and nobody else.
func judgedOne(snap int, reads, writes string) impl.Engine {
	return impl.Engine{Base: someBase(), Open: []impl.Txn{reading(writing(openAt(17, snap), strings.Fields(writes)...), strings.Fields(reads)...)}}
}

// In someBase a was written at 7, d at 8 by one that is Out and read a and q, b and zzz at 9; c is ready and read r and s, m is ready, Out and writes m,
// mm is ready, read w and writes n.
func TestJudge(t *testing.T) {
	for what, c := range map[string]struct {
		e    impl.Engine
		want int
	}{
		"nothing read or written":                   {judgedOne(6, "", ""), 0},
		"what nobody else has":                      {judgedOne(6, "f g", "e"), 0},
		"writes what was let through":               {judgedOne(6, "", "a"), 4},
		"writes what it sees":                       {judgedOne(7, "", "a"), 0},
		"writes what the last one wrote":            {judgedOne(8, "", "e zzz"), 4},
		"writes what it sees, the last one":         {judgedOne(9, "", "b zzz"), 0},
		"writes what one writes that is ready":      {judgedOne(9, "", "m"), 4},
		"writes what the last one ready writes":     {judgedOne(9, "", "e n"), 4},
		"reads what was let through":                {judgedOne(6, "a", ""), 0},
		"reads what was let through, and writes":    {judgedOne(6, "a", "e"), 0},
		"writes what one read":                      {judgedOne(6, "", "q"), 0},
		"both, reads and writes":                    {judgedOne(6, "a", "q"), 5},
		"both, reads the last one":                  {judgedOne(6, "zzz", "q"), 5},
		"both, but it sees what it reads":           {judgedOne(7, "a", "q"), 0},
		"both, but the one that read was done":      {judgedOne(8, "b", "q"), 0},
		"reads what one wrote that is Out":          {judgedOne(6, "d", ""), 5},
		"sees what one wrote that is Out":           {judgedOne(8, "d", ""), 0},
		"reads what one writes, ready and Out":      {judgedOne(9, "m", ""), 5},
		"reads what one writes that is ready":       {judgedOne(9, "n", ""), 0},
		"writes what one read that is ready":        {judgedOne(9, "", "w"), 0},
		"both, of one that is ready":                {judgedOne(9, "n", "w"), 5},
		"both, of two that are ready":               {judgedOne(9, "n", "r"), 0},
		"writes what one ready read, reads another": {judgedOne(6, "b", "r"), 5},
		"writes and reads what it may not":          {judgedOne(6, "d", "a"), 4},
		"writes what is ready, and reads Out":       {judgedOne(9, "m", "m"), 4},
	} {
		checkCode(t, what, impl.Judge(c.e, 17), c.want)
		checkCode(t, what+", nobody", impl.Judge(c.e, 16), 1)
		checkCode(t, what+", one of Past", impl.Judge(c.e, 11), 1)
		checkCode(t, what+", one of Ready", impl.Judge(c.e, 15), 1)
		// Another one that is open, whatever it reads and writes, is not asked.
		c.e.Open = append(c.e.Open, reading(writing(openAt(18, 0), "a", "e", "f", "q"), "e", "m", "q"))
		checkCode(t, what+", beside another one", impl.Judge(c.e, 17), c.want)
		checkCommit(t, what, c.e, 17)
		checkPrepare(t, what, c.e, 17, "k")
	}
}

// roomFor has so many of Past and Versions, this Cs, one of Ready, and one open that is not refused for anything else, but for what is asked.
func roomFor(past, versions, cs int) impl.Engine {
	b := impl.Base{Versions: manyVersions(versions), Ready: []impl.Txn{reading(writing(namedOne(200, 0, "r"), "zz"), "zy")}, Cs: cs, Next: 400}
	for i := range past {
		b.Past = append(b.Past, writing(pastOne(100+i, 0, cs-past+i+1), "zx"))
	}
	return impl.Engine{Base: b, Open: []impl.Txn{reading(writing(openAt(300, 0), "za"), "zb")}}
}

func TestJudgeRoom(t *testing.T) {
	for _, c := range []struct {
		past, versions, cs int
		want               int
	}{
		{0, 0, 20, 0}, {11, 0, 20, 0}, {12, 0, 20, 3}, {13, 0, 20, 3}, {0, 99, 20, 0}, {0, 100, 20, 0}, {0, 101, 20, 3}, {0, 120, 20, 3}, {11, 100, 9998, 0},
		{0, 0, 9997, 0}, {0, 0, 9998, 0}, {0, 0, 9999, 3}, {11, 101, 20, 3}, {12, 100, 20, 3}, {12, 101, 9999, 3}, {0, 0, 10000, 3}, {0, 0, math.MaxInt, 3},
	} {
		what := fmt.Sprint(c)
		e := roomFor(c.past, c.versions, c.cs)
		for _, x := range []impl.Txn{e.Open[0], openAt(300, 0), reading(openAt(300, 0), "zb"), writing(openAt(300, 0), "za")} {
			// Who writes nothing needs room, too.
			e = withOpen(e, 0, x)
			checkCode(t, what, impl.Judge(e, 300), c.want)
			got, _, code := checkCommit(t, what, e, 300)
			checkCode(t, what, code, c.want)
			checkAnswer(t, what+": there any more", impl.OpenAt(got, 300) >= 0, false)
			_, _, code = checkPrepare(t, what, e, 300, "k")
			checkCode(t, what+", Prepare", code, c.want)
		}
		_, _, code := checkFinish(t, what, e, "r", true)
		checkCode(t, what+", Finish", code, c.want)
		_, _, code = checkFinish(t, what, e, "r", false)
		checkCode(t, what+", Finish with no", code, 0)
		checkCode(t, what+", nobody", impl.Judge(e, 301), 1)
		_, _, code = checkFinish(t, what, e, "k", true)
		checkCode(t, what+", Finish of nobody", code, 1)
	}
}

// What nobody needs any more, but is still there, takes room, too.
func TestJudgeRoomOfWhatIsNotTidied(t *testing.T) {
	for _, c := range []struct{ past, versions, want int }{{11, 100, 0}, {12, 0, 3}, {0, 101, 3}} {
		e := withOpen(roomFor(c.past, c.versions, 20), 0, openAt(300, 20))
		checkCode(t, fmt.Sprint(c), impl.Judge(e, 300), c.want)
		_, _, code := checkCommit(t, fmt.Sprint(c), e, 300)
		checkCode(t, fmt.Sprint(c, " Commit"), code, c.want)
		_, _, code = checkPrepare(t, fmt.Sprint(c), e, 300, "k")
		checkCode(t, fmt.Sprint(c, " Prepare"), code, c.want)
		_, _, code = checkFinish(t, fmt.Sprint(c), e, "r", true)
		checkCode(t, fmt.Sprint(c, " Finish"), code, c.want)
	}
}

// Of two codes the first one counts: what another one wrote, then the order, then the room.
func TestJudgeOfTwoCodes(t *testing.T) {
	for _, full := range []impl.Engine{roomFor(12, 0, 20), roomFor(0, 101, 20), roomFor(1, 0, 9999), roomFor(12, 101, 9999)} {
		for what, c := range map[string]struct {
			x    impl.Txn
			want int
		}{
			"no room":                              {openAt(300, 0), 3},
			"what another one wrote, and no room":  {writing(openAt(300, 0), "zz"), 4},
			"no order, and no room":                {reading(writing(openAt(300, 0), "zy"), "zz"), 5},
			"no order, all three":                  {reading(writing(openAt(300, 0), "zy", "zz"), "zz"), 4},
			"may not be made ready, and no room":   {reading(openAt(300, 0), "zz"), 3},
			"let through, of which it is ahead":    {reading(openAt(300, 0), "zx"), 3},
			"no order with what was let through":   {reading(writing(openAt(300, 0), "zy"), "zz", "zx"), 5},
			"writes alone what another one read":   {writing(openAt(300, 0), "zy"), 3},
			"read what is ready, writes elsewhere": {reading(writing(openAt(300, 0), "za"), "zz"), 3},
		} {
			e := withOpen(full, 0, c.x)
			checkCode(t, what, impl.Judge(e, 300), c.want)
			_, _, code := checkCommit(t, what, e, 300)
			checkCode(t, what+", Commit", code, c.want)
			_, _, code = checkPrepare(t, what, e, 300, "k")
			checkCode(t, what+", Prepare", code, c.want)
		}
	}
}

func TestCommit(t *testing.T) {
	e := judgedOne(6, "a f", "e")
	e.Open[0].Writes = []impl.Write{gone("d"), put("e", "new")}
	e.Open[0].Snap = 8
	e.Open = append(e.Open, openAt(18, 7))
	got, r, code := impl.Commit(e, 17)
	checkCode(t, "Commit", code, 0)
	done := e.Open[0]
	done.State, done.Cs = 3, 10
	want := impl.Engine{Base: e.Base, Open: e.Open[1:]}
	want.Base.Cs, want.Base.Past = 10, []impl.Txn{e.Base.Past[1], e.Base.Past[2], done}
	want.Base.Versions = []impl.Version{
		ver("a", "a7", 7), ver("ab", "ab5", 5), ver("b", "b6", 6), goneVer("b", 9), goneVer("d", 2), ver("d", "", 8), goneVer("d", 10), ver("e", "new", 10), ver("zzz", "end", 9),
	}
	checkEngine(t, "Commit", got, want)
	checkRecord(t, "Commit", r, throughRecord(done))
	checkAnswer(t, "right", impl.EngineOk(got) && impl.RecordOk(r), true)
	again, none, code := checkCommit(t, "again", got, 17)
	checkCode(t, "again", code, 1)
	checkEngine(t, "again", again, got)
	checkRecord(t, "again", none, impl.Record{})
}

// The record is that of Past, also when nobody else is open, and nobody of Past is left; Out when it is ahead of one that was let through.
func TestCommitTellsItAsItStandsInPast(t *testing.T) {
	for _, c := range []struct {
		e   impl.Engine
		out bool
	}{{judgedOne(9, "a b", "e"), false}, {judgedOne(8, "b", "e"), true}, {judgedOne(6, "a", ""), true}, {judgedOne(6, "f", "q"), false}, {judgedOne(6, "", ""), false}} {
		want := c.e.Open[0]
		want.State, want.Cs, want.Out = 3, 10, c.out
		got, r, code := checkCommit(t, "Commit", c.e, 17)
		checkCode(t, "Commit", code, 0)
		checkRecord(t, "the record", r, throughRecord(want))
		checkAnswer(t, "nobody is left", len(got.Base.Past) == 0 && len(got.Open) == 0 && got.Base.Cs == 10, true)
		c.e.Open = append(c.e.Open, openAt(18, 9))
		got, r, _ = checkCommit(t, "beside another one", c.e, 17)
		checkTxn(t, "of Past", got.Base.Past[len(got.Base.Past)-1], want)
		checkRecord(t, "the record, beside another one", r, throughRecord(want))
	}
}

// Who is refused leaves nothing: what is left is what Leave leaves.
func TestWhoIsRefusedLeavesNothing(t *testing.T) {
	refused := map[int]impl.Engine{4: judgedOne(6, "f", "a e m"), 5: judgedOne(6, "a d", "e q"), 3: roomFor(12, 101, 9999)}
	for want, e := range refused {
		id := e.Open[0].Id
		for _, others := range [][]impl.Txn{nil, {openAt(398, 0)}, {openAt(398, 8)}} {
			e.Open = append(e.Open[:1:1], others...)
			e.Base.Next = 400
			left, _ := impl.Leave(e, id)
			got, r, code := checkCommit(t, "Commit", e, id)
			checkCode(t, "Commit", code, want)
			checkEngine(t, "Commit", got, left)
			checkRecord(t, "Commit", r, impl.Record{})
			got, r, code = checkPrepare(t, "Prepare", e, id, "k")
			checkCode(t, "Prepare", code, want)
			checkEngine(t, "Prepare", got, left)
			checkRecord(t, "Prepare", r, impl.Record{})
			if got.Base.Cs != e.Base.Cs || len(got.Base.Ready) != len(e.Base.Ready) || !slices.Equal(impl.ScanAt(got.Base.Versions, everyKey, e.Base.Cs), impl.ScanAt(e.Base.Versions, everyKey, e.Base.Cs)) {
				t.Errorf("code %d: something is left", want)
			}
		}
	}
}

func TestPrepare(t *testing.T) {
	b := impl.GivenUp(someBase(), "m")
	e := impl.Engine{Base: b, Open: []impl.Txn{reading(writing(openAt(17, 6), "e"), "f"), openAt(18, 8)}}
	got, r, code := impl.Prepare(e, 17, "d")
	checkCode(t, "Prepare", code, 0)
	ready := e.Open[0]
	ready.State, ready.Name = 2, "d"
	want := impl.Engine{Base: impl.Tidied(b, snapsOf(8)), Open: e.Open[1:]}
	want.Base.Ready = []impl.Txn{b.Ready[0], ready, b.Ready[1]}
	checkEngine(t, "Prepare", got, want)
	checkRecord(t, "Prepare", r, readyRecord(ready))
	checkAnswer(t, "right", impl.EngineOk(got) && impl.RecordOk(r), true)
	// Nobody sees it yet; its number is not given yet.
	checkAnswer(t, "seen", got.Base.Cs == 9 && !slices.ContainsFunc(got.Base.Versions, func(v impl.Version) bool { return v.Key == "e" }), true)
	// One that is ahead of what was let through is Out, also where nobody of Past is left.
	e.Open = []impl.Txn{reading(openAt(17, 6), "b")}
	got, r, code = checkPrepare(t, "Out", e, 17, "d")
	checkAnswer(t, "Out", code == 0 && r.Txn.Out && got.Base.Ready[1].Out && len(got.Base.Past) == 0, true)
}

func TestPrepareIsRefused(t *testing.T) {
	room := changedEngine(someEngine(), func(e *impl.Engine) { e.Base = impl.GivenUp(e.Base, "c") })
	for what, c := range map[string]struct {
		e     impl.Engine
		id    int
		name  string
		want  int
		stays bool
	}{
		"an Id that is not there":               {room, 20, "k", 1, true},
		"an Id that is not there, no key":       {room, 20, "K", 1, true},
		"an Id that is not there, a Name":       {room, 15, "m", 1, true},
		"no key":                                {room, 17, "K", 2, true},
		"an empty name":                         {room, 17, "", 2, true},
		"a name of four letters":                {room, 17, "mmmm", 2, true},
		"a name that one has":                   {room, 17, "m", 6, true},
		"a name that another one has":           {room, 17, "mm", 6, true},
		"a name that one had":                   {room, 17, "c", 0, false},
		"a beginning of a name":                 {someEngine(), 17, "a", 3, false},
		"three are ready":                       {someEngine(), 18, "k", 3, false},
		"three are ready, a name":               {someEngine(), 18, "c", 6, true},
		"three are ready, no key":               {someEngine(), 18, "C", 2, true},
		"no key, and writes what it may not":    {judgedOne(6, "", "a"), 17, "?", 2, true},
		"a name, and writes what it may not":    {judgedOne(6, "", "a"), 17, "m", 6, true},
		"a name, and no order":                  {judgedOne(6, "d", ""), 17, "m", 6, true},
		"writes what it may not":                {judgedOne(6, "", "a"), 17, "k", 4, false},
		"no order":                              {judgedOne(6, "d", ""), 17, "k", 5, false},
		"no order, and three are ready":         {judgedOne(9, "n", "w"), 17, "k", 5, false},
		"not made ready, and three are ready":   {judgedOne(9, "n", "r"), 17, "k", 5, false},
		"may be let through, three are ready":   {judgedOne(9, "n", ""), 17, "k", 3, false},
		"no room for any, and a name":           {roomFor(12, 0, 20), 300, "r", 6, true},
		"no room for any, and no key":           {roomFor(12, 0, 20), 300, "ra1", 2, true},
		"no room for any":                       {roomFor(12, 0, 20), 300, "k", 3, false},
		"one that writes nothing, with no room": {withOpen(roomFor(0, 101, 3), 0, openAt(300, 0)), 300, "k", 3, false},
	} {
		got, r, code := checkPrepare(t, what, c.e, c.id, c.name)
		checkCode(t, what, code, c.want)
		if c.stays {
			checkEngine(t, what+": as it is", got, c.e)
		} else {
			checkAnswer(t, what+": open", impl.OpenAt(got, c.id) >= 0, false)
		}
		checkAnswer(t, what+": a record", sameRecord(r, impl.Record{}), code != 0)
	}
	for _, name := range wrongKeys() {
		_, _, code := checkPrepare(t, "no key", room, 17, name)
		checkCode(t, "no key", code, 2)
	}
}

// MaxReady of Ready and one below it; who may be let through, but not be made ready, goes with CodeSerial.
func TestPrepareUpToMaxReady(t *testing.T) {
	for n := range 5 {
		e := impl.Engine{Base: impl.Base{Ready: readyOf(n), Next: 400}, Open: openOf(1)}
		_, _, code := checkPrepare(t, fmt.Sprint(n, " ready"), e, 300, "k")
		checkAnswer(t, fmt.Sprint(n, " ready"), code == 0, n < 3)
		checkCode(t, fmt.Sprint(n, " ready, Commit"), impl.Judge(e, 300), 0)
	}
	b := impl.Base{Ready: []impl.Txn{writing(namedOne(200, 0, "p"), "a"), reading(namedOne(201, 0, "q"), "b")}, Next: 400}
	e := impl.Engine{Base: b, Open: []impl.Txn{reading(writing(openAt(300, 0), "b"), "a")}}
	checkCode(t, "let through", impl.Judge(e, 300), 0)
	got, r, code := checkPrepare(t, "made ready", e, 300, "k")
	checkCode(t, "made ready", code, 5)
	checkEngine(t, "made ready", got, impl.Engine{Base: b})
	checkRecord(t, "made ready", r, impl.Record{})
}

func TestFinish(t *testing.T) {
	e := someEngine()
	got, r, code := impl.Finish(e, "m", true)
	checkCode(t, "yes", code, 0)
	done := e.Base.Ready[1]
	done.State, done.Cs, done.Name = 3, 10, ""
	want := e
	want.Base.Cs, want.Base.Past, want.Base.Ready = 10, append(slices.Clone(e.Base.Past), done), []impl.Txn{e.Base.Ready[0], e.Base.Ready[2]}
	want.Base.Versions = impl.PutVersions(trimmedOf(e.Base.Versions, 6), done.Writes, 10)
	checkEngine(t, "yes", got, want)
	checkRecord(t, "yes", r, endRecord("m", true))
	checkAnswer(t, "right", impl.EngineOk(got) && impl.RecordOk(r), true)

	got, r, code = impl.Finish(e, "m", false)
	checkCode(t, "no", code, 0)
	want = e
	want.Base.Ready, want.Base.Versions = []impl.Txn{e.Base.Ready[0], e.Base.Ready[2]}, trimmedOf(e.Base.Versions, 6)
	checkEngine(t, "no", got, want)
	checkRecord(t, "no", r, endRecord("m", false))
	for _, yes := range []bool{true, false} {
		again, r, code := checkFinish(t, "again", got, "m", yes)
		checkCode(t, "again", code, 1)
		checkEngine(t, "again", again, got)
		checkRecord(t, "again", r, impl.Record{})
		// What is left is Tidied to those that are open.
		alone, _, _ := checkFinish(t, "nobody open", impl.Engine{Base: someBase()}, "c", yes)
		checkAnswer(t, "nobody open", len(alone.Base.Past) == 0 && len(alone.Base.Versions) == 4, true)
		late, _, _ := checkFinish(t, "one open", impl.Engine{Base: someBase(), Open: []impl.Txn{openAt(19, 8)}}, "c", yes)
		checkAnswer(t, "one open", late.Base.Past[0].Cs == 9, true)
	}
}

func TestFinishOfAName(t *testing.T) {
	e := someEngine()
	for _, name := range append(anyTexts(), "c", "m", "mm") {
		want := 1
		if name == "c" || name == "m" || name == "mm" {
			want = 0
		}
		for _, yes := range []bool{true, false} {
			got, r, code := checkFinish(t, "any name", e, name, yes)
			checkCode(t, "any name", code, want)
			if code != 0 && (!sameEngine(got, e) || !sameRecord(r, impl.Record{})) {
				t.Errorf("%q: not as it is", name)
			}
		}
	}
	// Where Judge would say CodeFull, yes is refused, and it stays ready; no is not.
	for _, full := range []impl.Engine{roomFor(12, 0, 20), roomFor(0, 101, 20), roomFor(0, 0, 9999)} {
		got, r, code := checkFinish(t, "no room, yes", full, "r", true)
		checkCode(t, "no room, yes", code, 3)
		checkEngine(t, "no room, yes", got, full)
		checkRecord(t, "no room, yes", r, impl.Record{})
		got, _, code = checkFinish(t, "no room, no", full, "r", false)
		checkCode(t, "no room, no", code, 0)
		checkAnswer(t, "no room, no", len(got.Base.Ready) == 0 && len(got.Open) == 1, true)
	}
}

// Who is made ready, and then let through, is not asked again, whatever came between; who wrote what it writes, was refused meanwhile.
func TestWhoIsReadyIsLetThrough(t *testing.T) {
	e, first := open(t, impl.EngineNew())
	e, second := open(t, e)
	e, third := open(t, e)
	e = does(t, e, first, "a", "b")
	e = does(t, e, second, "", "a")
	e = does(t, e, third, "", "b")
	e, _, code := checkPrepare(t, "the first", e, first, "p")
	checkCode(t, "the first", code, 0)
	e, _, code = checkCommit(t, "the second", e, second)
	checkCode(t, "the second", code, 0)
	checkAnswer(t, "the first is Out", e.Base.Ready[0].Out, true)
	_, _, code = checkCommit(t, "the third", e, third)
	checkCode(t, "the third", code, 4)
	e, fourth := open(t, e)
	e, _, there, _ := checkGet(t, "the fourth", e, fourth, "b")
	checkAnswer(t, "what is ready is seen", there, false)
	e, _, code = checkFinish(t, "the first", e, "p", true)
	checkCode(t, "the first, yes", code, 0)
	_, _, code = checkCommit(t, "the fourth", e, fourth)
	checkCode(t, "the fourth, which read what one writes that is Out", code, 5)
	_, value, there, _ := checkGet(t, "the fourth", e, fourth, "b")
	checkAnswer(t, "the fourth sees it", there || value != "", false)
	e, fifth := open(t, e)
	_, value, there, _ = checkGet(t, "the fifth", e, fifth, "b")
	checkAnswer(t, "the fifth sees it", there && value == "by1", true)
}

// ends are the ways in which one that is open may end: let through, or made ready, and then left so or let through.
var ends = []string{"commit", "prepare", "prepare, yes"}

// ended tells whether one was let through, or made ready, and may be let through.
func ended(t *testing.T, e impl.Engine, id int, end string) (impl.Engine, bool) {
	t.Helper()
	if end == "commit" {
		got, _, code := checkCommit(t, end, e, id)
		return got, code == 0
	}
	name := letters(26)[id]
	got, _, code := checkPrepare(t, end, e, id, name)
	if code == 0 && end == "prepare, yes" {
		got, _, code = checkFinish(t, end, got, name, true)
		checkCode(t, end, code, 0)
	}
	return got, code == 0
}

// Of two that read what the other one writes, whichever comes first, and however each of them ends, not both are let through.
func TestOfTwoThatReadEachOthersNotBothAreLetThrough(t *testing.T) {
	for _, firstEnd := range ends {
		for _, secondEnd := range ends {
			for _, turned := range []bool{false, true} {
				for _, more := range []string{"", "k"} {
					e, first := open(t, impl.EngineNew())
					e, second := open(t, e)
					e = does(t, e, first, "x", "y "+more)
					e = does(t, e, second, "y", "x")
					if turned {
						first, second = second, first
					}
					e, one := ended(t, e, first, firstEnd)
					e, both := ended(t, e, second, secondEnd)
					checkAnswer(t, firstEnd+" is let through", one, true)
					checkAnswer(t, firstEnd+", then "+secondEnd+": both are let through", both, false)
					checkAnswer(t, "who is refused leaves nothing", len(e.Open) == 0 && len(impl.ScanAt(e.Base.Versions, everyKey, e.Base.Cs)) <= 2, true)
				}
			}
		}
	}
}

// One that began when the other one was let through already saw it: both are let through, and two of which one alone reads what the other one writes.
func TestOfTwoBothAreLetThrough(t *testing.T) {
	for _, end := range ends {
		for _, keys := range [][4]string{{"x", "y", "", "x"}, {"", "y", "y", "x"}, {"x", "y", "z", "x"}, {"x", "", "y", "x"}} {
			e, first := open(t, impl.EngineNew())
			e, second := open(t, e)
			e = does(t, e, first, keys[0], keys[1])
			e = does(t, e, second, keys[2], keys[3])
			e, one := ended(t, e, first, "commit")
			e, both := ended(t, e, second, end)
			checkAnswer(t, fmt.Sprint(keys, end), one && both, true)
			checkAnswer(t, "right", impl.EngineOk(e), true)
		}
		e, first := open(t, impl.EngineNew())
		e = does(t, e, first, "x", "y")
		e, one := ended(t, e, first, "commit")
		e, second := open(t, e)
		e = does(t, e, second, "y", "x")
		_, both := ended(t, e, second, end)
		checkAnswer(t, "one behind the other, "+end, one && both, true)
	}
}

// Of two that write the same key, both open at once, the first one alone is let through; with one behind the other, both.
func TestOfTwoThatWriteTheSameTheFirstIsLetThrough(t *testing.T) {
	for _, firstEnd := range ends {
		for _, secondEnd := range ends {
			e, first := open(t, impl.EngineNew())
			e, second := open(t, e)
			e = does(t, e, first, "", "a m")
			e = does(t, e, second, "", "m z")
			e, one := ended(t, e, second, firstEnd)
			checkCode(t, "Judge", impl.Judge(e, first), 4)
			e, both := ended(t, e, first, secondEnd)
			checkAnswer(t, firstEnd+", then "+secondEnd, one && !both, true)
			if firstEnd == "prepare" {
				continue
			}
			e, third := open(t, e)
			e = does(t, e, third, "", "m")
			_, behind := ended(t, e, third, secondEnd)
			checkAnswer(t, "one behind the other", behind, true)
		}
	}
}

// Of three of which each read what the next one writes, in whatever order and way they end, not all are let through.
func TestOfThreeInARingNotAllAreLetThrough(t *testing.T) {
	for _, order := range [][]int{{0, 1, 2}, {0, 2, 1}, {1, 0, 2}, {1, 2, 0}, {2, 0, 1}, {2, 1, 0}} {
		for ways := range 27 {
			e := impl.EngineNew()
			ids := make([]int, 3)
			for i := range ids {
				e, ids[i] = open(t, e)
				e = does(t, e, ids[i], letters(3)[i], letters(3)[(i+1)%3])
			}
			all := true
			for i, at := range order {
				var one bool
				e, one = ended(t, e, ids[at], ends[[]int{ways % 3, ways / 3 % 3, ways / 9}[i]])
				all = all && one
				checkAnswer(t, "right", impl.EngineOk(e), true)
			}
			checkAnswer(t, fmt.Sprint("all of a ring, in the order ", order, ", ", ways), all, false)
		}
	}
}

// One that writes nothing sees what a second one wrote, and not yet what the first one writes, which did not see the second one: not all three may be let
// through, whoever comes last, though both writers alone may.
func TestWhoWritesNothingMayBeRefused(t *testing.T) {
	begun := func() (e impl.Engine, first, reader int) {
		e, first = open(t, impl.EngineNew())
		e, second := open(t, e)
		e = does(t, e, first, "x y", "x")
		e = does(t, e, second, "y", "y")
		e, _, code := checkCommit(t, "the second", e, second)
		checkCode(t, "the second", code, 0)
		e, reader = open(t, e)
		return does(t, e, reader, "x y", ""), first, reader
	}
	for _, end := range ends {
		for _, readerEnd := range ends {
			e, first, reader := begun()
			e, one := ended(t, e, reader, readerEnd)
			checkCode(t, "the first, behind who writes nothing", impl.Judge(e, first), 5)
			_, last := ended(t, e, first, end)
			checkAnswer(t, "the reader, then the first: "+readerEnd+", "+end, one && !last, true)

			e, first, reader = begun()
			e, one = ended(t, e, first, end)
			checkCode(t, "who writes nothing", impl.Judge(e, reader), 5)
			_, last = ended(t, e, reader, readerEnd)
			checkAnswer(t, "the first, then the reader: "+end+", "+readerEnd, one && !last, true)
		}
		// Without the reader, or with one that read just one of both, it is let through.
		e, first, reader := begun()
		e, _ = checkLeave(t, "the reader", e, reader)
		_, one := ended(t, e, first, end)
		checkAnswer(t, "the reader left", one, true)
	}
}

// One that writes nothing, and is refused by nobody, has a number of its own, stands in Past as long as another one is open that began ahead of that, and is
// told as any other one; it changes nothing that is seen.
func TestWhoWritesNothingIsLetThrough(t *testing.T) {
	for _, reads := range []string{"", "a", "a b zzz"} {
		for _, others := range []int{0, 1} {
			e := impl.Engine{Base: impl.Base{Versions: []impl.Version{ver("a", "a2", 2), ver("b", "b3", 3)}, Cs: 3, Next: 5}}
			e, id := open(t, e)
			for range others {
				e, _ = open(t, e)
			}
			e = does(t, e, id, reads, "")
			got, r, code := checkCommit(t, "Commit", e, id)
			want := reading(pastOne(id, 3, 4), strings.Fields(reads)...)
			checkCode(t, "Commit", code, 0)
			checkRecord(t, "Commit", r, throughRecord(want))
			checkVersions(t, "what is seen", got.Base.Versions, e.Base.Versions)
			checkAnswer(t, "a number", got.Base.Cs == 4 && len(got.Base.Past) == others && impl.EngineOk(got), true)
			got, r, code = checkPrepare(t, "Prepare", e, id, "p")
			checkAnswer(t, "Prepare", code == 0 && len(got.Base.Ready) == 1 && r.Kind == 2 && got.Base.Cs == 3, true)
			got, _, code = checkFinish(t, "Prepare, yes", got, "p", true)
			checkAnswer(t, "Prepare, yes", code == 0 && got.Base.Cs == 4 && len(got.Base.Past) == others, true)
		}
	}
	// MaxPast of them, while one is open that began ahead of all: then nobody more is let through, until that one leaves.
	e, early := open(t, impl.EngineNew())
	for range 12 {
		var id, code int
		e, id = open(t, e)
		e, _, code = checkCommit(t, "one of many", e, id)
		checkCode(t, "one of many", code, 0)
	}
	checkAnswer(t, "MaxPast of Past", len(e.Base.Past) == 12 && e.Base.Cs == 12, true)
	e, late := open(t, e)
	checkCode(t, "the late one", impl.Judge(e, late), 3)
	checkCode(t, "the early one", impl.Judge(e, early), 3)
	e, _ = checkLeave(t, "the early one", e, early)
	_, _, code := checkCommit(t, "the late one", e, late)
	checkCode(t, "the late one, then", code, 0)
}

// mustBefore tells of two that were let through whether the first must come before the second: it wrote what the second one saw, or overwrote, or it read what
// the second one wrote later.
func mustBefore(a, b impl.Txn) bool {
	likeKey := false
	for _, w := range a.Writes {
		likeKey = likeKey || slices.ContainsFunc(b.Writes, func(other impl.Write) bool { return other.Key == w.Key })
	}
	return a.Cs <= b.Snap && readsOf(b, a) > 0 || a.Cs < b.Cs && likeKey || b.Cs > a.Snap && readsOf(a, b) > 0
}

// oneByOne is an order of all of list in which each comes behind all that must come before it.
func oneByOne(list []impl.Txn) ([]impl.Txn, bool) {
	var order []impl.Txn
	left := slices.Clone(list)
	for len(left) > 0 {
		at := slices.IndexFunc(left, func(x impl.Txn) bool {
			return !slices.ContainsFunc(left, func(y impl.Txn) bool { return y.Id != x.Id && mustBefore(y, x) })
		})
		if at < 0 {
			return nil, false
		}
		order = append(order, left[at])
		left = slices.Delete(left, at, at+1)
	}
	return order, true
}

// many is a drawn life of an engine: all that were let through, all versions that they made, and what is played of the records.
type many struct {
	draw     drawn
	engine   impl.Engine
	through  []impl.Txn
	versions []impl.Version
	played   impl.Base
	codes    map[int]int
}

// keep takes in what was let through, made ready or ended: x is who it is, as it was.
func (m *many) keep(t *testing.T, r impl.Record, code int, x impl.Txn) {
	t.Helper()
	m.codes[code]++
	if code != 0 {
		return
	}
	r = handedOn(t, r)
	want := tidiedOf(m.engine.Base, nil)
	// Who began, and left nothing, is not written down.
	want.Next = max(m.played.Next, x.Id+1)
	m.played = checkPlayed(t, "the next record", m.played, r, want)
	if r.Kind == 2 || r.Kind == 3 && !r.Yes {
		return
	}
	x.State, x.Cs, x.Name = 3, m.engine.Base.Cs, ""
	m.through = append(m.through, x)
	m.versions = impl.PutVersions(m.versions, x.Writes, x.Cs)
}

// step does one thing, with somebody who is open, or ready; now and then with one who is neither.
func (m *many) step(t *testing.T, keys []string) {
	t.Helper()
	what := "a drawn life"
	id, x := m.draw.below(m.engine.Base.Next+1), impl.Txn{}
	if n := len(m.engine.Open); n > 0 && m.draw.below(20) > 0 {
		x = m.engine.Open[m.draw.below(n)]
		id = x.Id
	} else if at := impl.OpenAt(m.engine, id); at >= 0 {
		x = m.engine.Open[at]
	}
	key, name := keys[m.draw.below(len(keys))], letters(4)[m.draw.below(4)]
	var r impl.Record
	code := 0
	switch kind := m.draw.below(28); {
	case kind < 6:
		m.engine, _, _ = checkBegin(t, what, m.engine)
	case kind < 12:
		m.engine, _, _, code = checkGet(t, what, m.engine, id, key)
	case kind < 14:
		m.engine, _, code = checkScanned(t, what, m.engine, id, impl.Range{From: key, To: keys[m.draw.below(len(keys))]})
	case kind < 19:
		m.engine, code = checkPutKey(t, what, m.engine, id, put(key, fmt.Sprint("v", m.draw.below(100))))
	case kind < 20:
		m.engine, code = checkPutKey(t, what, m.engine, id, gone(key))
	case kind < 21:
		m.engine, code = checkLeave(t, what, m.engine, id)
	case kind < 24:
		m.engine, r, code = checkCommit(t, what, m.engine, id)
		m.keep(t, r, code, x)
	case kind < 26:
		m.engine, r, code = checkPrepare(t, what, m.engine, id, name)
		m.keep(t, r, code, x)
	default:
		if at := impl.ReadyAt(m.engine.Base, name); at >= 0 {
			x = m.engine.Base.Ready[at]
		}
		m.engine, r, code = checkFinish(t, what, m.engine, name, m.draw.below(3) > 0)
		m.keep(t, r, code, x)
	}
}

// checkOneByOne tells whether those that were let through met nobody's writes, and are as if they had come one by one, each seeing what it saw.
func (m *many) checkOneByOne(t *testing.T) {
	t.Helper()
	for i, x := range m.through {
		for _, y := range m.through[:i] {
			if besideByWords(x, y) && impl.Meets(x.Writes, y.Writes) {
				t.Fatalf("%#v met the writes of %#v", x, y)
			}
		}
	}
	order, ok := oneByOne(m.through)
	if !ok {
		t.Fatalf("no order of %#v", m.through)
	}
	var seen []impl.Version
	for i, x := range order {
		for _, r := range x.Reads {
			if !slices.Equal(scannedOf(seen, r, i), scannedOf(m.versions, r, x.Snap)) {
				t.Fatalf("%#v sees another thing in its place of the order", x)
			}
		}
		seen = impl.PutVersions(seen, x.Writes, i+1)
	}
	if !slices.Equal(scannedOf(seen, everyKey, len(order)), scannedOf(m.engine.Base.Versions, everyKey, m.engine.Base.Cs)) {
		t.Fatal("what is seen in the end is not what they make one by one")
	}
}

// Promise 11: in drawn lives everything is as the document says, all that were let through are as if they had come one by one, who was refused left nothing, and
// who is ready may be let through.
func TestManyAtOnce(t *testing.T) {
	codes := map[int]int{}
	for seed := range 250 {
		m := &many{draw: drawn(seed * 7919), engine: impl.EngineNew(), played: impl.BaseNew(), codes: codes}
		keys := letters(2 + seed%4)
		for range 120 {
			m.step(t, keys)
			if !impl.EngineOk(m.engine) || m.engine.Base.Cs != len(m.through) {
				t.Fatalf("an engine that is not right: %#v", m.engine)
			}
			for _, x := range m.engine.Base.Ready {
				if _, _, code := impl.Finish(m.engine, x.Name, true); code != 0 && code != 3 {
					t.Fatalf("%#v may not be let through: %d", x, code)
				}
			}
		}
		m.checkOneByOne(t)
	}
	for code := range 7 {
		if codes[code] == 0 && code != 2 {
			t.Errorf("code %d never came", code)
		}
	}
}

// Every function, of every engine, right or wrong, held against the document's sentences.
func TestEnginesOfAnything(t *testing.T) {
	names := append(anyTexts(), "p", "c", "mm")
	for i, e := range anyEngines() {
		checkAnswer(t, fmt.Sprintf("%#v", e), impl.EngineOk(e), engineRight(e))
		checkBegin(t, "any", e)
		ids := []int{0, -1, 1, 20, math.MinInt, math.MaxInt, e.Base.Next}
		for _, x := range slices.Concat(e.Open, e.Base.Past, e.Base.Ready) {
			ids = append(ids, x.Id)
		}
		slices.Sort(ids)
		for k, id := range slices.Compact(ids) {
			key, name := names[(i+k)%len(names)], names[(i*3+k)%len(names)]
			checkGet(t, "any", e, id, key)
			checkScanned(t, "any", e, id, impl.Range{From: key, To: name})
			checkScanned(t, "any", e, id, everyKey)
			checkPutKey(t, "any", e, id, put(key, name))
			checkPutKey(t, "any", e, id, gone(name))
			checkLeave(t, "any", e, id)
			checkCommit(t, "any", e, id)
			checkPrepare(t, "any", e, id, name)
			checkPrepare(t, "any", e, id, "k")
		}
		for _, name := range []string{"", "k", names[i%len(names)]} {
			checkFinish(t, "any", e, name, i%2 == 0)
		}
		for _, x := range e.Base.Ready {
			checkFinish(t, "any", e, x.Name, true)
			checkFinish(t, "any", e, x.Name, false)
		}
	}
}

func TestEnginesOfLongLists(t *testing.T) {
	e := impl.Engine{Base: impl.Base{Versions: manyVersions(900), Cs: 5000, Next: 3}}
	for i := range 300 {
		e.Base.Past = append(e.Base.Past, writing(pastOne(-i, 1, 5000-i), "p"))
		e.Base.Ready = append(e.Base.Ready, reading(namedOne(1000+i, 1, fmt.Sprintf("%05d", i*2)), "r"))
		e.Open = append(e.Open, reading(writing(openAt(2000+i, 4000+i), letters(26)[i%26]), "w"))
	}
	checkBegin(t, "long", e)
	for _, id := range []int{2000, 2013, 2015, 2017, 2299, 2300, 1000} {
		checkGet(t, "long", e, id, "aa")
		checkScanned(t, "long", e, id, everyKey)
		checkPutKey(t, "long", e, id, put("q", ""))
		checkLeave(t, "long", e, id)
		checkCommit(t, "long", e, id)
		checkPrepare(t, "long", e, id, "k")
	}
	checkFinish(t, "long", e, "00444", true)
	checkFinish(t, "long", e, "00444", false)
	checkAnswer(t, "EngineOk", impl.EngineOk(e), false)
}

func roomyEngine(e impl.Engine) impl.Engine {
	return impl.Engine{Base: roomyBase(e.Base), Open: roomyTxns(e.Open)}
}

func engineTexts(e impl.Engine) []string {
	return append(baseTexts(e.Base), txnsTexts(e.Open)...)
}

// engineAnswer is an engine, and what is told beside it.
type engineAnswer struct {
	engine impl.Engine
	record impl.Record
	pairs  []impl.Pair
	value  string
}

func sameAnswer(a, b engineAnswer) bool {
	return sameEngine(a.engine, b.engine) && sameRecord(a.record, b.record) && slices.Equal(a.pairs, b.pairs) && a.value == b.value
}

func (a engineAnswer) texts() []string {
	return append(slices.Concat(engineTexts(a.engine), recordTexts(a.record), pairTexts(a.pairs)), a.value)
}

// spoil writes into all of it, and behind it.
func (a engineAnswer) spoil() {
	spoil(a.engine.Base)
	spoil(impl.Base{Past: a.engine.Open, Ready: []impl.Txn{a.record.Txn}})
	for i := range a.pairs {
		a.pairs[i] = pair("other", "other")
	}
	_ = append(a.pairs, pair("other", "other"))
}

// engineAnswers asks for everything that answers one, done and refused.
func engineAnswers(e impl.Engine, id int, key, name string) map[string]engineAnswer {
	var begin, get, refused, scan, puts, leave, commit, prepare, yes, no engineAnswer
	begin.engine, _, _ = impl.Begin(e)
	get.engine, get.value, _, _ = impl.GetKey(e, id, key)
	refused.engine, refused.value, _, _ = impl.GetKey(e, id, key+"?")
	scan.engine, scan.pairs, _ = impl.ScanKeys(e, id, impl.Range{From: key, To: "zzz"})
	puts.engine, _ = impl.PutKey(e, id, impl.Write{Key: key, Value: key})
	leave.engine, _ = impl.Leave(e, id)
	commit.engine, commit.record, _ = impl.Commit(e, id)
	prepare.engine, prepare.record, _ = impl.Prepare(e, id, name)
	yes.engine, yes.record, _ = impl.Finish(e, name, true)
	no.engine, no.record, _ = impl.Finish(e, name, false)
	return map[string]engineAnswer{"Begin": begin, "GetKey": get, "GetKey, refused": refused, "ScanKeys": scan, "PutKey": puts, "Leave": leave,
		"Commit": commit, "Prepare": prepare, "Finish, yes": yes, "Finish, no": no, "EngineNew": {engine: impl.EngineNew()}}
}

// memoryEngines have one text in all places, or are wrong, or have many.
func memoryEngines() []impl.Engine {
	key := fresh("abc")
	b := impl.Base{Versions: []impl.Version{ver(key, key, 1)}, Past: []impl.Txn{writing(pastOne(2, 0, 1), "y")}, Ready: []impl.Txn{reading(namedOne(3, 0, key), key), writing(namedOne(4, 0, "b"), "z")}, Cs: 1, Next: 9}
	all := []impl.Engine{
		someEngine(), impl.EngineNew(), {}, judgedOne(6, "f", "e"), judgedOne(6, "a", "q"), roomFor(3, 5, 20), roomFor(12, 5, 20),
		{Base: b, Open: []impl.Txn{{Id: 5, State: 1, Reads: []impl.Range{oneKey(key)}, Writes: []impl.Write{put(key, key)}}, {Id: 6, State: 1, Reads: rangesOf(8), Writes: writesOf(letters(8)...)}}},
	}
	for _, b := range append(memoryBases()[2:3], tangledBases()[20:23]...) {
		all = append(all, impl.Engine{Base: b, Open: b.Ready[:min(len(b.Ready), 5)]})
	}
	return all
}

func TestEnginesAnswerNewMemory(t *testing.T) {
	for _, plain := range memoryEngines() {
		e, key := roomyEngine(plain), fresh("abc")
		ids := []int{1, 17}
		for _, x := range plain.Open {
			ids = append(ids, x.Id)
		}
		for _, name := range []string{fresh("k"), fresh("abc"), fresh("r")} {
			given := append(engineTexts(e), key, name)
			for _, id := range ids {
				first, second := engineAnswers(e, id, key, name), engineAnswers(e, id, key, name)
				for what, answer := range first {
					checkApart(t, what, answer.texts(), append(second[what].texts(), given...))
					checkListsApart(t, what, impl.Base{Versions: answer.engine.Base.Versions, Past: slices.Concat(answer.engine.Base.Past, answer.engine.Base.Ready), Ready: append(slices.Clone(answer.engine.Open), answer.record.Txn)})
					checkApart(t, what+", what is told beside it", append(pairTexts(answer.pairs), answer.value, answer.record.Name), engineTexts(answer.engine))
					answer.spoil()
				}
				for what, answer := range engineAnswers(e, id, key, name) {
					checkAnswer(t, what+" is the same again", sameAnswer(answer, second[what]), true)
				}
				impl.EngineOk(e)
				impl.OpenAt(e, id)
				impl.Judge(e, id)
			}
		}
		checkUntouched(t, e.Base, plain.Base)
		checkRoomy(t, e.Open, plain.Open)
	}
}

// No list of an answer is to be seen in another one of it: what is written into one changes none of the others.
func TestEngineAnswersListsApart(t *testing.T) {
	for _, plain := range memoryEngines() {
		for _, x := range append(slices.Clone(plain.Open), openAt(17, 0)) {
			second := engineAnswers(plain, x.Id, "abc", "k")
			for what, answer := range engineAnswers(plain, x.Id, "abc", "k") {
				spoil(answer.engine.Base)
				checkAnswer(t, what+": Open", slices.EqualFunc(answer.engine.Open, second[what].engine.Open, sameTxn), true)
				checkAnswer(t, what+": the record", sameRecord(answer.record, second[what].record), true)
				spoil(impl.Base{Past: answer.engine.Open})
				checkAnswer(t, what+": the record", sameRecord(answer.record, second[what].record), true)
				checkAnswer(t, what+": the pairs", slices.Equal(answer.pairs, second[what].pairs), true)
			}
		}
	}
}

// Lists that lie in one piece of memory, one behind the other, are not written into.
func TestEnginesInOnePieceOfMemory(t *testing.T) {
	plain := someEngine()
	whole := slices.Concat(plain.Base.Past, plain.Base.Ready, plain.Open, snapsOf(6, 7))
	was := slices.Clone(whole)
	e := plain
	e.Base.Past, e.Base.Ready, e.Open = whole[:3], whole[3:6], whole[6:9]
	for _, id := range []int{17, 18, 19, 20} {
		for _, name := range []string{"k", "c", "m"} {
			want := engineAnswers(plain, id, "a", name)
			for what, answer := range engineAnswers(e, id, "a", name) {
				checkAnswer(t, what, sameAnswer(answer, want[what]), true)
				answer.spoil()
			}
		}
	}
	if !slices.EqualFunc(whole, was, sameTxn) {
		t.Error("something is written into what was handed in")
	}
}
