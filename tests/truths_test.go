package tests

import (
	"fmt"
	"math"
	"slices"
	"strings"
	"testing"

	"loop.example/g00327/impl"
)

func serialByWords(w impl.World) bool {
	order, ok := orderByWords(w.Past)
	return ok && rightByWords(w.Past, order)
}

func keptByWords(w impl.World) bool {
	risen, ok := riseOf(w.Store.Disk)
	return storeRight(w.Store) && ok && likeOf(risen.Engine.Base, tidiedOf(w.Store.Engine.Base, nil))
}

func pastByWords(w impl.World) bool {
	values := map[string]string{}
	for i, x := range w.Past {
		if x.State != 3 || i > 0 && w.Past[i-1].Cs >= x.Cs {
			return false
		}
		changeValues(values, x.Writes)
	}
	base := w.Store.Engine.Base
	return slices.Equal(scannedOf(base.Versions, everyKey, base.Cs), pairsIn(values, everyKey))
}

func doubtByWords(w impl.World) bool {
	for _, x := range w.Store.Engine.Base.Ready {
		if _, _, code := finishOf(w.Store.Engine, x.Name, true); code != 0 && code != 3 {
			return false
		}
	}
	return true
}

// checkTruths asks for all five, holds each against the document's sentence, and tells which of the four are false. It ends
// the test with the first wrong answer, since it is asked of very many.
func checkTruths(t *testing.T, what string, w impl.World) string {
	t.Helper()
	var wrong []string
	for _, one := range []struct {
		name      string
		got, want bool
	}{
		{"serial", impl.Serial(w), serialByWords(w)},
		{"kept", impl.KeptRight(w), keptByWords(w)},
		{"past", impl.PastRight(w), pastByWords(w)},
		{"doubt", impl.DoubtRight(w), doubtByWords(w)},
	} {
		if one.got != one.want {
			t.Fatalf("%s: %s is %v; Past %#v, the engine %#v", what, one.name, one.got, w.Past, w.Store.Engine)
		}
		if !one.got {
			wrong = append(wrong, one.name)
		}
	}
	if sound := impl.SoundWorld(w); sound != (len(wrong) == 0) {
		t.Fatalf("%s: SoundWorld is %v, false are %q", what, sound, wrong)
	}
	return strings.Join(wrong, " ")
}

// checkFalse tells whether just these are false; with none of them the world is sound.
func checkFalse(t *testing.T, what string, w impl.World, want string) {
	t.Helper()
	if got := checkTruths(t, what, w); got != want {
		t.Errorf("%s: %q are false; want %q; Past is %#v", what, got, want, w.Past)
	}
}

// checkWhatMayCome tells whether a world stays sound when those that are ready are let through or given up, when it is fixed and when it
// falls: who is ready may be let through then, too, unless there is no room.
func checkWhatMayCome(t *testing.T, what string, w impl.World) {
	t.Helper()
	n := len(w.Codes)
	left := []impl.World{w, impl.StepWorld(w, ev("fix")), impl.StepWorld(w, ev("fall 33 1 1"))}
	for _, before := range left {
		checkFalse(t, what+", and then", before, "")
		for _, x := range before.Store.Engine.Base.Ready {
			for _, kind := range []int{impl.EvYes, impl.EvNo} {
				behind := impl.StepWorld(before, impl.Event{Kind: kind, Key: x.Name})
				if code := behind.Codes[len(behind.Codes)-1]; code != 0 && code != 3 {
					t.Fatalf("%s: %s of %q has the code %d", what, eventWords[kind], x.Name, code)
				}
				checkFalse(t, what+", and "+eventWords[kind], behind, "")
			}
		}
	}
	if len(w.Codes) != n {
		t.Fatal("a world is another one behind what comes of it")
	}
}

// soundly takes a world through lines, as lives does: it is sound at each step, and whatever may come then.
func soundly(t *testing.T, w impl.World, lines ...string) impl.World {
	t.Helper()
	checkFalse(t, "ahead of all", w, "")
	for _, line := range lines {
		w = lives(t, w, line)
		checkWhatMayCome(t, line, w)
	}
	return w
}

func TestNewWorldIsSound(t *testing.T) {
	checkFalse(t, "WorldNew", impl.WorldNew(), "")
	w, _ := impl.RunWorld(nil)
	checkFalse(t, "no event", w, "")
	// Of nothing at all there is no base that is right, and no disk.
	checkFalse(t, "nothing", impl.World{}, "kept")
	checkFalse(t, "nothing but codes", impl.World{Codes: []int{5}, Said: []string{"1"}}, "kept")
}

// Several that are open at once: let through, refused for what they wrote, or read, and given up.
func TestSoundLivesOfManyAtOnce(t *testing.T) {
	soundly(t, impl.WorldNew(), "begin -> 0 1", "begin -> 0 2", "get 1 a -> 0 -", "get 2 b -> 0 -", "put 1 b by1 -> 0", "put 2 a by2 -> 0", "commit 1 -> 0", "commit 2 -> 5", "begin -> 0 3", "scan 3 a z -> 0 b=by1", "commit 3 -> 0")
	soundly(t, impl.WorldNew(), "begin -> 0 1", "begin -> 0 2", "begin -> 0 3", "begin -> 0 4", "begin -> 3", "put 1 a by1 -> 0", "put 2 a by2 -> 0", "put 3 c by3 -> 0", "scan 4 a c -> 0", "commit 2 -> 0", "commit 1 -> 4", "abort 3 -> 0",
		"put 4 d by4 -> 0", "commit 4 -> 0", "begin -> 0 5", "delete 5 a -> 0", "delete 5 q -> 0", "scan 5 a z -> 0 d=by4", "commit 5 -> 0", "commit 5 -> 1", "begin -> 0 6", "get 6 a -> 0 -", "commit 6 -> 0")
	// 2 did not see what 3 wrote; 4 saw it, and did not see what 2 writes: 2 would have to come before 3, and behind 4.
	soundly(t, impl.WorldNew(), "begin -> 0 1", "put 1 x by1 -> 0", "put 1 y by1 -> 0", "commit 1 -> 0", "begin -> 0 2", "get 2 x -> 0 by1", "get 2 y -> 0 by1", "put 2 x by2 -> 0", "begin -> 0 3", "get 3 y -> 0 by1", "put 3 y by3 -> 0", "commit 3 -> 0",
		"begin -> 0 4", "scan 4 x y -> 0 x=by1,y=by3", "commit 4 -> 0", "commit 2 -> 5", "begin -> 0 5", "get 5 x -> 0 by1", "commit 5 -> 0")
}

// Some are made ready, finished with yes and with no; it is fixed and falls between.
func TestSoundLivesOfSomeThatAreReady(t *testing.T) {
	soundly(t, impl.WorldNew(), "begin -> 0 1", "put 1 a by1 -> 0", "prepare 1 p -> 0", "begin -> 0 2", "put 2 a by2 -> 0", "commit 2 -> 4", "begin -> 0 3", "get 3 a -> 0 -", "put 3 b by3 -> 0", "prepare 3 q -> 0", "fix -> 0", "fall 64 1 -> 0",
		"begin -> 0 4", "get 4 b -> 0 -", "put 4 c by4 -> 0", "prepare 4 q -> 6", "prepare 4 r -> 5", "begin -> 0 5", "get 5 d -> 0 -", "put 5 c by5 -> 0", "prepare 5 r -> 0", "fall 0 -> 0", "yes p -> 0", "no q -> 0", "fix -> 0", "yes r -> 0",
		"begin -> 0 6", "scan 6 a z -> 0 a=by1,c=by5", "commit 6 -> 0")
	soundly(t, impl.WorldNew(), "begin -> 0 1", "begin -> 0 2", "get 1 a -> 0 -", "put 1 b by1 -> 0", "prepare 1 p -> 0", "get 2 b -> 0 -", "put 2 a by2 -> 0", "commit 2 -> 5", "begin -> 0 3", "put 3 a by3 -> 0", "commit 3 -> 0",
		"begin -> 0 4", "get 4 b -> 0 -", "commit 4 -> 5", "fall 1 1 -> 0", "begin -> 0 4", "scan 4 a c -> 0 a=by3", "commit 4 -> 5", "yes p -> 0", "begin -> 0 5", "scan 5 a c -> 0 a=by3,b=by1", "commit 5 -> 0")
	// 1 is made ready when 2, whose write it did not see, is through; 3 sees that one, and not what 1 writes.
	soundly(t, impl.WorldNew(), "begin -> 0 1", "begin -> 0 2", "get 1 a -> 0 -", "put 1 b by1 -> 0", "put 2 a by2 -> 0", "commit 2 -> 0", "prepare 1 p -> 0", "begin -> 0 3", "get 3 a -> 0 by2", "get 3 b -> 0 -", "commit 3 -> 5",
		"fall 64 1 -> 0", "begin -> 0 3", "scan 3 a b -> 0 a=by2", "commit 3 -> 5", "yes p -> 0")
	three := []string{"begin -> 0 1", "begin -> 0 2", "begin -> 0 3", "begin -> 0 4", "put 1 a by1 -> 0", "get 2 a -> 0 -", "delete 3 c -> 0", "prepare 1 b -> 0", "prepare 2 a -> 0", "prepare 3 c -> 0", "prepare 4 d -> 3", "fall 2 1 -> 0"}
	for rest, seen := range map[string]string{"yes a, yes b, yes c": " a=by1", "yes c, yes b, yes a": " a=by1", "no b, yes a, no c": "", "no a, no b, no c": ""} {
		ends := strings.Split(strings.ReplaceAll(rest, ",", " -> 0,")+" -> 0", ", ")
		soundly(t, impl.WorldNew(), slices.Concat(three, ends, []string{"begin -> 0 4", "scan 4 a z -> 0" + seen, "commit 4 -> 0"})...)
	}
}

// Where there is no room to let one through that is ready, that is no fault: there may be some later on.
func TestReadyWithoutRoomIsNoFault(t *testing.T) {
	w := soundly(t, impl.WorldNew(), "begin -> 0 1", "begin -> 0 2", "put 2 p by2 -> 0", "prepare 2 p -> 0")
	for id := 3; id < 15; id++ {
		w = lives(t, w, fmt.Sprint("begin -> 0 ", id), fmt.Sprint("put ", id, " k v", id, " -> 0"), fmt.Sprint("commit ", id, " -> 0"))
		checkFalse(t, "Past grows", w, "")
	}
	soundly(t, w, "yes p -> 3", "abort 1 -> 0", "yes p -> 0")
	w = lives(t, impl.WorldNew(), "begin -> 0 1", "put 1 zz by1 -> 0", "prepare 1 p -> 0")
	for i := range 13 {
		w = lives(t, w, fmt.Sprint("begin -> 0 ", i+2))
		for _, key := range letters(8) {
			w = lives(t, w, fmt.Sprintf("put %d %s%s v -> 0", i+2, letters(26)[i], key))
		}
		w = lives(t, w, fmt.Sprint("commit ", i+2, " -> 0"))
		checkFalse(t, "Versions grow", w, "")
	}
	soundly(t, w, "yes p -> 3", "fall 0 -> 0", "yes p -> 3", "no p -> 0")
	e := impl.Engine{Base: impl.Base{Ready: []impl.Txn{writing(namedOne(3, 7, "p"), "a"), namedOne(2, 8, "q")}, Cs: 9999, Next: 5}}
	soundly(t, impl.World{Store: storeOf(e)}, "yes p -> 3", "yes q -> 3", "no p -> 0")
	e.Base.Cs = 9998
	soundly(t, impl.World{Store: storeOf(e)}, "yes q -> 0", "yes p -> 3", "no p -> 0")
}

// pastTelling is one that wrote all that a base tells at its Cs.
func pastTelling(b impl.Base) []impl.Txn {
	x := pastOne(1, 0, b.Cs)
	for _, p := range scannedOf(b.Versions, everyKey, b.Cs) {
		x.Writes = append(x.Writes, put(p.Key, p.Value))
	}
	return []impl.Txn{x}
}

// A log that is full when one that is ready would be let through: behind a switch there is room, or there is none at all.
func TestReadyWithAFullLogIsNoFault(t *testing.T) {
	past := pastTelling(someBase())
	for left := range 13 {
		w := impl.World{Store: impl.Store{Engine: someEngine(), Disk: logWithRoom(someBase(), left)}, Past: past}
		checkWhatMayCome(t, fmt.Sprint(left, " bytes are left"), lives(t, w, "no mm -> 0"))
		soundly(t, w, "yes mm -> 0", "yes m -> 0", "yes c -> 0")
	}
	for _, size := range []int{3008, 3007, 3000, 2900} {
		b := baseOfSize(size)
		w := impl.World{Store: storeOf(impl.Engine{Base: b}), Past: pastTelling(b)}
		w = soundly(t, w, fmt.Sprint("yes ", b.Ready[0].Name, " -> 3"))
		// Nobody can be let through, or given up, where nothing can be kept.
		_, code := impl.StoreFinish(w.Store, b.Ready[0].Name, false)
		checkAnswer(t, fmt.Sprint("given up in a log of ", size), code == 3, size >= 3000)
	}
	for what, d := range unkeeping() {
		w := impl.World{Store: impl.Store{Engine: someEngine(), Disk: d}, Past: past}
		_, code := impl.StoreFinish(w.Store, "m", true)
		checkCode(t, what, code, 3)
		checkFalse(t, what, w, "kept")
	}
}

// worldOf is a world in which these are all that were let through: its base tells what they made, and its log says the same.
func worldOf(past ...impl.Txn) impl.World {
	b := impl.Base{Next: 1}
	for _, x := range past {
		b.Versions = sortedVersions(b.Versions, x.Writes, x.Cs)
		b.Cs, b.Next = max(b.Cs, x.Cs), max(b.Next, x.Id+1)
	}
	return impl.World{Store: storeOf(impl.Engine{Base: b}), Past: past}
}

// Serial alone is false: two, or more, must each come before the other one, or one did not see what it should have seen.
func TestSerialAlone(t *testing.T) {
	at := pastOne
	var ring []impl.Txn
	for i := range 9 {
		ring = append(ring, doing(at(i+1, 0, i+1), letters(9)[(i+1)%9], letters(9)[i]))
	}
	for what, c := range map[string]struct {
		past []impl.Txn
		want string
	}{
		"nobody":                         {nil, ""},
		"one":                            {txnList(doing(at(1, 0, 1), "a b", "a -b")), ""},
		"one behind the other":           {txnList(doing(at(1, 0, 1), "a", "a"), doing(at(2, 1, 2), "a", "-a"), doing(at(3, 2, 3), "a..c", "a b")), ""},
		"each read what the other wrote": {txnList(doing(at(1, 0, 1), "a", "b"), doing(at(2, 0, 2), "b", "a")), "serial"},
		"one of both saw the other one":  {txnList(doing(at(1, 0, 1), "a", "b"), doing(at(2, 1, 2), "b", "a")), ""},
		"each read and wrote one key":    {txnList(doing(at(1, 0, 1), "a", "a"), doing(at(2, 0, 2), "a", "a")), "serial"},
		"each looked at a range into which the other one put": {txnList(doing(at(1, 0, 1), "a..c", "a"), doing(at(2, 0, 2), "a..c", "b")), "serial"},
		"one looked at a range into which the other one put":  {txnList(doing(at(1, 0, 1), "a..c", "a"), doing(at(2, 0, 2), "c", "b")), ""},
		"each took out what the other one read":               {txnList(doing(at(1, 0, 1), "a", "-b"), doing(at(2, 0, 2), "b", "-a")), "serial"},
		"who comes later comes first":                         {txnList(doing(at(1, 0, 1), "", "b"), doing(at(2, 0, 2), "b", "a")), ""},
		"a ring of three":                                     {txnList(doing(at(1, 0, 1), "a", "b"), doing(at(2, 0, 2), "b", "c"), doing(at(3, 0, 3), "c", "a")), "serial"},
		"a ring of three that is open":                        {txnList(doing(at(1, 0, 1), "", "b"), doing(at(2, 0, 2), "b", "c"), doing(at(3, 0, 3), "c", "a")), ""},
		"one wrote nothing, and is in the ring":               {txnList(doing(at(2, 0, 1), "y", "y"), doing(at(1, 0, 2), "x y", "x"), doing(at(3, 1, 3), "x y", "")), "serial"},
		"a ring of nine":                                      {ring, "serial"},
		"a ring of nine, less one":                            {ring[1:], ""},
		"one of one Id did not see what it should have":       {txnList(doing(at(1, 0, 1), "", "a"), doing(at(1, 0, 2), "a", "")), "serial"},
		"one of one Id saw it":                                {txnList(doing(at(1, 0, 1), "", "a"), doing(at(1, 1, 2), "a", "")), ""},
		"one of another Id did not see it":                    {txnList(doing(at(1, 0, 1), "", "a"), doing(at(2, 0, 2), "a", "")), ""},
		"the last one of several did not see it":              {txnList(doing(at(1, 0, 1), "", "a"), doing(at(2, 1, 2), "a", "b"), doing(at(1, 0, 3), "a", "")), "serial"},
		"the last one of several read what is gone":           {txnList(doing(at(1, 0, 1), "", "a"), doing(at(1, 1, 2), "", "-a"), doing(at(1, 1, 3), "a", "")), "serial"},
	} {
		w := worldOf(c.past...)
		checkFalse(t, what, w, c.want)
		// The engine's own Past, what was told and who is open are not asked.
		w.Codes, w.Said = []int{5, 0, -1}, []string{"b=1"}
		w.Store.Engine.Base.Next += 2
		w.Store.Engine.Open = txnList(doing(openAt(w.Store.Engine.Base.Next-1, 0), "a..c", "a b"))
		checkFalse(t, what+", with one open", w, c.want)
	}
}

// wholeWorld has three that were let through, of which the first read what the second one wrote, and the third took out what the second
// one put; one is ready, and two are open, of whom one began ahead of all: its base is not tidied.
func wholeWorld(t *testing.T) impl.World {
	t.Helper()
	return runs(t, "begin -> 0 1", "begin -> 0 2", "begin -> 0 3", "get 2 a -> 0 -", "put 2 b by2 -> 0", "put 3 a by3 -> 0", "put 3 x by3 -> 0", "commit 2 -> 0", "commit 3 -> 0", "begin -> 0 4", "get 4 a -> 0 by3", "put 4 c by4 -> 0",
		"delete 4 x -> 0", "commit 4 -> 0", "begin -> 0 5", "put 5 d by5 -> 0", "prepare 5 p -> 0", "begin -> 0 6", "get 6 a -> 0 by3", "put 6 e by6 -> 0")
}

// changedWorld is w behind what change does to it; all of it is its own.
func changedWorld(w impl.World, change func(w *impl.World)) impl.World {
	out := roomyWorld(w)
	out.Store.Disk = impl.Disk{Sectors: slices.Clone(w.Store.Disk.Sectors), Cache: slices.Clone(w.Store.Disk.Cache)}
	change(&out)
	return out
}

func checkChanges(t *testing.T, w impl.World, want string, changes map[string]func(w *impl.World)) {
	t.Helper()
	checkFalse(t, "nothing is changed", w, "")
	for what, change := range changes {
		checkFalse(t, what, changedWorld(w, change), want)
	}
	checkFalse(t, "what was changed", w, "")
}

// PastRight alone is false: Past does not ascend, one is not done, or they make another thing than the base tells.
func TestPastRightAlone(t *testing.T) {
	whole := wholeWorld(t)
	checkPast(t, whole, doing(pastOne(2, 0, 1), "a", "b"), doing(pastOne(3, 0, 2), "", "a x"), doing(pastOne(4, 2, 3), "a", "c -x"))
	changes := map[string]func(w *impl.World){
		"the first two the other way round": func(w *impl.World) { w.Past[0], w.Past[1] = w.Past[1], w.Past[0] },
		"the last two the other way round":  func(w *impl.World) { w.Past[1], w.Past[2] = w.Past[2], w.Past[1] },
		"all turned round":                  func(w *impl.World) { slices.Reverse(w.Past) },
		"the first one with a later Cs":     func(w *impl.World) { w.Past[0].Cs = 9 },
		"the first two with one Cs":         func(w *impl.World) { w.Past[1].Cs = 1 },
		"the first two with another one Cs": func(w *impl.World) { w.Past[0].Cs = 2 },
		"the last two with one Cs":          func(w *impl.World) { w.Past[2].Cs = 2 },
		"the first and the last with one":   func(w *impl.World) { w.Past[0].Cs = 3 },
		"one twice":                         func(w *impl.World) { w.Past = append(w.Past, w.Past[2]) },
		"nobody":                            func(w *impl.World) { w.Past = nil },
		"nobody, in a list":                 func(w *impl.World) { w.Past = w.Past[:0] },
		"the first one is not there":        func(w *impl.World) { w.Past = w.Past[1:] },
		"the second one is not there":       func(w *impl.World) { w.Past = slices.Delete(w.Past, 1, 2) },
		"the last one is not there":         func(w *impl.World) { w.Past = w.Past[:2] },
		"one more, with a key":              func(w *impl.World) { w.Past = append(w.Past, doing(pastOne(9, 3, 4), "", "q")) },
		"one more, with another value":      func(w *impl.World) { w.Past = append(w.Past, doing(pastOne(9, 3, 4), "", "a")) },
		"one more, with a key taken out":    func(w *impl.World) { w.Past = append(w.Past, doing(pastOne(9, 3, 4), "", "-a")) },
		"another value":                     func(w *impl.World) { w.Past[0].Writes[0].Value = "by" },
		"an empty value":                    func(w *impl.World) { w.Past[0].Writes[0].Value = "" },
		"another value of what is gone":     func(w *impl.World) { w.Past[2].Writes = doing(w.Past[2], "", "c x").Writes },
		"another key":                       func(w *impl.World) { w.Past[0].Writes[0].Key = "bb" },
		"taken out, and not put":            func(w *impl.World) { w.Past[0].Writes = []impl.Write{gone("b")} },
		"not taken out":                     func(w *impl.World) { w.Past[2].Writes = w.Past[2].Writes[:1] },
		"nothing written":                   func(w *impl.World) { w.Past[0].Writes = nil },
		"a write more":                      func(w *impl.World) { w.Past[1].Writes = append(w.Past[1].Writes, put("zzz", "")) },
		"a write of one key more":           func(w *impl.World) { w.Past[1].Writes = append(w.Past[1].Writes, put("a", "")) },
		"two values the other way round": func(w *impl.World) {
			w.Past[0].Writes[0].Value, w.Past[2].Writes[0].Value = w.Past[2].Writes[0].Value, w.Past[0].Writes[0].Value
		},
	}
	for i := range 3 {
		for _, state := range []int{0, 1, 2, 4, -3, math.MinInt, math.MaxInt} {
			changes[fmt.Sprint("State ", state, " of ", i)] = func(w *impl.World) { w.Past[i].State = state }
		}
	}
	checkChanges(t, whole, "past", changes)
}

// PastRight alone is false, too, where the base and its log tell another thing than they made.
func TestPastRightOfAnotherBase(t *testing.T) {
	changes := map[string]func(w *impl.World){}
	for what, change := range map[string]func(b *impl.Base){
		"another value":               func(b *impl.Base) { b.Versions[0].Value = "other" },
		"an empty value":              func(b *impl.Base) { b.Versions[0].Value = "" },
		"the last key is gone":        func(b *impl.Base) { b.Versions[2] = goneVer("c", 3) },
		"the last key is not there":   func(b *impl.Base) { b.Versions = slices.Delete(b.Versions, 2, 3) },
		"the first key is not there":  func(b *impl.Base) { b.Versions = b.Versions[1:] },
		"what was taken out is there": func(b *impl.Base) { b.Versions = b.Versions[:4] },
		"one key more":                func(b *impl.Base) { b.Versions = slices.Insert(b.Versions, 3, ver("d", "", 2)) },
		"one key more, behind all":    func(b *impl.Base) { b.Versions = append(b.Versions, ver("zzz", "", 2)) },
		"one key more, ahead of all": func(b *impl.Base) {
			b.Versions = slices.Insert(b.Versions, 0, ver("a", "", 1))
			b.Versions[1].Key = "aa"
		},
		"one value later":               func(b *impl.Base) { b.Versions = slices.Insert(b.Versions, 1, ver("a", "later", 3)) },
		"no versions":                   func(b *impl.Base) { b.Versions = nil },
		"a new base, with those ready":  func(b *impl.Base) { *b = impl.Base{Ready: b.Ready, Cs: 3, Next: 7} },
		"one number more, and a value":  func(b *impl.Base) { b.Cs = 4; b.Versions = append(b.Versions, ver("y", "1", 4)) },
		"one number more, and one gone": func(b *impl.Base) { b.Cs = 4; b.Versions = slices.Insert(b.Versions, 1, goneVer("a", 4)) },
	} {
		changes[what] = func(w *impl.World) {
			change(&w.Store.Engine.Base)
			w.Store.Disk = logSaying(baseRecord(w.Store.Engine.Base))
		}
	}
	checkChanges(t, wholeWorld(t), "past", changes)
}

// KeptRight alone is false: the engine is not right.
func TestKeptRightOfAnEngine(t *testing.T) {
	changes := map[string]func(w *impl.World){}
	for what, change := range map[string]func(e *impl.Engine){
		"Next 0":                       func(e *impl.Engine) { e.Base.Next = 0 },
		"Next at the last Id":          func(e *impl.Engine) { e.Base.Next = 6 },
		"Next above all":               func(e *impl.Engine) { e.Base.Next = 10000 },
		"one open twice":               func(e *impl.Engine) { e.Open = append(e.Open, e.Open[1]) },
		"Open falls":                   func(e *impl.Engine) { e.Open[0], e.Open[1] = e.Open[1], e.Open[0] },
		"one open that is ready":       func(e *impl.Engine) { e.Open[0] = namedOne(1, 0, "q") },
		"one open that is not right":   func(e *impl.Engine) { e.Open[1].Reads = []impl.Range{{From: "b", To: "a"}} },
		"one open above Cs":            func(e *impl.Engine) { e.Open[1].Snap = 4 },
		"one open that was through":    func(e *impl.Engine) { e.Open[0].Id = 2 },
		"five open":                    func(e *impl.Engine) { e.Open, e.Base.Next = openOf(5), 400 },
		"one open with too many reads": func(e *impl.Engine) { e.Open[0].Reads = rangesOf(9) },
		"its Past falls":               func(e *impl.Engine) { slices.Reverse(e.Base.Past) },
		"one of its Past is open":      func(e *impl.Engine) { e.Base.Past[0] = openAt(2, 0) },
		"one of its Past above Cs":     func(e *impl.Engine) { e.Base.Past[2].Cs = 4 },
		"two of its Past of one Id":    func(e *impl.Engine) { e.Base.Past[0].Id = 3 },
		"one ready above Cs":           func(e *impl.Engine) { e.Base.Ready[0].Snap = 4 },
		"one ready twice":              func(e *impl.Engine) { e.Base.Ready = append(e.Base.Ready, e.Base.Ready[0]) },
		"one ready more":               func(e *impl.Engine) { e.Base.Ready = append(e.Base.Ready, namedOne(7, 3, "q")); e.Base.Next = 8 },
		"nobody ready":                 func(e *impl.Engine) { e.Base.Ready = nil },
		"one ready is Out":             func(e *impl.Engine) { e.Base.Ready[0].Out = true },
		"one ready of another Name":    func(e *impl.Engine) { e.Base.Ready[0].Name = "q" },
		"one ready of no right Name":   func(e *impl.Engine) { e.Base.Ready[0].Name = "" },
		"one ready with other writes":  func(e *impl.Engine) { e.Base.Ready[0].Writes[0].Value = "other" },
		"one ready with more reads":    func(e *impl.Engine) { e.Base.Ready[0].Reads = rangesOf(1) },
		"a version that is not right":  func(e *impl.Engine) { e.Base.Versions = append(e.Base.Versions, ver("zzzz", "", 1)) },
		"versions that fall": func(e *impl.Engine) {
			e.Base.Versions[0], e.Base.Versions[1] = e.Base.Versions[1], e.Base.Versions[0]
		},
		"Cs one more, and nothing seen": func(e *impl.Engine) { e.Base.Cs = 4 },
	} {
		changes[what] = func(w *impl.World) { change(&w.Store.Engine) }
	}
	checkChanges(t, wholeWorld(t), "kept", changes)
}

// KeptRight alone is false: the disk is none, can't come up, or tells another base than the engine's.
func TestKeptRightOfADisk(t *testing.T) {
	whole := wholeWorld(t)
	disks := wrongLogs()
	for what, texts := range unplayableTexts() {
		disks["log: "+what] = logWith(texts...)
	}
	texts := impl.LogTexts(whole.Store.Disk)
	for n := range len(texts) {
		disks[fmt.Sprint("the first ", n, " records")] = logWith(texts[:n]...)
		disks[fmt.Sprint("less record ", n)] = logWith(slices.Delete(slices.Clone(texts), n, n+1)...)
		disks[fmt.Sprint("record ", n, " twice")] = logWith(slices.Insert(slices.Clone(texts), n, texts[n])...)
		disks[fmt.Sprint("record ", n, " turned")] = logWith(append(append(slices.Clone(texts[:n]), turned(texts[n], 2, 1)), texts[n+1:]...)...)
	}
	disks["nothing"], disks["LogNew"] = impl.Disk{}, impl.LogNew()
	disks["the other area counts"] = overlaid(whole.Store.Disk, 0, string([]byte{whole.Store.Disk.Sectors[0][0] + 1}))
	disks["one record more"] = logWith(append(slices.Clone(texts), textOf(throughRecord(pastOne(7, 3, 4))))...)
	disks["one ready more"] = logWith(append(slices.Clone(texts), textOf(readyRecord(namedOne(7, 3, "q"))))...)
	disks["who is ready is through"] = logWith(append(slices.Clone(texts), textOf(endRecord("p", true)))...)
	disks["who is ready is given up"] = logWith(append(slices.Clone(texts), textOf(endRecord("p", false)))...)
	for what, change := range map[string]func(b *impl.Base){
		"another Cs":         func(b *impl.Base) { b.Cs = 4 },
		"another value":      func(b *impl.Base) { b.Versions[0].Value = "other" },
		"a key more":         func(b *impl.Base) { b.Versions = append(b.Versions, ver("zzz", "", 3)) },
		"a key less":         func(b *impl.Base) { b.Versions = b.Versions[1:] },
		"nobody ready":       func(b *impl.Base) { b.Ready = nil },
		"one ready is Out":   func(b *impl.Base) { b.Ready[0].Out = true },
		"one of another Id":  func(b *impl.Base) { b.Ready[0].Id = 6 },
		"one with other key": func(b *impl.Base) { b.Ready[0].Writes[0].Key = "dd" },
	} {
		base := roomyBase(whole.Store.Engine.Base)
		change(&base)
		disks["a base: "+what] = logSaying(baseRecord(base))
	}
	changes := map[string]func(w *impl.World){}
	for what, d := range disks {
		changes[what] = func(w *impl.World) { w.Store.Disk = d }
	}
	waits := impl.Put{At: 0, Text: whole.Store.Disk.Sectors[0]}
	changes["a write that waits"] = func(w *impl.World) { w.Store.Disk.Cache = []impl.Put{waits} }
	checkChanges(t, whole, "kept", changes)
}

// What nobody asks for may be another one: all of it stays true.
func TestWhatIsNotAsked(t *testing.T) {
	whole := wholeWorld(t)
	checkChanges(t, whole, "", map[string]func(w *impl.World){
		"other codes, other things said":    func(w *impl.World) { w.Codes, w.Said = []int{6, -1, 1000}, []string{"", "a=b"} },
		"no codes":                          func(w *impl.World) { w.Codes, w.Said = nil, nil },
		"nobody open":                       func(w *impl.World) { w.Store.Engine.Open = nil },
		"four open":                         func(w *impl.World) { w.Store.Engine.Open, w.Store.Engine.Base.Next = openOf(4), 304 },
		"another Next":                      func(w *impl.World) { w.Store.Engine.Base.Next = 9999 },
		"the base is tidied":                func(w *impl.World) { w.Store.Engine.Base = tidiedOf(w.Store.Engine.Base, nil) },
		"the base has no Past":              func(w *impl.World) { w.Store.Engine.Base.Past = nil },
		"a version that nobody sees":        func(w *impl.World) { w.Store.Engine.Base.Versions[3].Value = "other" },
		"the log is fixed":                  func(w *impl.World) { w.Store.Disk, _ = fixedOf(w.Store.Disk) },
		"the log is a base":                 func(w *impl.World) { w.Store.Disk = logSaying(baseRecord(w.Store.Engine.Base)) },
		"it came up again":                  func(w *impl.World) { w.Store, _ = riseOf(w.Store.Disk) },
		"what does not count is another":    func(w *impl.World) { w.Store.Disk = logWith(impl.LogTexts(w.Store.Disk)...) },
		"Past with other Ids":               func(w *impl.World) { w.Past[0].Id, w.Past[1].Id, w.Past[2].Id = -1, math.MinInt, math.MaxInt },
		"Past with Names":                   func(w *impl.World) { w.Past[0].Name, w.Past[1].Name = "p", "PPPP" },
		"Past that is Out":                  func(w *impl.World) { w.Past[0].Out, w.Past[2].Out = true, true },
		"Past with other Snaps":             func(w *impl.World) { w.Past[0].Snap, w.Past[1].Snap = -7, 500 },
		"Past with other reads":             func(w *impl.World) { w.Past[1].Reads = []impl.Range{oneKey("q"), {From: "b", To: "a"}, {}} },
		"Past with writes that fall":        func(w *impl.World) { slices.Reverse(w.Past[1].Writes); slices.Reverse(w.Past[2].Writes) },
		"a key written twice by one":        func(w *impl.World) { w.Past[0].Writes = []impl.Write{put("b", "1"), gone("b"), put("b", "by2")} },
		"a write with a value that is Gone": func(w *impl.World) { w.Past[2].Writes[1] = impl.Write{Key: "x", Value: "v", Gone: true} },
		"room in the lists":                 func(w *impl.World) { w.Past = append(w.Past, impl.Txn{}, impl.Txn{})[:3] },
	})
}

// numbered is a world of three that wrote; in Past they have these numbers, in its base they have 1, 2 and 3.
func numbered(numbers [3]int) impl.World {
	w := worldOf(doing(pastOne(1, 0, 1), "", "a b"), doing(pastOne(2, 1, 2), "", "-b c"), doing(pastOne(3, 2, 3), "", "a d"))
	for i, cs := range numbers {
		w.Past[i].Cs = cs
	}
	return w
}

// The numbers of Past are held against each other alone: they may be any, as long as they ascend.
func TestPastOfAnyNumbers(t *testing.T) {
	for _, numbers := range [][3]int{{1, 2, 3}, {0, 2, 3}, {-5, 2, 3}, {-5, 0, 3}, {math.MinInt, -1, 0}, {1, 2, 4}, {1, 2, 9999}, {1, 10000, math.MaxInt - 1}, {4, 5, 6}, {-3, -2, -1}, {math.MinInt, math.MinInt + 1, math.MinInt + 2}, {math.MinInt, 0, math.MaxInt - 1}} {
		what := fmt.Sprint(numbers)
		checkFalse(t, what, numbered(numbers), "")
		for i := range 2 {
			w := numbered(numbers)
			w.Past[i], w.Past[i+1] = w.Past[i+1], w.Past[i]
			checkFalse(t, what+", not in order", w, "past")
		}
		// One far above the base's number that wrote nothing, or took out what is not there, is told by it.
		for writes, want := range map[string]string{"": "", "-q": "", "-b -q": "", "q": "past", "-a": "past", "d": "past"} {
			w := numbered(numbers)
			w.Past = append(w.Past, doing(pastOne(9, 3, math.MaxInt), "", writes))
			checkFalse(t, what+", and one that wrote "+writes, w, want)
		}
	}
}

func TestPastAtTheEdges(t *testing.T) {
	at := pastOne
	goneOnly := impl.World{Store: storeOf(impl.Engine{Base: impl.Base{Versions: []impl.Version{goneVer("a", 1), goneVer("b", 2)}, Cs: 2, Next: 3}})}
	oneValue := impl.World{Store: storeOf(impl.Engine{Base: impl.Base{Versions: []impl.Version{ver("a", "", 1)}, Cs: 2, Next: 3}})}
	for what, c := range map[string]struct {
		w    impl.World
		want string
	}{
		"no Past":                       {worldOf(), ""},
		"no Past, and a number":         {impl.World{Store: storeOf(impl.Engine{Base: impl.Base{Cs: 7, Next: 3}})}, ""},
		"no Past, and all is gone":      {goneOnly, ""},
		"no Past, and an empty value":   {oneValue, "past"},
		"one alone":                     {worldOf(doing(at(1, 0, 1), "a", "a b")), ""},
		"one alone that wrote nothing":  {worldOf(doing(at(1, 0, 1), "a", "")), ""},
		"one alone, all of it Gone":     {worldOf(doing(at(1, 0, 1), "a", "-a -b -c")), ""},
		"one alone, with a high number": {worldOf(doing(at(1, 9998, 9999), "", "a")), ""},
		"one alone with an empty value": {worldOf(impl.Txn{Id: 1, State: 3, Cs: 1, Writes: []impl.Write{put("a", ""), put("zzz", "")}}), ""},
		"one alone that is ready":       {changedWorld(worldOf(doing(at(1, 0, 1), "", "a")), func(w *impl.World) { w.Past[0].State = 2 }), "past"},
		"one alone that is nothing":     {changedWorld(worldOf(), func(w *impl.World) { w.Past = []impl.Txn{{}} }), "past"},
		"wrote over another one":        {worldOf(doing(at(1, 0, 1), "", "a b"), doing(at(2, 1, 2), "a", "a"), doing(at(3, 1, 3), "b", "b")), ""},
		"took out and put again":        {worldOf(doing(at(1, 0, 1), "", "a b"), doing(at(2, 1, 2), "a", "-a"), doing(at(3, 2, 3), "a", "a"), doing(at(4, 3, 4), "", "-a")), ""},
		"all is taken out":              {worldOf(doing(at(1, 0, 1), "", "a b"), doing(at(2, 1, 2), "a..b", "-a -b")), ""},
		"two that wrote nothing":        {worldOf(at(1, 0, 1), at(2, 1, 2)), ""},
		"two of one Id":                 {worldOf(doing(at(1, 0, 1), "", "a"), doing(at(1, 1, 2), "a", "b")), ""},
		"all of one Id":                 {worldOf(doing(at(0, 0, 1), "", "a"), doing(at(0, 1, 2), "a", "-a"), doing(at(0, 2, 3), "a", "a")), ""},
		"numbers that leave some out":   {worldOf(doing(at(1, 0, 3), "", "a"), doing(at(2, 3, 50), "a", "b"), doing(at(3, 50, 9000), "b", "a")), ""},
		"the last one above the base's": {changedWorld(worldOf(doing(at(1, 0, 1), "", "a")), func(w *impl.World) { w.Past[0].Cs = 2 }), ""},
		"the base does not see it yet":  {changedWorld(worldOf(doing(at(1, 0, 1), "", "a")), func(w *impl.World) { w.Store = storeOf(impl.Engine{Base: impl.BaseNew()}) }), "past"},
		"the base has it above its Cs":  {changedWorld(worldOf(doing(at(1, 0, 1), "", "a")), func(w *impl.World) { w.Store.Engine.Base.Cs = 0 }), "kept past"},
		"keys that are none, not told":  {changedWorld(worldOf(), func(w *impl.World) { w.Past = txnList(doing(at(1, 0, 1), "", "zzzz ~ A 0 \xff")) }), ""},
		"no key, not told":              {changedWorld(worldOf(), func(w *impl.World) { w.Past = txnList(writing(at(1, 0, 1), "")) }), ""},
		"a key that is none, between":   {changedWorld(worldOf(), func(w *impl.World) { w.Past = txnList(writing(at(1, 0, 1), "aaaa")) }), "past"},
		"keys that are none, told alone": {changedWorld(worldOf(), func(w *impl.World) {
			w.Store.Engine.Base.Versions = []impl.Version{ver("", "1", 0), ver("A", "1", 0), ver("zzzz", "1", 0)}
		}), "kept"},
		"a key at each end":          {worldOf(doing(at(1, 0, 1), "", "a zzz")), ""},
		"a base at a number below 0": {changedWorld(worldOf(), func(w *impl.World) { w.Store.Engine.Base.Cs = -3 }), "kept"},
	} {
		checkFalse(t, what, c.w, c.want)
	}
}

// DoubtRight is true of every engine: Finish finds whoever is ready by the Name, and knows no other code for one that is there than
// CodeFull.
func TestDoubtRight(t *testing.T) {
	ready := []impl.Txn{namedOne(1, 0, "p"), namedOne(2, 0, "p"), namedOne(1, 0, ""), namedOne(9, 50, "PPPP\xff"), pastOne(4, 0, 1), openAt(5, 0), {}, reading(writing(namedOne(6, 0, "q"), "a"), "b"), reading(writing(namedOne(7, 0, "r"), "b"), "a")}
	for n := range len(ready) + 1 {
		for _, cs := range []int{0, 5, 9998, 9999, 10000, -1, math.MinInt, math.MaxInt} {
			for _, past := range [][]impl.Txn{nil, pastOf(11), pastOf(12), pastOf(13)} {
				for _, versions := range []int{0, 100, 101} {
					w := impl.World{Store: impl.Store{Engine: impl.Engine{Base: impl.Base{Versions: manyVersions(versions), Past: past, Ready: ready[:n], Cs: cs, Next: 200}}}}
					checkAnswer(t, "any that are ready", impl.DoubtRight(w) && doubtByWords(w), true)
				}
			}
		}
	}
}

// newTangledLife has few keys, and mostly many that are open at once, look at much, and are made ready.
func newTangledLife(seed int, counts map[string]int) *drawnLife {
	l := newDrawnLife(seed+1000, counts)
	l.keys = l.keys[:min(len(l.keys), 2+seed%5)]
	if seed%4 > 0 {
		l.keys = letters(4 + seed%3)
		l.weights = [][]int{{1, 40, 50, 6, 34, 4, 8, 1, 20, 8, 3, 1, 3}, {1, 40, 60, 8, 34, 4, 30, 1, 4, 2, 1, 1, 1}, {1, 40, 60, 4, 34, 4, 16, 1, 12, 4, 2, 1, 1}}[seed%4-1]
	}
	return l
}

// goes lets the next event happen, and asks that all be true behind it; now and then also what may come then.
func (l *drawnLife) goes(t *testing.T, seed int) {
	t.Helper()
	e := l.event()
	l.world = impl.StepWorld(l.world, e)
	if !impl.SoundWorld(l.world) || !impl.Serial(l.world) || !impl.KeptRight(l.world) || !impl.PastRight(l.world) || !impl.DoubtRight(l.world) {
		t.Fatalf("%d: %q are false behind %#v; Past is %#v", seed, checkTruths(t, "a drawn life", l.world), e, l.world.Past)
	}
	if !eventRight(e) {
		return
	}
	n, doubt := len(l.world.Codes)-1, len(l.world.Store.Engine.Base.Ready)
	l.counts[fmt.Sprint(eventWords[e.Kind], " ", l.world.Codes[n])]++
	if e.Kind == impl.EvFall && doubt > 1 {
		l.counts["fall, some ready"]++
	}
	if l.draw.below(9) == 0 {
		checkFalse(t, "a drawn life", l.world, "")
	}
	if doubt > 0 && l.draw.below(15) == 0 {
		checkWhatMayCome(t, "a drawn life", l.world)
	}
}

// Promise 16: in drawn lives those that were let through are as if they had come one by one; what was made ready may be let through.
func TestDrawnLivesAreSound(t *testing.T) {
	counts := map[string]int{}
	for seed := range 80 {
		l := newTangledLife(seed, counts)
		for range impl.MaxEvents {
			l.goes(t, seed)
		}
		checkFalse(t, "a drawn life", l.world, "")
		turns := changedWorld(l.world, func(w *impl.World) { slices.Reverse(w.Past) })
		checkAnswer(t, "turned round", impl.PastRight(turns), len(turns.Past) < 2)
	}
	for _, what := range []string{"commit 0", "commit 4", "commit 5", "abort 0", "prepare 0", "prepare 4", "prepare 5", "yes 0", "no 0", "fix 0", "fall 0", "fall, some ready"} {
		if counts[what] < 8 {
			t.Errorf("%s came %d times", what, counts[what])
		}
	}
}

// In a drawn life one of Past that saw something else, wrote something else, or is not there, is told.
func TestDrawnLivesThatAreChanged(t *testing.T) {
	counts := map[string]int{}
	for seed := range 60 {
		l := newTangledLife(seed*3+2, counts)
		for range 60 {
			l.world = impl.StepWorld(l.world, l.event())
		}
		n := len(l.world.Past)
		if n < 2 {
			continue
		}
		for range 40 {
			w := changedWorld(l.world, func(w *impl.World) {
				x := &w.Past[l.draw.below(n)]
				switch l.draw.below(8) {
				case 0:
					x.Snap -= 1 + l.draw.below(3)
				case 1:
					x.Reads = append(x.Reads, everyKey)
				case 2:
					x.Reads, x.Snap = []impl.Range{oneKey(l.key())}, 0
				case 3:
					x.Writes = []impl.Write{put(l.key(), "other")}
				case 4:
					w.Past = slices.Delete(w.Past, 0, 1)
				case 5:
					x.Cs += 1 + l.draw.below(2)
				case 6:
					x.State = 1 + l.draw.below(3)
				case 7:
					x.Writes = append(x.Writes, gone(l.key()))
				}
			})
			counts[checkTruths(t, "a life that is changed", w)]++
		}
	}
	for _, wrong := range []string{"", "serial", "past", "serial past"} {
		if counts[wrong] < 10 {
			t.Errorf("%q were false %d times", wrong, counts[wrong])
		}
	}
}

// Those that are drawn, each beginning when the last one was through or earlier: all is true but that they may have no order.
func TestDrawnPastOfAWorld(t *testing.T) {
	draw, counts := drawn(16), map[string]int{}
	for range 400 {
		list := drawnDone(&draw, 9)
		slices.SortFunc(list, func(a, b impl.Txn) int { return a.Cs - b.Cs })
		w := worldOf(list...)
		wrong := checkTruths(t, "drawn ones", w)
		if wrong != "" && wrong != "serial" {
			t.Fatalf("%q are false of %#v", wrong, list)
		}
		counts[wrong]++
	}
	if counts[""] < 50 || counts["serial"] < 50 {
		t.Errorf("%v were false", counts)
	}
}

// anyPasts are of all sorts, in order or not, right or wrong.
func anyPasts() [][]impl.Txn {
	draw := drawn(61)
	pasts := [][]impl.Txn{nil, {}, pastTelling(someBase()), someBase().Past, someBase().Ready, allTxns()[:12], {{}, {}}, pastOf(12), {pastOne(1, 0, math.MinInt), pastOne(2, math.MaxInt, math.MaxInt)}}
	for range 12 {
		pasts = append(pasts, drawnDone(&draw, 7))
	}
	return pasts
}

// All of every engine beside disks and Past of all sorts, right or wrong, held against the document's sentences.
func TestTruthsOfAnything(t *testing.T) {
	disks, pasts, counts := anyDisks(), anyPasts(), map[string]int{}
	for i, e := range anyEngines() {
		worlds := []impl.World{{Store: impl.Store{Engine: e, Disk: disks[i%len(disks)]}}, {Store: storeOf(e), Codes: []int{-1, math.MaxInt}}}
		for k, w := range worlds {
			w.Past = pasts[(i*5+k)%len(pasts)]
			counts[checkTruths(t, "any", w)]++
			w.Past = pastTelling(e.Base)
			counts[checkTruths(t, "any, and what its base tells", w)]++
		}
	}
	for what, d := range disks {
		w := impl.World{Store: impl.Store{Engine: someEngine(), Disk: d}, Past: pasts[what%len(pasts)]}
		counts[checkTruths(t, "any", w)]++
		if risen, ok := impl.RiseStore(d); ok {
			checkFalse(t, "what came up", impl.World{Store: risen, Past: pastTelling(risen.Engine.Base)}, "")
		}
	}
	for _, wrong := range []string{"", "kept", "past", "kept past", "serial kept past"} {
		if counts[wrong] == 0 {
			t.Errorf("%q were never false: %v", wrong, counts)
		}
	}
}

// Worlds with very long lists are answered, too.
func TestTruthsOfLongLists(t *testing.T) {
	e := impl.Engine{Base: impl.Base{Versions: manyVersions(400), Cs: 5000, Next: 3}}
	var chain []impl.Txn
	for i := range 150 {
		e.Base.Past = append(e.Base.Past, writing(pastOne(-i, 1, 5000-i), "p"))
		e.Base.Ready = append(e.Base.Ready, reading(namedOne(1000+i, 1, fmt.Sprintf("%05d", i*2)), "r"))
		e.Open = append(e.Open, writing(openAt(2000+i, 4000+i), "w"))
		chain = append(chain, reading(writing(pastOne(i+1, 0, i+1), fmt.Sprintf("k%04d", i)), fmt.Sprintf("k%04d", i-1)))
	}
	w := impl.World{Past: chain, Codes: make([]int, 5000), Said: slices.Repeat([]string{strings.Repeat("s", 300)}, 900)}
	for _, s := range []impl.Store{{Engine: e, Disk: impl.LogNew()}, {Engine: e, Disk: diskOf(400, manyWrites(200, 300)...)}} {
		w.Store, w.Past = s, chain
		checkFalse(t, "long", w, "kept past")
		w.Past = slices.Clone(chain)
		w.Past[0].Reads = []impl.Range{oneKey("k0149")}
		checkFalse(t, "long, in a ring", w, "serial kept past")
	}
	// What 150 made, eight keys each, is held against a base that tells all of it.
	var versions []impl.Version
	for i := range chain {
		x := pastOne(i+1, i, i+1)
		for _, key := range letters(8) {
			x.Writes = append(x.Writes, put("b"+key, fmt.Sprint(i)))
		}
		chain[i], versions = x, impl.PutVersions(versions, x.Writes, i+1)
	}
	w.Past, w.Store.Engine.Base.Versions = chain, versions
	checkFalse(t, "long, and told", w, "kept")
	w.Past = chain[:149]
	checkFalse(t, "long, one too few", w, "kept past")
}

// askTwice asks for all of them, and tells whether they are the same once more.
func askTwice(w impl.World) bool {
	first := [5]bool{impl.Serial(w), impl.KeptRight(w), impl.PastRight(w), impl.DoubtRight(w), impl.SoundWorld(w)}
	return first == [5]bool{impl.Serial(w), impl.KeptRight(w), impl.PastRight(w), impl.DoubtRight(w), impl.SoundWorld(w)}
}

func TestTruthsWriteNothing(t *testing.T) {
	worlds := append(memoryWorlds(), wholeWorld(t), worldOf(doing(pastOne(1, 0, 1), "a", "b"), doing(pastOne(2, 0, 2), "b", "a -c")), impl.World{})
	for seed := range 12 {
		l := newDrawnLife(seed+40, map[string]int{})
		for range 70 {
			l.world = impl.StepWorld(l.world, l.event())
		}
		worlds = append(worlds, l.world, changedWorld(l.world, func(w *impl.World) { slices.Reverse(w.Past) }))
	}
	for _, plain := range worlds {
		w := roomyWorld(plain)
		disk := withSpare(w.Store.Disk)
		checkAnswer(t, "once more", askTwice(w), true)
		checkUntouched(t, w.Store.Engine.Base, plain.Store.Engine.Base)
		checkRoomy(t, w.Store.Engine.Open, plain.Store.Engine.Open)
		checkRoomy(t, w.Past, plain.Past)
		checkDisk(t, "an argument, and what is behind it", withSpare(w.Store.Disk), disk)
		checkAnswer(t, "Codes, and what is behind them", slices.Equal(w.Codes[:len(plain.Codes)+3], append(slices.Clone(plain.Codes), -9, -9, -9)), true)
		checkAnswer(t, "Said, and what is behind it", slices.Equal(w.Said[:len(plain.Said)+3], append(slices.Clone(plain.Said), "mark", "mark", "mark")), true)
	}
}

// Lists of a world that lie in one piece of memory, one behind the other, are not written into.
func TestTruthsInOnePieceOfMemory(t *testing.T) {
	plain := wholeWorld(t)
	base := plain.Store.Engine.Base
	whole := slices.Concat(plain.Past, base.Ready, base.Past, plain.Store.Engine.Open, pastOf(3))
	was := slices.Clone(whole)
	w := plain
	w.Past, w.Store.Engine.Base.Ready, w.Store.Engine.Base.Past, w.Store.Engine.Open = whole[:3], whole[3:4], whole[4:7], whole[7:9]
	checkFalse(t, "in one piece", w, "")
	w.Past = whole[:7]
	checkFalse(t, "in one piece, over each other", w, "past")
	checkAnswer(t, "once more", askTwice(w), true)
	if !slices.EqualFunc(whole, was, sameTxn) {
		t.Error("something is written into what was handed in")
	}
}
