package tests

import (
	"fmt"
	"math"
	"slices"
	"strings"
	"testing"

	"loop.example/g00327/impl"
)

// These are all there at once with each other: who is done was let through above every Snap.

func openOne(id int) impl.Txn {
	return impl.Txn{Id: id, State: impl.TxOpen, Snap: 3}
}

func readyOne(id int) impl.Txn {
	return impl.Txn{Id: id, State: impl.TxReady, Snap: 3, Name: "n"}
}

func doneOne(id int) impl.Txn {
	return impl.Txn{Id: id, State: impl.TxDone, Snap: 3, Cs: 10 + id}
}

func reading(x impl.Txn, keys ...string) impl.Txn {
	x.Reads = nil
	for _, key := range keys {
		x.Reads = append(x.Reads, oneKey(key))
	}
	return x
}

func writing(x impl.Txn, keys ...string) impl.Txn {
	x.Writes = writesOf(keys...)
	return x
}

func markedOut(x impl.Txn) impl.Txn {
	x.Out = true
	return x
}

func txnList(list ...impl.Txn) []impl.Txn {
	return list
}

// besideByWords is the document's sentence, each number held against the other one's.
func besideByWords(a, b impl.Txn) bool {
	switch {
	case a.Id == b.Id:
		return false
	case a.State == 3 && !(a.Cs > b.Snap):
		return false
	case b.State == 3 && !(b.Cs > a.Snap):
		return false
	}
	return true
}

// readsOf counts how often one of a's ranges has a key that b writes.
func readsOf(a, b impl.Txn) int {
	n := 0
	for _, w := range b.Writes {
		for _, r := range a.Reads {
			if !(w.Key < r.From) && !(w.Key > r.To) {
				n++
			}
		}
	}
	return n
}

func aheadByWords(a, b impl.Txn) bool {
	return besideByWords(a, b) && readsOf(a, b) > 0
}

func blockedByWords(t impl.Txn, list []impl.Txn) bool {
	for _, x := range list {
		if x.Id == t.Id || x.State != 2 && x.State != 3 || x.State == 3 && x.Cs <= t.Snap {
			continue
		}
		for _, w := range x.Writes {
			for _, own := range t.Writes {
				if w.Key == own.Key {
					return true
				}
			}
		}
	}
	return false
}

// edges are the places of a list of which t is ahead, and of those that are ahead of t; and for each two of the list,
// whether the first is ahead of the second.
type edges struct {
	from, to []bool
	between  [][]bool
}

func edgesOf(t impl.Txn, list []impl.Txn) edges {
	var e edges
	for _, x := range list {
		e.from = append(e.from, aheadByWords(t, x))
		e.to = append(e.to, aheadByWords(x, t))
		var row []bool
		for _, y := range list {
			row = append(row, aheadByWords(x, y))
		}
		e.between = append(e.between, row)
	}
	return e
}

func (e edges) inAndOut(list []impl.Txn) (in, out bool) {
	for i, x := range list {
		in = in || e.to[i] && (x.State == 2 || x.State == 3)
		out = out || e.from[i] && x.State == 3
	}
	return in, out
}

func (e edges) danger(t impl.Txn, list []impl.Txn) bool {
	in, out := e.inAndOut(list)
	found := in && out
	for i, x := range list {
		found = found || e.from[i] && x.Out && (x.State == 2 || x.State == 3)
		if x.State != 2 || !e.to[i] {
			continue
		}
		found = found || e.from[i]
		for j, y := range list {
			found = found || y.State == 2 && y.Id != t.Id && e.between[j][i]
		}
	}
	return found
}

func (e edges) readyDanger(t impl.Txn, list []impl.Txn) bool {
	found := e.danger(t, list)
	in, _ := e.inAndOut(list)
	for i, x := range list {
		if x.State != 2 || !e.from[i] {
			continue
		}
		found = found || in
		for j, y := range list {
			found = found || y.State == 2 && y.Id != t.Id && e.between[i][j]
		}
	}
	return found
}

func checkAnswer(t *testing.T, what string, got, want bool) {
	t.Helper()
	if got != want {
		t.Errorf("%s: %v; want %v", what, got, want)
	}
}

// checkTwo asks everything of two ones, both ways round. It and checkAll end the test with the first wrong answer, since
// they are asked of very many.
func checkTwo(t *testing.T, a, b impl.Txn) {
	t.Helper()
	for range 2 {
		if impl.Beside(a, b) != besideByWords(a, b) || impl.Ahead(a, b) != aheadByWords(a, b) {
			t.Fatalf("Beside, Ahead of %#v and %#v are %v, %v", a, b, impl.Beside(a, b), impl.Ahead(a, b))
		}
		a, b = b, a
	}
}

// checkAll asks everything of one and a list.
func checkAll(t *testing.T, x impl.Txn, list []impl.Txn) {
	t.Helper()
	e := edgesOf(x, list)
	in, out := e.inAndOut(list)
	got := []bool{impl.Blocked(x, list), impl.OutOf(x, list), impl.InOf(x, list), impl.Danger(x, list), impl.ReadyDanger(x, list)}
	want := []bool{blockedByWords(x, list), out, in, e.danger(x, list), e.readyDanger(x, list)}
	if !slices.Equal(got, want) {
		t.Fatalf("Blocked, OutOf, InOf, Danger, ReadyDanger of %#v and %#v are %v; want %v", x, list, got, want)
	}
}

func checkBeside(t *testing.T, what string, a, b impl.Txn, want bool) {
	t.Helper()
	checkAnswer(t, what, impl.Beside(a, b), want)
	checkAnswer(t, what+", the other way round", impl.Beside(b, a), want)
}

func TestBeside(t *testing.T) {
	done := func(snap, cs int) impl.Txn { return impl.Txn{Id: 1, State: 3, Snap: snap, Cs: cs} }
	open := func(snap int) impl.Txn { return impl.Txn{Id: 2, State: 1, Snap: snap} }
	ready := func(snap int) impl.Txn { return impl.Txn{Id: 2, State: 2, Snap: snap, Name: "a"} }
	other := func(snap, cs int) impl.Txn { return impl.Txn{Id: 2, State: 3, Snap: snap, Cs: cs} }
	checkBeside(t, "a Cs just the other's Snap", done(2, 5), open(5), false)
	checkBeside(t, "a Cs one above the other's Snap", done(2, 5), open(4), true)
	checkBeside(t, "a Cs one below the other's Snap", done(2, 5), open(6), false)
	checkBeside(t, "a Cs just the Snap of one that is ready", done(2, 5), ready(5), false)
	checkBeside(t, "a Cs one above the Snap of one that is ready", done(2, 5), ready(4), true)
	checkBeside(t, "a Cs one below the Snap of one that is ready", done(2, 5), ready(6), false)
	checkBeside(t, "both done, one behind the other", done(2, 5), other(5, 6), false)
	checkBeside(t, "both done, one long behind the other", done(2, 5), other(8, 9), false)
	checkBeside(t, "both done, one began a step earlier", done(2, 5), other(4, 6), true)
	checkBeside(t, "both done, one in the other", done(2, 5), other(1, 8), true)
	checkBeside(t, "both done, with like numbers", done(2, 5), other(2, 5), true)
	checkBeside(t, "both open", open(9), impl.Txn{Id: 1, State: 1, Snap: 2}, true)
	checkBeside(t, "both ready", ready(9), impl.Txn{Id: 1, State: 2, Snap: 2, Name: "b"}, true)
	checkBeside(t, "open and ready", ready(9), impl.Txn{Id: 1, State: 1, Snap: 2}, true)
	checkBeside(t, "with nothing read or written", done(0, 1), open(0), true)
}

// A Cs counts with TxDone alone.
func TestBesideOfOnesThatAreNotDone(t *testing.T) {
	for _, state := range []int{1, 2, 0, 4, -1, math.MinInt, math.MaxInt} {
		for _, cs := range []int{math.MinInt, -1, 0, 1, 4, 5, 6, math.MaxInt} {
			x := impl.Txn{Id: 1, State: state, Snap: 3, Cs: cs}
			checkBeside(t, "not done, whatever its Cs", x, impl.Txn{Id: 2, State: 1, Snap: 5}, true)
			checkBeside(t, "not done, whatever its Cs, and one that is", x, impl.Txn{Id: 2, State: 3, Snap: 5, Cs: 6}, true)
			checkBeside(t, "not done, and one that was done ahead of it", x, impl.Txn{Id: 2, State: 3, Snap: 1, Cs: 3}, false)
		}
	}
}

func TestBesideOfOneId(t *testing.T) {
	all := allTxns()
	for _, a := range all {
		for _, b := range all {
			b.Id = a.Id
			checkBeside(t, "two of one Id", a, b, false)
			checkAnswer(t, "Ahead of one Id", impl.Ahead(a, b) || impl.Ahead(b, a), false)
		}
		checkBeside(t, "one and itself", a, a, false)
	}
}

// Every choice of states and numbers near each other, and at the ends of all numbers.
func TestBesideOfNumbers(t *testing.T) {
	var all []impl.Txn
	numbers := []int{math.MinInt, -1, 0, 1, 2, 9999, math.MaxInt}
	for _, id := range []int{-1, 0, 1, 2} {
		for state := 0; state <= 4; state++ {
			for _, snap := range numbers {
				for _, cs := range numbers {
					all = append(all, impl.Txn{Id: id, State: state, Snap: snap, Cs: cs})
				}
			}
		}
	}
	for _, a := range all {
		for _, b := range all {
			if impl.Beside(a, b) != besideByWords(a, b) {
				t.Fatalf("Beside of %#v and %#v is %v", a, b, impl.Beside(a, b))
			}
		}
	}
}

func TestAhead(t *testing.T) {
	reads := func(from, to string) impl.Txn {
		return impl.Txn{Id: 1, State: 1, Snap: 3, Reads: []impl.Range{{From: from, To: to}}}
	}
	for _, c := range []struct {
		what     string
		from, to string
		key      string
		want     bool
	}{
		{"a range of one key", "b", "b", "b", true},
		{"a key below a range of one key", "b", "b", "azz", false},
		{"a key above a range of one key", "b", "b", "ba", false},
		{"a key at the beginning", "bb", "dd", "bb", true},
		{"a key at the end", "bb", "dd", "dd", true},
		{"a key in between", "bb", "dd", "c", true},
		{"a key just below", "bb", "dd", "baz", false},
		{"a key just above", "bb", "dd", "dda", false},
		{"a beginning of From", "bb", "dd", "b", false},
		{"all keys", "a", "zzz", "zzz", true},
	} {
		for _, w := range []impl.Write{put(c.key, ""), put(c.key, "v"), gone(c.key)} {
			for _, b := range []impl.Txn{openOne(2), readyOne(2), doneOne(2)} {
				b.Writes = []impl.Write{w}
				checkAnswer(t, c.what, impl.Ahead(reads(c.from, c.to), b), c.want)
				checkAnswer(t, c.what+", the other way round", impl.Ahead(b, reads(c.from, c.to)), false)
			}
		}
	}
}

// Every range and write counts, wherever it stands, and nothing but a's Reads and b's Writes.
func TestAheadLooksAtAll(t *testing.T) {
	a, b := openOne(1), doneOne(2)
	checkAnswer(t, "no Reads, no Writes", impl.Ahead(a, b), false)
	checkAnswer(t, "no Writes", impl.Ahead(reading(a, "a", "b"), b), false)
	checkAnswer(t, "no Reads", impl.Ahead(a, writing(b, "a", "b")), false)
	checkAnswer(t, "both read", impl.Ahead(reading(a, "a"), reading(b, "a")), false)
	checkAnswer(t, "both write", impl.Ahead(writing(a, "a"), writing(b, "a")), false)
	checkAnswer(t, "b read what a writes", impl.Ahead(writing(a, "a"), reading(b, "a")), false)
	for n := 1; n <= 8; n++ {
		for i := range n {
			for j := range n {
				reads, writes := strings.Split("qrstuvwx", "")[:n], letters(n)
				reads[i] = writes[j]
				checkAnswer(t, "one of many", impl.Ahead(reading(a, reads...), writing(b, writes...)), true)
				reads[i] = writes[j] + "a"
				checkAnswer(t, "none of many", impl.Ahead(reading(a, reads...), writing(b, writes...)), false)
			}
		}
	}
}

// Who is ahead was there at once: what was done when a began, a saw.
func TestAheadOfWhatIsSeen(t *testing.T) {
	for snap := range 9 {
		a := reading(impl.Txn{Id: 1, State: 1, Snap: snap}, "a")
		b := writing(impl.Txn{Id: 2, State: 3, Snap: 1, Cs: 5}, "a")
		checkAnswer(t, "of one that is done", impl.Ahead(a, b), snap < 5)
		b.State = 2
		checkAnswer(t, "of one that is ready", impl.Ahead(a, b), true)
		a = reading(impl.Txn{Id: 1, State: 3, Snap: 1, Cs: 5}, "a")
		b = writing(impl.Txn{Id: 2, State: 1, Snap: snap}, "a")
		checkAnswer(t, "of one that began later", impl.Ahead(a, b), snap < 5)
	}
}

func smallTxns() []impl.Txn {
	var all []impl.Txn
	reads := [][]impl.Range{nil, {oneKey("b")}, {{From: "a", To: "b"}}, {oneKey("a"), oneKey("c")}, {{From: "c", To: "a"}}}
	writes := [][]impl.Write{nil, {put("a", "v")}, {gone("b")}, writesOf("a", "c"), writesOf("c", "b", "c")}
	for i := range 5 * 5 * 7 {
		x := impl.Txn{Id: 1, State: 1, Snap: 2, Reads: reads[i%5], Writes: writes[i/5%5]}
		switch i / 25 {
		case 1:
			x.State, x.Cs = 1, 1
		case 2:
			x.State, x.Name = 2, "a"
		case 3:
			x.State, x.Cs, x.Out = 2, 2, true
		case 4:
			x.State, x.Snap, x.Cs = 3, 1, 2
		case 5:
			x.State, x.Cs, x.Out = 3, 3, true
		case 6:
			x.State, x.Cs = 0, 3
		}
		all = append(all, x)
	}
	return all
}

func TestEdgesOfEverySmallPair(t *testing.T) {
	for _, a := range smallTxns() {
		for _, b := range smallTxns() {
			for id := 1; id <= 2; id++ {
				b.Id = id
				checkTwo(t, a, b)
				checkAll(t, a, []impl.Txn{b})
				checkAll(t, b, []impl.Txn{a})
			}
		}
	}
}

func TestBlocked(t *testing.T) {
	x := writing(impl.Txn{Id: 1, State: 1, Snap: 5}, "b", "d")
	ready := impl.Txn{Id: 2, State: 2, Snap: 2, Name: "a"}
	done := impl.Txn{Id: 2, State: 3, Snap: 2, Cs: 6}
	withCs := func(x impl.Txn, cs int) impl.Txn { x.Cs = cs; return x }
	for _, c := range []struct {
		what  string
		other impl.Txn
		want  bool
	}{
		{"ready", ready, true},
		{"ready with a low Cs", withCs(ready, math.MinInt), true},
		{"ready with a Cs at Snap", withCs(ready, 5), true},
		{"ready with a Cs above Snap", withCs(ready, 6), true},
		{"done above Snap", done, true},
		{"done long above Snap", withCs(done, 9999), true},
		{"done at Snap", withCs(done, 5), false},
		{"done below Snap", withCs(done, 4), false},
		{"open", impl.Txn{Id: 2, State: 1, Snap: 5}, false},
		{"open with a Cs above Snap", impl.Txn{Id: 2, State: 1, Snap: 5, Cs: 6}, false},
		{"no state", impl.Txn{Id: 2, Snap: 5, Cs: 6}, false},
		{"another state", impl.Txn{Id: 2, State: 4, Snap: 5, Cs: 6}, false},
		{"began when x's Snap was over", impl.Txn{Id: 2, State: 3, Snap: 7, Cs: 8}, true},
		{"ready, of one Id", impl.Txn{Id: 1, State: 2, Snap: 2, Name: "a"}, false},
		{"done, of one Id", impl.Txn{Id: 1, State: 3, Snap: 2, Cs: 6}, false},
	} {
		for _, keys := range [][]string{{"b"}, {"d"}, {"a", "b", "c"}, {"b", "d"}, {"d", "e"}, {"d", "d"}} {
			checkAnswer(t, c.what, impl.Blocked(x, txnList(writing(c.other, keys...))), c.want)
		}
		for _, keys := range [][]string{nil, {"a"}, {"c"}, {"e"}, {"bb", "da"}} {
			checkAnswer(t, c.what+", with other keys", impl.Blocked(x, txnList(writing(c.other, keys...))), false)
			checkAnswer(t, c.what+", with other reads", impl.Blocked(x, txnList(reading(writing(c.other, keys...), "b", "d"))), false)
		}
		goneThere := writing(c.other, "b")
		goneThere.Writes[0].Gone = true
		checkAnswer(t, c.what+", which takes it out", impl.Blocked(x, txnList(goneThere)), c.want)
		checkAnswer(t, c.what+", when both only read", impl.Blocked(reading(openOne(1), "b"), txnList(writing(c.other, "b"))), false)
	}
}

// What x itself is but for its Id, Snap and Writes does not count.
func TestBlockedWhateverItIs(t *testing.T) {
	for _, x := range []impl.Txn{{State: 1}, {State: 2, Name: "b"}, {State: 3, Cs: 6}, {State: 3, Cs: 1}, {State: 3, Cs: 3}, {State: 0}, {State: -7, Cs: 9}} {
		x.Id, x.Snap, x.Writes = 1, 5, writesOf("a")
		for _, other := range []impl.Txn{{State: 2, Snap: 9}, {State: 3, Snap: 9, Cs: 10}, {State: 3, Snap: 3, Cs: 6}} {
			other.Id, other.Writes = 2, writesOf("a")
			checkAnswer(t, "whatever it is", impl.Blocked(x, txnList(other)), true)
		}
	}
}

func TestListsAreLookedAtWhole(t *testing.T) {
	x := reading(writing(openOne(1), "x"), "a")
	for _, one := range []impl.Txn{writing(doneOne(2), "a", "x"), reading(doneOne(2), "x"), markedOut(writing(readyOne(2), "a"))} {
		for n := 1; n <= 6; n++ {
			for at := range n {
				var list []impl.Txn
				for i := range n {
					list = append(list, doneOne(10+i))
				}
				checkAll(t, x, list)
				list[at] = one
				checkAll(t, x, list)
				checkAnswer(t, "wherever it stands", impl.Blocked(x, list), impl.Blocked(x, txnList(one)))
				checkAnswer(t, "wherever it stands", impl.OutOf(x, list), impl.OutOf(x, txnList(one)))
				checkAnswer(t, "wherever it stands", impl.InOf(x, list), impl.InOf(x, txnList(one)))
				checkAnswer(t, "wherever it stands", impl.Danger(x, list), impl.Danger(x, txnList(one)))
			}
		}
	}
}

func TestOutOf(t *testing.T) {
	x := reading(impl.Txn{Id: 1, State: 1, Snap: 5}, "a")
	for _, c := range []struct {
		what  string
		other impl.Txn
		want  bool
	}{
		{"done above Snap", impl.Txn{Id: 2, State: 3, Snap: 2, Cs: 6}, true},
		{"done at Snap", impl.Txn{Id: 2, State: 3, Snap: 2, Cs: 5}, false},
		{"done below Snap", impl.Txn{Id: 2, State: 3, Snap: 2, Cs: 4}, false},
		{"done, of one Id", impl.Txn{Id: 1, State: 3, Snap: 2, Cs: 6}, false},
		{"ready", impl.Txn{Id: 2, State: 2, Snap: 2, Name: "n"}, false},
		{"ready with a Cs", impl.Txn{Id: 2, State: 2, Snap: 2, Cs: 6, Out: true}, false},
		{"open", impl.Txn{Id: 2, State: 1, Snap: 2}, false},
		{"no state", impl.Txn{Id: 2, Snap: 2, Cs: 6}, false},
		{"another state", impl.Txn{Id: 2, State: 4, Snap: 2, Cs: 6}, false},
	} {
		checkAnswer(t, c.what, impl.OutOf(x, txnList(writing(c.other, "a"))), c.want)
		checkAnswer(t, c.what+", another key", impl.OutOf(x, txnList(writing(c.other, "b"))), false)
		checkAnswer(t, c.what+", the other way round", impl.OutOf(writing(openOne(1), "a"), txnList(reading(c.other, "a"))), false)
	}
	checkAnswer(t, "nobody", impl.OutOf(x, nil), false)
}

func TestInOf(t *testing.T) {
	x := writing(impl.Txn{Id: 1, State: 1, Snap: 5}, "a")
	for _, c := range []struct {
		what  string
		other impl.Txn
		want  bool
	}{
		{"done above Snap", impl.Txn{Id: 2, State: 3, Snap: 2, Cs: 6}, true},
		{"done at Snap", impl.Txn{Id: 2, State: 3, Snap: 2, Cs: 5}, false},
		{"done below Snap", impl.Txn{Id: 2, State: 3, Snap: 2, Cs: 4}, false},
		{"done, of one Id", impl.Txn{Id: 1, State: 3, Snap: 2, Cs: 6}, false},
		{"ready", impl.Txn{Id: 2, State: 2, Snap: 2, Name: "n"}, true},
		{"ready with a low Cs", impl.Txn{Id: 2, State: 2, Snap: 2, Cs: 1}, true},
		{"ready, of one Id", impl.Txn{Id: 1, State: 2, Snap: 2, Name: "n"}, false},
		{"open", impl.Txn{Id: 2, State: 1, Snap: 2}, false},
		{"no state", impl.Txn{Id: 2, Snap: 2, Cs: 6}, false},
		{"another state", impl.Txn{Id: 2, State: 4, Snap: 2, Cs: 6}, false},
	} {
		checkAnswer(t, c.what, impl.InOf(x, txnList(reading(c.other, "a"))), c.want)
		checkAnswer(t, c.what+", another key", impl.InOf(x, txnList(reading(c.other, "b"))), false)
		checkAnswer(t, c.what+", the other way round", impl.InOf(reading(openOne(1), "a"), txnList(writing(c.other, "a"))), false)
	}
	checkAnswer(t, "nobody", impl.InOf(x, nil), false)
}

// In these x reads a and writes x, so that who writes a is behind it, and who reads x ahead of it.

func inTheMiddle() impl.Txn {
	return reading(writing(openOne(1), "x"), "a")
}

func checkDanger(t *testing.T, what string, x impl.Txn, danger, ready bool, list ...impl.Txn) {
	t.Helper()
	back := slices.Clone(list)
	slices.Reverse(back)
	for _, list := range [][]impl.Txn{list, back, append(slices.Clone(list), list...), append(slices.Clone(list), x), append([]impl.Txn{openOne(99)}, list...)} {
		checkAnswer(t, "Danger: "+what, impl.Danger(x, list), danger)
		checkAnswer(t, "ReadyDanger: "+what, impl.ReadyDanger(x, list), ready)
	}
}

func TestDangerOfInAndOut(t *testing.T) {
	x := inTheMiddle()
	checkDanger(t, "nobody", x, false, false)
	checkDanger(t, "In alone, done", x, false, false, reading(doneOne(2), "x"))
	checkDanger(t, "In alone, ready", x, false, false, reading(readyOne(2), "x"))
	checkDanger(t, "Out alone", x, false, false, writing(doneOne(2), "a"))
	checkDanger(t, "In, done, and Out", x, true, true, reading(doneOne(2), "x"), writing(doneOne(3), "a"))
	checkDanger(t, "In, ready, and Out", x, true, true, reading(readyOne(2), "x"), writing(doneOne(3), "a"))
	checkDanger(t, "In, open, and Out", x, false, false, reading(openOne(2), "x"), writing(doneOne(3), "a"))
	checkDanger(t, "In and open Out", x, false, false, reading(doneOne(2), "x"), writing(openOne(3), "a"))
	checkDanger(t, "In and Out of one that is done", x, true, true, reading(writing(doneOne(2), "a"), "x"))
	checkDanger(t, "In and Out of one that is open", x, false, false, reading(writing(openOne(2), "a"), "x"))
	checkDanger(t, "In and Out, which x saw", x, false, false, reading(doneOne(2), "x"), writing(impl.Txn{Id: 3, State: 3, Cs: 3}, "a"))
	checkDanger(t, "In, which x saw, and Out", x, false, false, reading(impl.Txn{Id: 3, State: 3, Cs: 3}, "x"), writing(doneOne(2), "a"))
	checkDanger(t, "In twice", x, false, false, reading(doneOne(2), "x"), reading(doneOne(3), "x"))
	checkDanger(t, "Out twice", x, false, false, writing(doneOne(2), "a"), writing(doneOne(3), "a"))
	checkDanger(t, "In of one Id with it, and Out", x, false, false, reading(doneOne(1), "x"), writing(doneOne(2), "a"))
	checkDanger(t, "In, and Out of one Id with it", x, false, false, reading(doneOne(2), "x"), writing(doneOne(1), "a"))
}

func TestDangerOfOneThatIsOut(t *testing.T) {
	x := inTheMiddle()
	checkDanger(t, "Out and ready", x, true, true, markedOut(writing(readyOne(2), "a")))
	checkDanger(t, "Out and done", x, true, true, markedOut(writing(doneOne(2), "a")))
	checkDanger(t, "Out and open", x, false, false, markedOut(writing(openOne(2), "a")))
	checkDanger(t, "Out and in no state", x, false, false, markedOut(writing(impl.Txn{Id: 2, State: 4}, "a")))
	checkDanger(t, "Out and done, which x saw", x, false, false, markedOut(writing(impl.Txn{Id: 2, State: 3, Cs: 3}, "a")))
	checkDanger(t, "Out and ready, another key", x, false, false, markedOut(writing(readyOne(2), "b")))
	checkDanger(t, "Out and ready, ahead of x", x, false, false, markedOut(reading(readyOne(2), "x")))
	checkDanger(t, "Out and done, ahead of x", x, false, false, markedOut(reading(doneOne(2), "x")))
	checkDanger(t, "Out and done, of one Id with x", x, false, false, markedOut(writing(doneOne(1), "a")))
	checkDanger(t, "x alone is Out", markedOut(x), false, false, writing(doneOne(2), "a"))
	checkDanger(t, "not Out, and one that is, which x did not read", x, false, false, writing(doneOne(2), "a"), markedOut(writing(doneOne(3), "b")))
}

// P reads x and writes p: who reads p is ahead of P.
func TestDangerOfOneThatIsReadyAhead(t *testing.T) {
	x := inTheMiddle()
	p := reading(writing(readyOne(2), "p"), "x")
	checkDanger(t, "P alone", x, false, false, p)
	checkDanger(t, "x is ahead of P", reading(x, "p"), true, true, p)
	checkDanger(t, "x is ahead of P by a range of more", changed(x, func(x *impl.Txn) { x.Reads = []impl.Range{{From: "o", To: "q"}} }), true, true, p)
	checkDanger(t, "another ready one is ahead of P", x, true, true, p, reading(readyOne(3), "p"))
	checkDanger(t, "a done one is ahead of P", x, false, false, p, reading(doneOne(3), "p"))
	checkDanger(t, "an open one is ahead of P", x, false, false, p, reading(openOne(3), "p"))
	checkDanger(t, "one in no state is ahead of P", x, false, false, p, reading(impl.Txn{Id: 3, State: 5}, "p"))
	checkDanger(t, "P reads what it writes", x, false, false, reading(writing(readyOne(2), "p"), "x", "p"))
	checkDanger(t, "one of P's Id reads what it writes", x, false, false, p, reading(readyOne(2), "p"))
	checkDanger(t, "P is ahead of another ready one", x, false, false, p, writing(readyOne(3), "x"))
	checkDanger(t, "P is done", x, false, false, reading(writing(doneOne(2), "p"), "x"), reading(readyOne(3), "p"))
	checkDanger(t, "P is open", x, false, false, reading(writing(openOne(2), "p"), "x"), reading(readyOne(3), "p"))
	checkDanger(t, "P is not ahead of x", x, false, false, writing(readyOne(2), "p"), reading(readyOne(3), "p"))
	checkDanger(t, "P is of one Id with x", x, false, false, reading(writing(readyOne(1), "p"), "x"), reading(readyOne(3), "p"))
	checkDanger(t, "both P are ready, one ahead of both", x, true, true, p, reading(writing(readyOne(3), "q"), "x", "p"))
	checkDanger(t, "x is ready itself", changed(reading(x, "p"), func(x *impl.Txn) { x.State, x.Name = 2, "x" }), true, true, p)
	checkDanger(t, "x is done itself", changed(reading(x, "p"), func(x *impl.Txn) { x.State, x.Cs = 3, 9 }), true, true, p)
}

// One that has x's Id is no other one than x, whatever it reads: of that Id x alone counts, as it is.
func TestDangerOfOneOfTheSameId(t *testing.T) {
	x, p := inTheMiddle(), reading(writing(readyOne(2), "p"), "x")
	alike := reading(readyOne(1), "p")
	checkDanger(t, "one of x's Id is ahead of P", x, false, false, p, alike)
	checkDanger(t, "one of x's Id that is Out is ahead of P", x, false, false, p, markedOut(alike))
	checkDanger(t, "two of x's Id are ahead of P", x, false, false, p, alike, reading(readyOne(1), "o", "p"))
	checkDanger(t, "one of x's Id, and one of another Id, are ahead of P", x, true, true, p, alike, reading(readyOne(3), "p"))
	checkDanger(t, "one of x's Id that is done is ahead of P", x, false, false, p, reading(doneOne(1), "p"))
	checkDanger(t, "x is ahead of P, and one of its Id is, too", reading(x, "p"), true, true, p, alike)
	checkDanger(t, "x is ahead of P, and one of its Id is not", reading(x, "p"), true, true, p, readyOne(1))
	checkDanger(t, "x, which is ready, is not ahead of P", changed(x, func(x *impl.Txn) { x.State, x.Name = 2, "x" }), false, false, p, alike)
}

// The same of Ids that are not right.
func TestDangerOfOneOfTheSameWrongId(t *testing.T) {
	for _, id := range []int{math.MinInt, -1, 0, 10000, math.MaxInt} {
		x, p := inTheMiddle(), reading(writing(readyOne(2), "p"), "x")
		x.Id = id
		checkDanger(t, "one of x's Id is ahead of P", x, false, false, p, reading(readyOne(id), "p"))
		checkDanger(t, "one of another Id is ahead of P", x, true, true, p, reading(readyOne(id/2+7), "p"))
	}
}

func TestReadyDanger(t *testing.T) {
	x := inTheMiddle()
	ready := writing(readyOne(2), "a")
	checkDanger(t, "ahead of a ready one", x, false, false, ready)
	checkDanger(t, "ahead of a ready one, In of a done one", x, false, true, ready, reading(doneOne(3), "x"))
	checkDanger(t, "ahead of a ready one, In of a ready one", x, false, true, ready, reading(readyOne(3), "x"))
	checkDanger(t, "ahead of a ready one, In of an open one", x, false, false, ready, reading(openOne(3), "x"))
	checkDanger(t, "ahead of an open one, In of a ready one", x, false, false, writing(openOne(2), "a"), reading(readyOne(3), "x"))
	checkDanger(t, "ahead of one in no state, In of a ready one", x, false, false, writing(impl.Txn{Id: 2}, "a"), reading(readyOne(3), "x"))
	checkDanger(t, "ahead of one of its Id, In of a ready one", x, false, false, writing(readyOne(1), "a"), reading(readyOne(3), "x"))
	checkDanger(t, "ahead of a ready one, In of one of its Id", x, false, false, ready, reading(readyOne(1), "x"))
}

// x reads a, which the middle one writes; that reads m.
func TestReadyDangerOfAChain(t *testing.T) {
	x := inTheMiddle()
	middle := reading(writing(readyOne(2), "a"), "m")
	checkDanger(t, "the middle one alone", x, false, false, middle)
	checkDanger(t, "ready, ready", x, false, true, middle, writing(readyOne(3), "m"))
	checkDanger(t, "ready, done", x, false, false, middle, writing(doneOne(3), "m"))
	checkDanger(t, "ready, open", x, false, false, middle, writing(openOne(3), "m"))
	checkDanger(t, "done, ready", x, false, false, reading(writing(doneOne(2), "a"), "m"), writing(readyOne(3), "m"))
	checkDanger(t, "open, ready", x, false, false, reading(writing(openOne(2), "a"), "m"), writing(readyOne(3), "m"))
	checkDanger(t, "ready, ready, the other way round", x, false, false, middle, reading(readyOne(3), "a"))
	checkDanger(t, "the same one again", x, false, false, reading(writing(readyOne(2), "a"), "a"))
	checkDanger(t, "one of the middle one's Id", x, false, false, middle, writing(readyOne(2), "m"))
	checkDanger(t, "one of x's Id", x, false, false, middle, writing(readyOne(1), "m"))
	checkDanger(t, "the middle one is of x's Id", x, false, false, reading(writing(readyOne(1), "a"), "m"), writing(readyOne(3), "m"))
	checkDanger(t, "x is ahead of the last one alone", x, false, false, writing(readyOne(2), "b"), writing(readyOne(3), "a"))
	itself := changed(writing(x, "m"), func(x *impl.Txn) { x.State, x.Name = 2, "x" })
	checkDanger(t, "x itself, which is ready", itself, true, true, middle, itself)
	checkDanger(t, "x itself, and another one", x, false, true, middle, writing(readyOne(1), "m"), writing(readyOne(3), "m"))
}

// graphTxn is one that writes its own key alone, and reads those of all others whose bit is set.
func graphTxn(at, id, kind, reads int) impl.Txn {
	keys := []string{"a", "b", "c", "d"}
	x := impl.Txn{Id: id, State: kind, Snap: 3, Writes: writesOf(keys[at])}
	switch kind {
	case 2:
		x.Name = keys[at]
	case 3:
		x.Cs = 4 + at
	case 4:
		x.State, x.Snap, x.Cs = 3, 1, 2
	}
	for i, key := range keys {
		if reads>>i&1 == 1 {
			x.Reads = append(x.Reads, oneKey(key))
		}
	}
	return x
}

// edgeBits spreads bits over n ones: what each of them reads of the others, never of itself.
func edgeBits(bits, n int) []int {
	reads := make([]int, n)
	for i := range n * n {
		if i/n != i%n {
			reads[i/n] |= bits & 1 << (i % n)
			bits >>= 1
		}
	}
	return reads
}

// Who reads what of whom, among t and two others, in all states, Out or not, with all Ids alike or not.
func TestEdgesOfEveryThree(t *testing.T) {
	for bits := range 1 << 6 {
		reads := edgeBits(bits, 3)
		for kinds := range 4 * 4 * 4 {
			x := graphTxn(0, 1, kinds%4+1, reads[0])
			for ids := range 3 * 3 {
				b := graphTxn(1, ids%3+1, kinds/4%4+1, reads[1])
				c := graphTxn(2, ids/3+1, kinds/16+1, reads[2])
				for outs := range 4 {
					b.Out, c.Out = outs&1 == 1, outs&2 == 2
					checkAll(t, x, []impl.Txn{b, c})
				}
			}
		}
	}
}

// The same of t, which is open, and three others, of which none is Out.
func TestEdgesOfEveryFour(t *testing.T) {
	for bits := range 1 << 12 {
		reads := edgeBits(bits, 4)
		x := graphTxn(0, 1, 1, reads[0])
		for kinds := range 3 * 3 * 3 {
			list := []impl.Txn{graphTxn(1, 2, kinds%3+1, reads[1]), graphTxn(2, 3, kinds/3%3+1, reads[2]), graphTxn(3, 4, kinds/9+1, reads[3])}
			checkAll(t, x, list)
		}
	}
}

func TestEdgesOfWrongOnes(t *testing.T) {
	all := allTxns()
	for i, a := range all {
		for j, b := range all {
			checkTwo(t, a, b)
			a.Id, b.Id = i, -j
			checkTwo(t, a, b)
			c := all[(i*7+j)%len(all)]
			checkAll(t, a, []impl.Txn{b, c, a})
			b.Id, c.Id = math.MinInt, math.MaxInt
			b.State, c.State = 2, 2
			checkAll(t, a, []impl.Txn{b, c, {}})
		}
		checkAll(t, a, nil)
		checkAll(t, a, all)
	}
}

func TestEdgesOfLongLists(t *testing.T) {
	var list []impl.Txn
	for i := range 1000 {
		list = append(list, reading(writing(readyOne(i+2), fmt.Sprint("p", i)), "x"))
	}
	checkDanger(t, "a thousand that are ahead", inTheMiddle(), false, false, list...)
	list[999].Writes = writesOf("p999", "x")
	checkDanger(t, "one of them behind all others", inTheMiddle(), true, true, list...)
	x := inTheMiddle()
	for i := range 3000 {
		key := fmt.Sprintf("%05d", i)
		x.Reads, x.Writes = append(x.Reads, oneKey("r"+key)), append(x.Writes, put("w"+key, ""))
	}
	y := writing(doneOne(2), "a1", "w02999", "r02999")
	checkTwo(t, x, y)
	checkAll(t, x, txnList(y, x))
	y.Writes = append(y.Writes, x.Writes...)
	checkAll(t, y, txnList(x, y, readyOne(7)))
}

// roomyTxns is a list in memory of its own, with room behind it and behind the lists in it that is marked.
func roomyTxns(list []impl.Txn) []impl.Txn {
	var all []impl.Txn
	for _, x := range list {
		all = append(all, roomyTxn(x))
	}
	for range 3 {
		all = append(all, impl.Txn{Id: -9, Name: "mark"})
	}
	return all[:len(list)]
}

// checkRoomy tells whether all is as it was, the marks too.
func checkRoomy(t *testing.T, got, want []impl.Txn) {
	t.Helper()
	for i, x := range want {
		checkTxn(t, "an argument, behind a call", got[i], x)
		if !slices.Equal(got[i].Reads[:len(x.Reads)+3], append(slices.Clone(x.Reads), oneKey("mark"), oneKey("mark"), oneKey("mark"))) {
			t.Error("something is written behind Reads")
		}
		if !slices.Equal(got[i].Writes[:len(x.Writes)+3], append(slices.Clone(x.Writes), put("mark", "mark"), put("mark", "mark"), put("mark", "mark"))) {
			t.Error("something is written behind Writes")
		}
	}
	for _, x := range got[:len(want)+3][len(want):] {
		checkTxn(t, "behind the list", x, impl.Txn{Id: -9, Name: "mark"})
	}
}

func TestEdgesWriteNothing(t *testing.T) {
	x := inTheMiddle()
	lists := [][]impl.Txn{nil, {x}, allTxns(), {openOne(2), readyOne(3), doneOne(4), readyOne(1)}}
	for _, p := range []impl.Txn{readyOne(2), doneOne(2), openOne(2)} {
		p = reading(writing(p, "a", "p"), "x")
		lists = append(lists, txnList(openOne(7), p, reading(readyOne(3), "p"), readyOne(1), writing(doneOne(5), "a")), txnList(writing(p, "a"), readyOne(1), readyOne(6)))
	}
	for _, list := range lists {
		got, one := roomyTxns(list), roomyTxns(txnList(x))
		impl.Blocked(one[0], got)
		impl.OutOf(one[0], got)
		impl.InOf(one[0], got)
		impl.Danger(one[0], got)
		impl.ReadyDanger(one[0], got)
		for _, other := range got {
			impl.Beside(one[0], other)
			impl.Ahead(other, one[0])
			impl.Ahead(one[0], other)
		}
		checkRoomy(t, got, list)
		checkRoomy(t, one, txnList(x))
	}
}
