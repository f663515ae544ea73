package tests

import (
	"fmt"
	"maps"
	"math"
	"slices"
	"strings"
	"testing"

	"loop.example/g00327/impl"
)

func cell(key, value string) impl.Cell {
	return impl.Cell{Key: key, Value: value}
}

// cellsOf are cells of these keys, no two of them alike.
func cellsOf(keys ...string) []impl.Cell {
	var list []impl.Cell
	for i, key := range keys {
		list = append(list, cell(key, fmt.Sprint("was", i)))
	}
	return list
}

// doing is one that read and wrote these keys; a key that begins with - is taken out.
func doing(x impl.Txn, reads, writes string) impl.Txn {
	x.Reads, x.Writes = nil, nil
	for _, key := range strings.Fields(reads) {
		from, to, found := strings.Cut(key, "..")
		if !found {
			to = from
		}
		x.Reads = append(x.Reads, impl.Range{From: from, To: to})
	}
	for _, key := range strings.Fields(writes) {
		if key[0] == '-' {
			x.Writes = append(x.Writes, gone(key[1:]))
		} else {
			x.Writes = append(x.Writes, put(key, fmt.Sprint("by", x.Id)))
		}
	}
	return x
}

// beforeByWords is the document's sentence; mustBefore has its three reasons.
func beforeByWords(a, b impl.Txn) bool {
	return a.State == 3 && b.State == 3 && a.Id != b.Id && mustBefore(a, b)
}

// orderByWords takes out of those that are left, each time, the first one that none of the others must come before.
func orderByWords(list []impl.Txn) ([]int, bool) {
	var order, left []int
	for i := range list {
		left = append(left, i)
	}
	for len(left) > 0 {
		free := slices.IndexFunc(left, func(i int) bool {
			return !slices.ContainsFunc(left, func(j int) bool { return j != i && beforeByWords(list[j], list[i]) })
		})
		if free < 0 {
			return nil, false
		}
		order = append(order, left[free])
		left = slices.Delete(left, free, free+1)
	}
	return order, true
}

// inARing tells whether one must come before itself, over however many others.
func inARing(list []impl.Txn) bool {
	n := len(list)
	reach := make([][]bool, n)
	for i := range n {
		for j := range n {
			reach[i] = append(reach[i], beforeByWords(list[i], list[j]))
		}
	}
	for k := range n {
		for i := range n {
			for j := range n {
				reach[i][j] = reach[i][j] || reach[i][k] && reach[k][j]
			}
		}
	}
	for i := range n {
		if reach[i][i] {
			return true
		}
	}
	return false
}

func pairsIn(values map[string]string, r impl.Range) []impl.Pair {
	var out []impl.Pair
	for _, key := range slices.Sorted(maps.Keys(values)) {
		if between(r, key) {
			out = append(out, pair(key, values[key]))
		}
	}
	return out
}

// seenBySnap is what all of list wrote up to a number: of each key the write with the greatest Cs that is not above it; of
// several with that Cs the last one took the place of the others.
func seenBySnap(list []impl.Txn, r impl.Range, snap int) []impl.Pair {
	values, at := map[string]string{}, map[string]int{}
	for _, x := range list {
		for _, w := range x.Writes {
			last, there := at[w.Key]
			if x.Cs > snap || there && last > x.Cs {
				continue
			}
			at[w.Key], values[w.Key] = x.Cs, w.Value
			if w.Gone {
				delete(values, w.Key)
			}
		}
	}
	return pairsIn(values, r)
}

// rightByWords lets them come one by one in this order, each looking ahead of writing.
func rightByWords(list []impl.Txn, order []int) bool {
	values := map[string]string{}
	for _, i := range order {
		for _, r := range list[i].Reads {
			if !slices.Equal(pairsIn(values, r), seenBySnap(list, r, list[i].Snap)) {
				return false
			}
		}
		for _, w := range list[i].Writes {
			values[w.Key] = w.Value
			if w.Gone {
				delete(values, w.Key)
			}
		}
	}
	return true
}

// checkSerials asks everything of a list, and tells whether there is an order, and whether it is right. It ends the test
// with the first wrong answer, since it is asked of very many.
func checkSerials(t *testing.T, what string, list []impl.Txn) (ordered, right bool) {
	t.Helper()
	for _, a := range list {
		for _, b := range list {
			if impl.Before(a, b) != beforeByWords(a, b) {
				t.Fatalf("%s: Before of %#v and %#v is %v", what, a, b, impl.Before(a, b))
			}
		}
	}
	order, ok := orderByWords(list)
	got, gotOk := impl.SerialOrder(list)
	if gotOk != ok || !slices.Equal(got, order) || ok == inARing(list) {
		t.Fatalf("%s: SerialOrder of %#v is %v, %v; want %v, %v", what, list, got, gotOk, order, ok)
	}
	right = ok && rightByWords(list, order)
	if impl.SerialRight(list) != right {
		t.Fatalf("%s: SerialRight of %#v is %v; want %v", what, list, impl.SerialRight(list), right)
	}
	return ok, right
}

// checkOrder asks for one order, told in figures; "none" when there is none.
func checkOrder(t *testing.T, what string, want string, right bool, list ...impl.Txn) {
	t.Helper()
	order, ok := impl.SerialOrder(list)
	got := strings.Trim(fmt.Sprint(order), "[]")
	if !ok {
		if len(order) > 0 {
			t.Errorf("%s: false, with %v", what, order)
		}
		got = "none"
	}
	if got != want {
		t.Errorf("%s: SerialOrder is %s; want %s", what, got, want)
	}
	checkAnswer(t, what+": SerialRight", impl.SerialRight(list), right)
	checkSerials(t, what, list)
}

func checkBefore(t *testing.T, what string, a, b impl.Txn, want, turned bool) {
	t.Helper()
	checkAnswer(t, what, impl.Before(a, b), want)
	checkAnswer(t, what+", the other way round", impl.Before(b, a), turned)
}

func TestBefore(t *testing.T) {
	at := pastOne
	for _, c := range []struct {
		what         string
		a, b         impl.Txn
		want, turned bool
	}{
		{"nothing of each other", doing(at(1, 0, 1), "a", "b"), doing(at(2, 1, 2), "c", "d"), false, false},
		{"nothing at all", at(1, 0, 1), at(2, 0, 2), false, false},
		{"b read what a wrote, when a was through just then", doing(at(1, 2, 5), "", "k"), doing(at(2, 5, 9), "k", ""), true, false},
		{"b read what a wrote, when a was through one earlier", doing(at(1, 2, 5), "", "k"), doing(at(2, 6, 9), "k", ""), true, false},
		{"b read what a wrote, when a was not yet through", doing(at(1, 2, 5), "", "k"), doing(at(2, 4, 9), "k", ""), false, true},
		{"a read what b wrote, when b was through just then", doing(at(1, 5, 9), "k", ""), doing(at(2, 2, 5), "", "k"), false, true},
		{"a read what b wrote one later", doing(at(1, 4, 9), "k", ""), doing(at(2, 2, 5), "", "k"), true, false},
		{"a read what b wrote long behind it", doing(at(1, 0, 1), "k", ""), doing(at(2, 8, 9), "", "k"), true, false},
		{"both wrote, a first", doing(at(1, 0, 1), "", "k"), doing(at(2, 1, 2), "", "k"), true, false},
		{"both wrote, a long before", doing(at(1, 0, 1), "", "k"), doing(at(2, 7, 8), "", "k"), true, false},
		{"both wrote, though both were there at once", doing(at(1, 0, 7), "", "k"), doing(at(2, 0, 8), "", "k"), true, false},
		{"both wrote with one Cs", doing(at(1, 0, 7), "", "k"), doing(at(2, 0, 7), "", "k"), false, false},
		{"both took it out", doing(at(1, 0, 1), "", "-k"), doing(at(2, 1, 2), "", "-k"), true, false},
		{"one put it, one took it out", doing(at(1, 0, 1), "", "k"), doing(at(2, 1, 2), "", "-k"), true, false},
		{"both wrote several, and one of them is alike", doing(at(1, 0, 1), "", "a c k"), doing(at(2, 1, 2), "", "b k z"), true, false},
		{"both wrote several, and none is alike", doing(at(1, 0, 1), "", "a c k"), doing(at(2, 1, 2), "", "b kk z"), false, false},
		{"both read the same", doing(at(1, 0, 1), "k", ""), doing(at(2, 1, 2), "k", ""), false, false},
		{"b read what a took out", doing(at(1, 0, 1), "", "-k"), doing(at(2, 1, 2), "k", ""), true, false},
		{"a read what b took out later", doing(at(1, 0, 1), "k", ""), doing(at(2, 0, 2), "", "-k"), true, false},
		{"b read and wrote what a read and wrote", doing(at(1, 0, 1), "k", "k"), doing(at(2, 1, 2), "k", "k"), true, false},
		{"both at once read and wrote the same", doing(at(1, 0, 1), "k", "k"), doing(at(2, 0, 2), "k", "k"), true, true},
		{"each read what the other one wrote", doing(at(1, 0, 1), "a", "b"), doing(at(2, 0, 2), "b", "a"), true, true},
		{"each read what the other one wrote, one behind the other", doing(at(1, 0, 1), "a", "b"), doing(at(2, 1, 2), "b", "a"), true, false},
		{"a wrote k first, and b read what a wrote later", doing(at(1, 0, 3), "", "j k"), doing(at(2, 2, 4), "j", "k"), true, true},
		{"a range over it", doing(at(1, 0, 1), "", "k"), doing(at(2, 1, 2), "a..zzz", ""), true, false},
		{"a range that begins with it", doing(at(1, 0, 1), "", "k"), doing(at(2, 1, 2), "k..m", ""), true, false},
		{"a range that ends with it", doing(at(1, 0, 1), "", "k"), doing(at(2, 1, 2), "c..k", ""), true, false},
		{"a range that ends ahead of it", doing(at(1, 0, 1), "", "k"), doing(at(2, 1, 2), "c..jzz", ""), false, false},
		{"a range that begins behind it", doing(at(1, 0, 1), "", "k"), doing(at(2, 1, 2), "ka..m", ""), false, false},
		{"the last one of several ranges", doing(at(1, 0, 1), "", "k"), doing(at(2, 1, 2), "a b k", ""), true, false},
		{"a range of which nothing is right", doing(at(1, 0, 1), "", "k"), doing(at(2, 1, 2), "m..c", ""), false, false},
	} {
		checkBefore(t, c.what, c.a, c.b, c.want, c.turned)
		a, b := c.a, c.b
		a.Id, b.Id, a.Out, b.Out = 2, 1, true, true
		checkBefore(t, c.what+", with other Ids, and Out", a, b, c.want, c.turned)
	}
}

// Each reason alone makes a come first, and none of them when one of both is not done, or both have one Id.
func TestBeforeOfOnesThatAreDone(t *testing.T) {
	reasons := [][2]impl.Txn{
		{doing(pastOne(1, 0, 1), "", "k"), doing(pastOne(2, 1, 2), "k", "")},
		{doing(pastOne(1, 0, 1), "", "k"), doing(pastOne(2, 0, 2), "", "k")},
		{doing(pastOne(1, 0, 1), "k", ""), doing(pastOne(2, 0, 2), "", "k")},
		{doing(pastOne(1, 0, 1), "k", "k"), doing(pastOne(2, 0, 2), "k", "k")},
	}
	for _, two := range reasons {
		for _, state := range []int{1, 2, 0, 4, -3, 3, math.MinInt, math.MaxInt} {
			a, b := two[0], two[1]
			checkAnswer(t, "both are done", impl.Before(a, b), true)
			a.State = state
			checkAnswer(t, fmt.Sprint("a is ", state), impl.Before(a, b), state == 3)
			b.State = state
			checkAnswer(t, fmt.Sprint("both are ", state), impl.Before(a, b), state == 3)
			a.State = 3
			checkAnswer(t, fmt.Sprint("b is ", state), impl.Before(a, b), state == 3)
		}
		for _, id := range []int{1, 2, 0, -1, 9999, math.MaxInt, math.MinInt} {
			a, b := two[0], two[1]
			a.Id, b.Id = id, id
			checkBefore(t, "of one Id", a, b, false, false)
			b.Id = id ^ 1
			checkAnswer(t, "of unlike Ids", impl.Before(a, b), true)
		}
	}
}

// Every choice of numbers near each other, and at the ends of all numbers, with each reason.
func TestBeforeOfNumbers(t *testing.T) {
	numbers := []int{math.MinInt, -1, 0, 1, 2, 3, 9999, math.MaxInt}
	shapes := [][4]string{{"", "k", "k", ""}, {"", "k", "", "k"}, {"k", "", "", "k"}, {"k", "k", "", "k"}, {"", "k", "k", "k"}, {"k", "k", "k", "k"}}
	for _, s := range shapes {
		a, b := doing(pastOne(1, 0, 1), s[0], s[1]), doing(pastOne(2, 0, 1), s[2], s[3])
		for i := range 8 * 8 * 8 * 8 {
			a.Snap, a.Cs, b.Snap, b.Cs = numbers[i%8], numbers[i/8%8], numbers[i/64%8], numbers[i/512]
			if impl.Before(a, b) != beforeByWords(a, b) || impl.Before(b, a) != beforeByWords(b, a) {
				t.Fatalf("Before of %#v and %#v is %v, and %v the other way round", a, b, impl.Before(a, b), impl.Before(b, a))
			}
		}
	}
}

func TestSerialsOfEverySmallPair(t *testing.T) {
	for _, a := range smallTxns() {
		for _, b := range smallTxns() {
			for id := 1; id <= 2; id++ {
				b.Id = id
				checkSerials(t, "a small pair", []impl.Txn{a, b})
			}
		}
	}
}

func TestSerialOrder(t *testing.T) {
	at := pastOne
	checkOrder(t, "nobody", "", true)
	checkOrder(t, "one alone", "0", true, doing(at(1, 0, 1), "a..c", "a b"))
	checkOrder(t, "one alone that is nothing", "0", true, impl.Txn{})
	checkOrder(t, "one behind the other", "0 1 2 3", true, doing(at(1, 0, 1), "", "a"), doing(at(2, 1, 2), "a", "a b"), doing(at(3, 2, 3), "a..b", "-a"), doing(at(4, 3, 4), "a..z", "c"))
	checkOrder(t, "three that have nothing of each other", "0 1 2", true, at(3, 1, 3), at(1, 0, 1), at(2, 1, 2))
	checkOrder(t, "the second one read what the first one wrote, and did not see it", "1 0", true, doing(at(1, 0, 1), "", "a"), doing(at(2, 0, 2), "a", "b"))
	checkOrder(t, "the first one read what the second one wrote, and did not see it", "0 1", true, doing(at(1, 0, 1), "a", ""), doing(at(2, 0, 2), "", "a"))
	checkOrder(t, "two that each come first", "none", false, doing(at(1, 0, 1), "a", "b"), doing(at(2, 0, 2), "b", "a"))
	checkOrder(t, "two that each come first, and one ahead of them", "none", false, at(9, 0, 3), doing(at(1, 0, 1), "a", "b"), doing(at(2, 0, 2), "b", "a"))
	checkOrder(t, "two that each come first, and one behind them", "none", false, doing(at(1, 0, 1), "a", "b"), doing(at(2, 0, 2), "b", "a"), doing(at(3, 2, 3), "a b", ""))
	checkOrder(t, "two that each read and wrote one key", "none", false, doing(at(1, 0, 1), "a", "a"), doing(at(2, 0, 2), "a", "a"))
	checkOrder(t, "three in a ring", "none", false, doing(at(1, 0, 1), "a", "b"), doing(at(2, 0, 2), "b", "c"), doing(at(3, 0, 3), "c", "a"))
	checkOrder(t, "three in a ring that is open", "2 1 0", true, doing(at(1, 0, 1), "", "b"), doing(at(2, 0, 2), "b", "c"), doing(at(3, 0, 3), "c", "a"))
	checkOrder(t, "three in a ring, and one that is not", "none", false, doing(at(1, 0, 1), "a", "b"), at(7, 0, 7), doing(at(2, 0, 2), "b", "c"), doing(at(3, 0, 3), "c", "a"))
	checkOrder(t, "a ring of who saw, who overwrote and who did not see", "none", false, doing(at(1, 0, 2), "x y", "x"), doing(at(2, 0, 1), "y", "y"), doing(at(3, 1, 3), "x y", ""))
	checkOrder(t, "not ascending by Cs", "2 1 0", true, doing(at(3, 2, 3), "a", "a"), doing(at(2, 1, 2), "a", "a"), doing(at(1, 0, 1), "a", "a"))
	checkOrder(t, "not ascending by Cs, with nothing read", "1 2 0", true, doing(at(3, 2, 3), "", "a"), doing(at(1, 0, 1), "", "a"), doing(at(2, 1, 2), "", "a"))
	checkOrder(t, "both are the same, but for their Ids", "0 1", true, doing(at(1, 0, 1), "", "a"), doing(at(2, 0, 1), "", "a"))
}

// Of several that may come next the first by place is taken, also when it may only now, and stands ahead of the last one.
func TestSerialOrderTakesTheFirst(t *testing.T) {
	at := pastOne
	free := func(id int) impl.Txn { return doing(at(id, 0, id), "", letters(26)[id]) }
	checkOrder(t, "several that are free", "0 1 2 3", true, free(9), free(2), free(7), free(4))
	checkOrder(t, "one that waits among them", "1 2 0 3", true, doing(at(1, 0, 5), "", "x"), free(2), doing(at(3, 0, 6), "x", ""), free(4))
	checkOrder(t, "one that waits for the last one", "1 2 3 0", true, doing(at(1, 0, 5), "", "x"), free(2), free(3), doing(at(4, 0, 6), "x", ""))
	checkOrder(t, "two that wait for one", "2 0 1 3", true, doing(at(1, 0, 5), "", "x"), doing(at(2, 0, 6), "", "y"), doing(at(3, 0, 7), "x y", ""), free(4))
	checkOrder(t, "one that waits for two", "1 2 0 3", true, doing(at(1, 0, 5), "", "x"), doing(at(2, 0, 6), "x", ""), doing(at(3, 0, 7), "x", ""), free(4))
	checkOrder(t, "a chain from the end on", "3 2 1 0", true, doing(at(1, 0, 1), "", "a"), doing(at(2, 0, 2), "a", "b"), doing(at(3, 0, 3), "b", "c"), doing(at(4, 0, 4), "c", "d"))
	checkOrder(t, "to and fro", "1 0 3 2", true, doing(at(1, 0, 1), "", "a"), doing(at(2, 0, 2), "a", "b"), doing(at(3, 0, 3), "", "c"), doing(at(4, 0, 4), "c", "d"))
}

// Those of one Id, and who is not done, wait for nobody, and nobody waits for them; what they wrote is there all the same.
func TestSerialsOfOneIdAndOfWhoIsNotDone(t *testing.T) {
	at := pastOne
	checkOrder(t, "two of one Id that would each come first", "0 1", false, doing(at(1, 0, 1), "a", "b"), doing(at(1, 0, 2), "b", "a"))
	checkOrder(t, "two of one Id, one behind the other", "0 1", true, doing(at(1, 0, 1), "a", "b"), doing(at(1, 1, 2), "b", "a"))
	checkOrder(t, "two of one Id, not ascending by Cs", "0 1", false, doing(at(1, 1, 2), "b", "a"), doing(at(1, 0, 1), "a", "b"))
	checkOrder(t, "two of one Id that overwrite each other", "0 1 2", false, doing(at(1, 0, 2), "", "a"), doing(at(1, 0, 1), "", "-a"), doing(at(3, 2, 3), "a", ""))
	checkOrder(t, "one Id, and another one between", "0 1 2", true, doing(at(1, 0, 1), "", "a"), doing(at(2, 1, 2), "a", "b"), doing(at(1, 2, 3), "b", "b"))
	open := impl.Txn{Id: 1, State: impl.TxOpen, Snap: 0}
	checkOrder(t, "one that is open, ahead of who sees what it wrote", "0 1", true, doing(open, "", "a"), doing(at(2, 0, 1), "a", "b"))
	checkOrder(t, "one that is open, behind who sees what it wrote", "0 1", false, doing(at(2, 0, 1), "a", "b"), doing(open, "", "a"))
	checkOrder(t, "one that is open, and read what is not yet there", "0 1", true, doing(open, "b", ""), doing(at(2, 0, 1), "a", "b"))
	checkOrder(t, "one that is open, and did not see what is there", "0 1", false, doing(at(2, 0, 1), "a", "b"), doing(open, "b", ""))
	ready := impl.Txn{Id: 1, State: impl.TxReady, Snap: 1, Name: "p"}
	checkOrder(t, "one that is ready, and saw what is there", "0 1", true, doing(at(2, 0, 1), "", "b"), doing(ready, "b", ""))
	checkOrder(t, "one that is ready, and saw what is not there yet", "0 1", false, doing(ready, "b", ""), doing(at(2, 0, 1), "", "b"))
	checkOrder(t, "one that is ready, and sees its own at its Snap", "0", false, doing(ready, "b", "b"))
}

// Two that overwrite each other with one Cs have no order, and of the versions the last one stays, as PutVersions has it.
func TestSerialRightOfOneCs(t *testing.T) {
	first, second := doing(pastOne(1, 0, 1), "", "a"), doing(pastOne(2, 0, 1), "", "a")
	reader := doing(pastOne(3, 1, 2), "a", "")
	checkOrder(t, "the last one is seen", "0 1 2", true, first, second, reader)
	checkOrder(t, "the last one is seen, whoever it is", "0 1 2", true, second, first, reader)
	checkOrder(t, "the last one comes first", "1 0 2", false, doing(pastOne(1, 0, 1), "", "a z"), doing(pastOne(2, 0, 1), "z", "a"), reader)
}

func TestSerialRight(t *testing.T) {
	at := pastOne
	checkOrder(t, "put, put again and taken out", "0 1 2 3 4", true,
		doing(at(1, 0, 1), "a", "a"), doing(at(2, 1, 2), "a", "a"), doing(at(3, 2, 3), "a", "-a"), doing(at(4, 3, 4), "a", "a"), doing(at(5, 4, 5), "a..b", ""))
	checkOrder(t, "taken out of nothing", "0 1 2", true, doing(at(1, 0, 1), "a", "-a"), doing(at(2, 1, 2), "a", "-a"), doing(at(3, 2, 3), "a", ""))
	empty := impl.Txn{Id: 1, State: 3, Cs: 1, Writes: []impl.Write{put("a", "")}}
	checkOrder(t, "a value that is empty", "0 1", true, empty, doing(at(2, 1, 2), "a", ""))
	checkOrder(t, "one that wrote what it read itself", "0 1", true, doing(at(1, 0, 1), "a..c", "a b"), doing(at(2, 1, 2), "a..c", "-a b c"))
	checkOrder(t, "one that saw a key that another one took out later", "0 2 1 3", true,
		doing(at(1, 0, 1), "", "a b"), doing(at(2, 1, 2), "b", "-a"), doing(at(3, 1, 3), "a", "c"), doing(at(4, 3, 4), "a..c", ""))
	checkOrder(t, "one that looked at a range into which another one put", "1 0", true, doing(at(1, 0, 1), "", "b"), doing(at(2, 0, 2), "a..c", "d"))
	checkOrder(t, "two that looked at a range into which the other one put", "none", false, doing(at(1, 0, 1), "a..c", "a"), doing(at(2, 0, 2), "a..c", "b"))
	checkOrder(t, "two that looked at one key each, and put the other one", "none", false, doing(at(1, 0, 1), "b", "a"), doing(at(2, 0, 2), "a", "b"))
	checkOrder(t, "a Cs that is not above its Snap", "0", false, doing(at(1, 1, 1), "a", "a"))
	checkOrder(t, "a Cs that is one above its Snap", "0", true, doing(at(1, 1, 2), "a", "a"))
	checkOrder(t, "all reads are asked, the last one too", "0 1", false, doing(at(1, 0, 1), "", "a"), doing(impl.Txn{Id: 1, State: 3, Cs: 2}, "x y z a", ""))
	checkOrder(t, "all of them are asked, the last one too", "0 1 2", false, doing(at(1, 0, 1), "", "a"), doing(at(2, 1, 2), "a", ""), doing(impl.Txn{Id: 1, State: 3, Cs: 3}, "a", ""))
	checkOrder(t, "all of them are asked, the first one too", "0 1 2", false, doing(impl.Txn{Id: 1, State: 3, Snap: 1, Cs: 3}, "a", ""), doing(at(1, 0, 1), "", "a"), doing(at(2, 1, 2), "a", ""))
}

// A ring of n, of which each read what the next one wrote, has no order, wherever it begins; without one of its edges it has.
func TestSerialOrderOfRings(t *testing.T) {
	for n := 2; n <= 9; n++ {
		var ring []impl.Txn
		for i := range n {
			ring = append(ring, doing(pastOne(i+1, 0, i+1), letters(n)[(i+1)%n], letters(n)[i]))
		}
		for turn := range n {
			list := slices.Concat(ring[turn:], ring[:turn])
			checkOrder(t, fmt.Sprintf("a ring of %d", n), "none", false, list...)
			list = append(txnList(at20(30)), append(list, at20(31))...)
			checkOrder(t, fmt.Sprintf("a ring of %d among others", n), "none", false, list...)
			for at := range n {
				cut := slices.Clone(ring)
				cut[at].Reads = nil
				if ordered, right := checkSerials(t, "a ring that is cut", cut); !ordered || !right {
					t.Errorf("a ring of %d that is cut has no order, or is not right", n)
				}
			}
		}
	}
}

func at20(id int) impl.Txn {
	return pastOne(id, 19, 20)
}

// Every way in which four may have read what the others wrote; all of them were there at once. The Ids and numbers stand
// otherwise than the places.
func TestSerialOrderOfEveryFour(t *testing.T) {
	ordered := 0
	for bits := range 1 << 12 {
		var list []impl.Txn
		for i, reads := range edgeBits(bits, 4) {
			x := graphTxn(i, []int{3, 1, 4, 2}[i], 3, reads)
			x.Cs = []int{6, 9, 4, 5}[i]
			list = append(list, x)
		}
		ok, right := checkSerials(t, "four", list)
		if ok != right {
			t.Fatalf("%#v: in order, and not right", list)
		}
		if ok {
			ordered++
		}
	}
	// So many graphs of four have no ring.
	if ordered != 543 {
		t.Errorf("%d have an order", ordered)
	}
}

// drawnDone are some that are done, no two of one Id or Cs, which read and wrote few keys, put into a drawn order.
func drawnDone(draw *drawn, most int) []impl.Txn {
	n, keys := draw.below(most+1), letters(2+draw.below(5))
	var list []impl.Txn
	for i := range n {
		x := pastOne(n-i, i-min(i, draw.below(4)*draw.below(2)), i+1)
		for range draw.below(3) {
			x.Reads = append(x.Reads, impl.Range{From: keys[draw.below(len(keys))], To: keys[draw.below(len(keys))]})
		}
		for _, key := range keys {
			switch draw.below(5) {
			case 0:
				x.Writes = append(x.Writes, gone(key))
			case 1:
				x.Writes = append(x.Writes, put(key, fmt.Sprint(i)))
			}
		}
		list = slices.Insert(list, draw.below(len(list)+1), x)
	}
	return list
}

// Promise 14: of right ones those that are in order see what they saw.
func TestThoseInOrderSeeWhatTheySaw(t *testing.T) {
	draw := drawn(14)
	var inOrder, long, none int
	for range 12000 {
		list := drawnDone(&draw, 9)
		ordered, right := checkSerials(t, "a drawn list", list)
		if ordered != right {
			t.Fatalf("%#v: in order, and not right", list)
		}
		switch {
		case !ordered:
			none++
		case len(list) > 4:
			long++
		default:
			inOrder++
		}
	}
	if inOrder < 1000 || long < 1000 || none < 1000 {
		t.Errorf("%d in order, %d long ones, %d not", inOrder, long, none)
	}
}

// Those that came one behind the other, each beginning when the last one was through, are in order, and right.
func TestOneBehindTheOther(t *testing.T) {
	draw := drawn(141)
	for range 600 {
		list := drawnDone(&draw, 12)
		slices.SortFunc(list, func(a, b impl.Txn) int { return a.Cs - b.Cs })
		for i := range list {
			list[i].Snap = list[i].Cs - 1
		}
		if _, right := checkSerials(t, "one behind the other", list); !right {
			t.Fatalf("%#v is not right", list)
		}
		order, _ := impl.SerialOrder(list)
		if !slices.IsSorted(order) {
			t.Fatalf("%#v: the order is %v", list, order)
		}
		slices.Reverse(list)
		if _, right := checkSerials(t, "turned round", list); !right {
			t.Fatalf("%#v, turned round, is not right", list)
		}
	}
}

// Lists of which nothing need be right: Ids and numbers that come twice, all states, ranges turned round, writes in any order.
func TestSerialsOfDrawnWrongOnes(t *testing.T) {
	draw := drawn(77)
	var counts [3]int
	for range 12000 {
		list := drawnDone(&draw, 6)
		for i := range list {
			x := &list[i]
			for range draw.below(3) {
				switch draw.below(7) {
				case 0:
					x.Id = draw.below(3)
				case 1:
					x.State = draw.below(5)
				case 2:
					x.Snap = draw.below(7)
				case 3:
					x.Cs = draw.below(5)
				case 4:
					slices.Reverse(x.Writes)
				case 5:
					x.Writes = append(x.Writes, put("a", "again"), gone("b"), put("b", ""), gone("a"))
				case 6:
					x.Cs, x.Name, x.Out = -1, "?", true
				}
			}
		}
		switch ordered, right := checkSerials(t, "a drawn list", list); {
		case right:
			counts[0]++
		case ordered:
			counts[1]++
		default:
			counts[2]++
		}
	}
	if slices.Min(counts[:]) < 500 {
		t.Errorf("%v are right, in order alone, and neither", counts)
	}
}

func TestSerialsOfWrongOnes(t *testing.T) {
	all := allTxns()
	for i, a := range all {
		for j, b := range all {
			c := all[(i*5+j)%len(all)]
			checkSerials(t, "any", []impl.Txn{a, b, c})
			a.Id, b.Id, c.Id = math.MinInt, math.MaxInt, 0
			a.State, b.State, c.State = 3, 3, 3
			checkSerials(t, "any, but done", []impl.Txn{c, a, b})
		}
	}
	checkSerials(t, "nothing in them", []impl.Txn{{}, {}, {State: 3}})
	wide := []impl.Range{{}, {From: "", To: "\xff"}, {From: "b", To: "a"}, {To: "a"}, oneKey("")}
	for i, w := range [][]impl.Write{nil, {{}}, {put("\xff", "")}, {gone("")}, {put("", "v"), put("", "w")}, {{Key: "a", Value: "v", Gone: true}}} {
		x, y := pastOne(1, 0, 1), pastOne(2, i%2, 2)
		x.Writes, y.Writes, y.Reads = []impl.Write{put("a", "v"), put("", "v")}, w, wide
		checkSerials(t, "wrong writes and ranges", []impl.Txn{x, y, doing(pastOne(3, 2, 3), "a..z", "")})
		y.Reads, x.Reads = nil, wide
		checkSerials(t, "wrong writes and ranges", []impl.Txn{y, x})
	}
}

// In drawn lives of an engine all that were let through are in order, and right, though not always in the order of their
// numbers.
func TestWhoIsLetThroughIsInOrder(t *testing.T) {
	turned := 0
	for seed := range 40 {
		m := &many{draw: drawn(seed*104729 + 3), engine: impl.EngineNew(), played: impl.BaseNew(), codes: map[int]int{}}
		for range 120 {
			m.step(t, letters(2+seed%4))
		}
		if _, right := checkSerials(t, "a life", m.through); !right {
			t.Fatalf("%#v is not right", m.through)
		}
		order, _ := impl.SerialOrder(m.through)
		if !slices.IsSorted(order) {
			turned++
		}
		// One that saw nothing of all this is not in order with them, unless it read nothing that they wrote.
		late := doing(pastOne(900, 0, 901), "a..z", "a b c d e f")
		_, right := checkSerials(t, "a life, and one that did not see it", append(slices.Clone(m.through), late))
		wrote := slices.ContainsFunc(m.through, func(x impl.Txn) bool { return len(x.Writes) > 0 })
		checkAnswer(t, "a life, and one that did not see it", right, !wrote)
	}
	if turned == 0 {
		t.Error("all came in the order of their numbers")
	}
}

func TestSerialsOfLongLists(t *testing.T) {
	var chain, free []impl.Txn
	var backward, forward []int
	for i := range 400 {
		chain = append(chain, reading(writing(pastOne(i+1, 0, i+1), fmt.Sprintf("k%04d", i)), fmt.Sprintf("k%04d", i-1)))
		free = append(free, writing(pastOne(i+1, 0, i+1), fmt.Sprintf("k%04d", i)))
		backward, forward = append(backward, 399-i), append(forward, i)
	}
	for what, c := range map[string]struct {
		list  []impl.Txn
		order []int
	}{"a chain": {chain, backward}, "free ones": {free, forward}} {
		order, ok := impl.SerialOrder(c.list)
		if !ok || !slices.Equal(order, c.order) || !impl.SerialRight(c.list) {
			t.Errorf("%s: %v, %v", what, order, ok)
		}
	}
	chain[0].Reads = []impl.Range{oneKey("k0399")}
	if order, ok := impl.SerialOrder(chain); ok || len(order) > 0 || impl.SerialRight(chain) {
		t.Errorf("a long ring has the order %v", order)
	}
	x := pastOne(1, 0, 1)
	for i := range 2000 {
		x.Writes = append(x.Writes, put(fmt.Sprintf("%05d", i), "v"))
	}
	got := impl.PlayOne(cellsOf("00000", "00003x", "z"), x)
	if len(got) != 2002 || got[0] != cell("00000", "v") || got[4] != cell("00003x", "was1") || len(impl.ViewOf(got, oneKey("01999"))) != 1 {
		t.Errorf("%d cells of many writes", len(got))
	}
}

func checkCells(t *testing.T, what string, got, want []impl.Cell) {
	t.Helper()
	if !slices.Equal(got, want) {
		t.Errorf("%s: %#v; want %#v", what, got, want)
	}
}

func TestPlayOne(t *testing.T) {
	m := []impl.Cell{cell("b", "1"), cell("d", "2"), cell("f", "")}
	for _, c := range []struct {
		what   string
		writes []impl.Write
		want   []impl.Cell
	}{
		{"nothing", nil, m},
		{"put ahead of all", []impl.Write{put("a", "v")}, []impl.Cell{cell("a", "v"), m[0], m[1], m[2]}},
		{"put between", []impl.Write{put("c", "v")}, []impl.Cell{m[0], cell("c", "v"), m[1], m[2]}},
		{"put behind all", []impl.Write{put("g", "v")}, []impl.Cell{m[0], m[1], m[2], cell("g", "v")}},
		{"put behind what it begins with", []impl.Write{put("ba", "v")}, []impl.Cell{m[0], cell("ba", "v"), m[1], m[2]}},
		{"the first one put again", []impl.Write{put("b", "v")}, []impl.Cell{cell("b", "v"), m[1], m[2]}},
		{"the second one put again", []impl.Write{put("d", "v")}, []impl.Cell{m[0], cell("d", "v"), m[2]}},
		{"the last one put again", []impl.Write{put("f", "v")}, []impl.Cell{m[0], m[1], cell("f", "v")}},
		{"put again as it was", []impl.Write{put("d", "2")}, m},
		{"a value that is empty", []impl.Write{put("c", ""), put("d", "")}, []impl.Cell{m[0], cell("c", ""), cell("d", ""), m[2]}},
		{"the first one taken out", []impl.Write{gone("b")}, []impl.Cell{m[1], m[2]}},
		{"the second one taken out", []impl.Write{gone("d")}, []impl.Cell{m[0], m[2]}},
		{"the last one taken out", []impl.Write{gone("f")}, []impl.Cell{m[0], m[1]}},
		{"one taken out that is not there", []impl.Write{gone("a"), gone("c"), gone("g"), gone("bb")}, m},
		{"all taken out", []impl.Write{gone("b"), gone("d"), gone("f")}, nil},
		{"some of all", []impl.Write{put("a", "v"), put("b", "w"), gone("c"), gone("d"), put("e", ""), gone("f"), put("zzz", "z")}, []impl.Cell{cell("a", "v"), cell("b", "w"), cell("e", ""), cell("zzz", "z")}},
	} {
		for _, x := range []impl.Txn{doneOne(1), openOne(2), readyOne(3), {}} {
			x.Writes, x.Reads = c.writes, rangesOf(3)
			checkCells(t, c.what, impl.PlayOne(m, x), c.want)
		}
	}
	x := doing(doneOne(1), "", "a -b c")
	checkCells(t, "from nothing on", impl.PlayOne(nil, x), []impl.Cell{cell("a", "by1"), cell("c", "by1")})
	checkCells(t, "nothing from nothing on", impl.PlayOne([]impl.Cell{}, doneOne(1)), nil)
	checkCells(t, "taken out of nothing", impl.PlayOne(nil, doing(doneOne(1), "", "-a")), nil)
}

// Every choice of cells and of writes, put or taken out: a key has what was written, or what it had.
func TestPlayOneOfEverySmallList(t *testing.T) {
	keys := letters(4)
	for _, chosen := range subsets(keys) {
		m := cellsOf(chosen...)
		for _, writes := range everyWrites(keys) {
			values := map[string]string{}
			for _, c := range m {
				values[c.Key] = c.Value
			}
			for _, w := range writes {
				values[w.Key] = w.Value
				if w.Gone {
					delete(values, w.Key)
				}
			}
			var want []impl.Cell
			for _, key := range slices.Sorted(maps.Keys(values)) {
				want = append(want, cell(key, values[key]))
			}
			checkCells(t, "a small list", impl.PlayOne(m, impl.Txn{Writes: writes}), want)
		}
	}
}

// What is taken out of cells, and put there, one behind the other, is the same as all of it in one go.
func TestPlayOneGoesOn(t *testing.T) {
	draw := drawn(4)
	for range 500 {
		var m []impl.Cell
		values := map[string]string{}
		for _, x := range drawnDone(&draw, 12) {
			m = impl.PlayOne(m, x)
			for _, w := range x.Writes {
				values[w.Key] = w.Value
				if w.Gone {
					delete(values, w.Key)
				}
			}
			if got := impl.ViewOf(m, everyKey); len(got) != len(m) || !slices.Equal(got, pairsIn(values, everyKey)) {
				t.Fatalf("%#v; want %v", m, values)
			}
		}
	}
}

// Where cells are not ascending, or have a key twice, what is put stands in place of the first one of its Key, else ahead
// of the first one above it; what is taken out goes wherever it stands. Of two writes of one key the last one counts.
func TestPlayOneOfWrongCells(t *testing.T) {
	for _, c := range []struct {
		what   string
		m      []impl.Cell
		writes []impl.Write
		want   []impl.Cell
	}{
		{"falling, put again", cellsOf("c", "b", "a"), []impl.Write{put("a", "v")}, []impl.Cell{cell("c", "was0"), cell("b", "was1"), cell("a", "v")}},
		{"falling, put", cellsOf("c", "a"), []impl.Write{put("b", "v")}, []impl.Cell{cell("b", "v"), cell("c", "was0"), cell("a", "was1")}},
		{"falling, put behind all", cellsOf("c", "a"), []impl.Write{put("d", "v")}, []impl.Cell{cell("c", "was0"), cell("a", "was1"), cell("d", "v")}},
		{"falling, taken out", cellsOf("c", "b", "a"), []impl.Write{gone("a")}, cellsOf("c", "b")},
		{"falling, nothing done", cellsOf("c", "b", "a"), nil, cellsOf("c", "b", "a")},
		{"twice, put again", cellsOf("a", "a"), []impl.Write{put("a", "v")}, []impl.Cell{cell("a", "v"), cell("a", "was1")}},
		{"twice, taken out", cellsOf("a", "a"), []impl.Write{gone("a")}, nil},
		{"no key", cellsOf("", "b"), []impl.Write{put("", "v"), put("\xff", "w")}, []impl.Cell{cell("", "v"), cell("b", "was1"), cell("\xff", "w")}},
		{"no key, taken out", cellsOf("", "b"), []impl.Write{gone("")}, []impl.Cell{cell("b", "was1")}},
		{"gone with a value", cellsOf("a"), []impl.Write{{Key: "a", Value: "v", Gone: true}, {Key: "b", Value: "v", Gone: true}}, nil},
		{"written twice", cellsOf("a"), []impl.Write{put("a", "1"), put("b", "2"), put("a", "3"), put("b", "4")}, []impl.Cell{cell("a", "3"), cell("b", "4")}},
		{"put and taken out", cellsOf("a"), []impl.Write{put("b", "1"), gone("b"), put("a", "2"), gone("a")}, nil},
		{"taken out and put", cellsOf("a", "b"), []impl.Write{gone("b"), gone("a"), put("b", "1"), put("a", "2")}, []impl.Cell{cell("a", "2"), cell("b", "1")}},
		{"a long value", nil, []impl.Write{put("abcdef", strings.Repeat("v", 300))}, []impl.Cell{cell("abcdef", strings.Repeat("v", 300))}},
	} {
		checkCells(t, c.what, impl.PlayOne(c.m, impl.Txn{State: 3, Writes: c.writes}), c.want)
	}
}

func checkView(t *testing.T, what string, m []impl.Cell, r impl.Range, want ...impl.Pair) {
	t.Helper()
	if got := impl.ViewOf(m, r); !slices.Equal(got, want) {
		t.Errorf("%s: %#v; want %#v", what, got, want)
	}
}

func TestViewOf(t *testing.T) {
	m := []impl.Cell{cell("b", "1"), cell("bb", ""), cell("d", "2"), cell("f", "3")}
	all := []impl.Pair{pair("b", "1"), pair("bb", ""), pair("d", "2"), pair("f", "3")}
	checkView(t, "all", m, everyKey, all...)
	checkView(t, "from the first to the last", m, impl.Range{From: "b", To: "f"}, all...)
	checkView(t, "without the first", m, impl.Range{From: "ba", To: "f"}, all[1:]...)
	checkView(t, "without the last", m, impl.Range{From: "b", To: "ez"}, all[:3]...)
	checkView(t, "some between", m, impl.Range{From: "bb", To: "e"}, all[1:3]...)
	checkView(t, "one key", m, oneKey("d"), all[2])
	checkView(t, "one key with a value that is empty", m, oneKey("bb"), all[1])
	checkView(t, "one key that is not there", m, oneKey("c"))
	checkView(t, "one key that is a beginning", m, oneKey("bbb"))
	checkView(t, "none, below", m, impl.Range{From: "a", To: "azz"})
	checkView(t, "none, between", m, impl.Range{From: "bba", To: "czz"})
	checkView(t, "none, above", m, impl.Range{From: "fa", To: "zzz"})
	checkView(t, "of nothing", nil, everyKey)
	checkView(t, "of nothing in a list", []impl.Cell{}, everyKey)
	checkView(t, "a range turned round", m, impl.Range{From: "f", To: "b"})
	checkView(t, "no range", m, impl.Range{})
	checkView(t, "a range to nothing", m, impl.Range{From: "b"})
	checkView(t, "a range from nothing", m, impl.Range{To: "bb"}, all[:2]...)
	checkView(t, "a range of all texts", m, impl.Range{To: "\xff"}, all...)
	checkView(t, "cells that fall", []impl.Cell{m[3], m[2], m[0]}, impl.Range{From: "b", To: "d"}, all[2], all[0])
	checkView(t, "a key twice", []impl.Cell{m[0], cell("b", "other"), m[0]}, oneKey("b"), all[0], pair("b", "other"), all[0])
	checkView(t, "cells of no key", []impl.Cell{{}, cell("", "v"), m[0]}, impl.Range{}, pair("", ""), pair("", "v"))
}

func TestViewOfEverySmallList(t *testing.T) {
	keys := []string{"a", "ab", "b", "c", "ca"}
	for _, chosen := range subsets(keys) {
		m := cellsOf(chosen...)
		values := map[string]string{}
		for _, c := range m {
			values[c.Key] = c.Value
		}
		for _, from := range append(keys, "", "aa", "bz", "z", "\xff") {
			for _, to := range append(keys, "", "aa", "bz", "z", "\xff") {
				r := impl.Range{From: from, To: to}
				checkView(t, "a small list", m, r, pairsIn(values, r)...)
			}
		}
	}
}

// roomyCells is a list in memory of its own, with room behind it that is marked.
func roomyCells(list []impl.Cell) []impl.Cell {
	var out []impl.Cell
	for _, c := range list {
		out = append(out, cell(fresh(c.Key), fresh(c.Value)))
	}
	return append(out, cell("mark", "mark"), cell("mark", "mark"), cell("mark", "mark"))[:len(list)]
}

func cellTexts(list []impl.Cell) []string {
	var texts []string
	for _, c := range list {
		texts = append(texts, c.Key, c.Value)
	}
	return texts
}

func memoryCells() [][]impl.Cell {
	key := fresh("abc")
	return [][]impl.Cell{nil, {cell(key, key)}, cellsOf("b"), cellsOf(letters(12)...), cellsOf("c", "a", "b", "a"), {{}}, cellsOf("", "\xff"), {cell("b", strings.Repeat("v", 300))}}
}

func TestCellsAnswerNewMemory(t *testing.T) {
	for _, plain := range memoryCells() {
		for _, one := range allTxns() {
			m, ones := roomyCells(plain), roomyTxns(txnList(one))
			x := ones[0]
			r := impl.Range{From: fresh(""), To: fresh("zzz\xff")}
			was, given := slices.Clone(m[:cap(m)]), append(append(cellTexts(m), txnTexts(x)...), r.From, r.To)
			played, again := impl.PlayOne(m, x), impl.PlayOne(m, x)
			checkApart(t, "PlayOne", cellTexts(played), append(cellTexts(again), given...))
			view, viewAgain := impl.ViewOf(m, r), impl.ViewOf(m, r)
			checkApart(t, "ViewOf", pairTexts(view), append(pairTexts(viewAgain), given...))
			// Whatever is done to an answer is not to be seen in an argument, nor in another answer.
			wasAgain, wasView := slices.Clone(again), slices.Clone(viewAgain)
			for i := range played {
				played[i] = cell("other", "other")
			}
			for i := range view {
				view[i] = pair("other", "other")
			}
			_, _ = append(played, cell("other", "other")), append(view, pair("other", "other"))
			if !slices.Equal(again, wasAgain) || !slices.Equal(viewAgain, wasView) {
				t.Fatal("what is done to an answer is seen in another one")
			}
			checkCells(t, "PlayOne once more", impl.PlayOne(m, x), again)
			if !slices.Equal(m[:cap(m)], was) {
				t.Fatalf("something is written into %#v, or behind it", plain)
			}
			checkRoomy(t, ones, txnList(one))
		}
	}
}

// Cells in the middle of a greater list: what stands behind them stays, also where what is put would have room.
func TestCellsInOnePieceOfMemory(t *testing.T) {
	whole := cellsOf(letters(9)...)
	was := slices.Clone(whole)
	for from := range 9 {
		for to := from; to <= 9; to++ {
			for _, writes := range []string{"-a -b -c -d", "zzz", "a b c d e f g h i", "aa cc ee", "-e"} {
				x := doing(doneOne(1), "", writes)
				want := impl.PlayOne(slices.Clone(was[from:to]), x)
				checkCells(t, "in one piece", impl.PlayOne(whole[from:to], x), want)
				_ = append(impl.ViewOf(whole[from:to], everyKey), pair("other", "other"))
			}
		}
	}
	checkCells(t, "what was handed in", whole, was)
}

func TestSerialsWriteNothing(t *testing.T) {
	draw := drawn(5)
	lists := [][]impl.Txn{nil, {inTheMiddle()}, allTxns(), {doing(pastOne(1, 0, 1), "a", "b"), doing(pastOne(2, 0, 2), "b", "a")}}
	for range 60 {
		lists = append(lists, drawnDone(&draw, 9))
	}
	for _, list := range lists {
		got := roomyTxns(list)
		order, ok := impl.SerialOrder(got)
		again, _ := impl.SerialOrder(got)
		right := impl.SerialRight(got)
		for i := range order {
			order[i] = -9
		}
		_ = append(order, -9)
		third, thirdOk := impl.SerialOrder(got)
		if thirdOk != ok || !slices.Equal(third, again) || impl.SerialRight(got) != right {
			t.Errorf("%#v is not answered alike again", list)
		}
		for _, a := range got {
			for _, b := range got {
				impl.Before(a, b)
			}
		}
		checkRoomy(t, got, list)
	}
}
