package tests

import (
	"fmt"
	"math"
	"slices"
	"strings"
	"testing"

	"loop.example/g00327/impl"
)

func openAt(id, snap int) impl.Txn {
	return impl.Txn{Id: id, State: 1, Snap: snap}
}

func pastOne(id, snap, cs int) impl.Txn {
	return impl.Txn{Id: id, State: 3, Snap: snap, Cs: cs}
}

func namedOne(id, snap int, name string) impl.Txn {
	return impl.Txn{Id: id, State: 2, Snap: snap, Name: name}
}

// someBase has versions up to 9, three that were let through at 7, 8 and 9, of which one is Out, and three that are ready.
func someBase() impl.Base {
	return impl.Base{
		Versions: history(),
		Past:     []impl.Txn{writing(pastOne(11, 5, 7), "a"), markedOut(reading(writing(pastOne(14, 6, 8), "d"), "a", "q")), writing(pastOne(12, 6, 9), "b", "zzz")},
		Ready:    []impl.Txn{reading(namedOne(15, 6, "c"), "r", "s"), markedOut(writing(namedOne(13, 8, "m"), "m")), reading(writing(namedOne(16, 9, "mm"), "n"), "w")},
		Cs:       9, Next: 20,
	}
}

// changedBase is b behind what change does to it; its lists are its own.
func changedBase(b impl.Base, change func(b *impl.Base)) impl.Base {
	b.Versions, b.Past, b.Ready = slices.Clone(b.Versions), slices.Clone(b.Past), slices.Clone(b.Ready)
	change(&b)
	return b
}

// pastOf are n that were let through, at 1 to n, with Ids that fall.
func pastOf(n int) []impl.Txn {
	var list []impl.Txn
	for i := range n {
		list = append(list, pastOne(100-i, 0, i+1))
	}
	return list
}

// readyOf are n that are ready, with Ids that fall.
func readyOf(n int) []impl.Txn {
	var list []impl.Txn
	for i := range n {
		list = append(list, namedOne(200-i, 0, letters(26)[i]))
	}
	return list
}

func rightBases() map[string]impl.Base {
	nine := []impl.Version{ver("a", "9", 9999)}
	return map[string]impl.Base{
		"the least":                  {Next: 1},
		"some":                       someBase(),
		"versions alone":             {Versions: history(), Cs: 9, Next: 1},
		"120 versions":               {Versions: manyVersions(120), Cs: 3, Next: 7},
		"a version at Cs":            {Versions: []impl.Version{ver("a", "1", 5)}, Cs: 5, Next: 2},
		"versions far below Cs":      {Versions: history(), Cs: 500, Next: 2},
		"MaxPast of Past":            {Past: pastOf(12), Cs: 12, Next: 101},
		"one of Past at Cs":          {Past: []impl.Txn{pastOne(1, 0, 3), pastOne(2, 0, 4)}, Cs: 4, Next: 3},
		"one of Past far below Cs":   {Past: []impl.Txn{pastOne(1, 0, 3)}, Cs: 4000, Next: 3},
		"MaxReady of Ready":          {Ready: readyOf(3), Next: 201},
		"a Snap of Ready at Cs":      {Ready: []impl.Txn{namedOne(1, 5, "a")}, Cs: 5, Next: 2},
		"a Snap of Ready below Cs":   {Ready: []impl.Txn{namedOne(1, 0, "a")}, Cs: 5, Next: 2},
		"Names that begin alike":     {Ready: []impl.Txn{namedOne(1, 0, "a"), namedOne(3, 0, "aa"), namedOne(2, 0, "ab")}, Next: 4},
		"all that there can be":      {Versions: manyVersions(120), Past: pastOf(12), Ready: readyOf(3), Cs: 12, Next: 201},
		"an Id one below Next":       {Past: []impl.Txn{pastOne(1, 0, 1)}, Ready: []impl.Txn{namedOne(2, 0, "a")}, Cs: 1, Next: 3},
		"Cs MaxCs":                   {Versions: nine, Past: []impl.Txn{pastOne(9998, 9998, 9999)}, Ready: []impl.Txn{namedOne(1, 9999, "zzz")}, Cs: 9999, Next: 9999},
		"Next MaxCs":                 {Next: 9999},
		"Next far above":             {Past: []impl.Txn{pastOne(1, 0, 1)}, Cs: 1, Next: 9999},
		"Ids that fall":              {Past: []impl.Txn{pastOne(3, 0, 1), pastOne(2, 0, 2)}, Ready: []impl.Txn{namedOne(1, 0, "a")}, Cs: 2, Next: 4},
		"Past, of which one is Out":  {Past: []impl.Txn{markedOut(pastOne(3, 0, 1))}, Cs: 1, Next: 4},
		"Ready, of which one is Out": {Ready: []impl.Txn{markedOut(namedOne(3, 0, "a"))}, Next: 4},
	}
}

// wrongBases are not right, each for one reason.
func wrongBases() map[string]impl.Base {
	wrong := map[string]impl.Base{
		"nothing in it":              {},
		"Next 0":                     {Cs: 3, Next: 0},
		"Next below 0":               {Next: -1},
		"the least Next":             {Next: math.MinInt},
		"Next MaxCs and 1":           {Next: 10000},
		"the greatest Next":          {Next: math.MaxInt},
		"Cs below 0":                 {Cs: -1, Next: 1},
		"the least Cs":               {Cs: math.MinInt, Next: 1},
		"Cs MaxCs and 1":             {Cs: 10000, Next: 1},
		"the greatest Cs":            {Cs: math.MaxInt, Next: 1},
		"121 versions":               {Versions: manyVersions(121), Cs: 3, Next: 7},
		"a version one above Cs":     {Versions: []impl.Version{ver("a", "1", 1), ver("a", "2", 6), ver("b", "1", 5)}, Cs: 5, Next: 2},
		"a version above Cs 0":       {Versions: []impl.Version{ver("a", "1", 1)}, Next: 2},
		"MaxPast and 1 of Past":      {Past: pastOf(13), Cs: 13, Next: 101},
		"50 of Past":                 {Past: pastOf(50), Cs: 50, Next: 101},
		"one of Past one above Cs":   {Past: []impl.Txn{pastOne(1, 0, 3), pastOne(2, 0, 4)}, Cs: 3, Next: 3},
		"two of Past with one Cs":    {Past: []impl.Txn{pastOne(1, 0, 3), pastOne(2, 0, 3)}, Cs: 3, Next: 3},
		"Past that falls":            {Past: []impl.Txn{pastOne(1, 0, 4), pastOne(2, 0, 3)}, Cs: 4, Next: 3},
		"one of Past, ready":         {Past: []impl.Txn{namedOne(1, 0, "a")}, Cs: 4, Next: 3},
		"one of Past, open":          {Past: []impl.Txn{{Id: 1, State: 1}}, Cs: 4, Next: 3},
		"one of Past, of no state":   {Past: []impl.Txn{{Id: 1, State: 4, Cs: 1}}, Cs: 4, Next: 3},
		"MaxReady and 1 of Ready":    {Ready: readyOf(4), Next: 201},
		"26 of Ready":                {Ready: readyOf(26), Next: 201},
		"two of Ready with one Name": {Ready: []impl.Txn{namedOne(1, 0, "a"), namedOne(2, 0, "a")}, Next: 3},
		"Names that fall":            {Ready: []impl.Txn{namedOne(1, 0, "b"), namedOne(2, 0, "a")}, Next: 3},
		"a Name's beginning behind":  {Ready: []impl.Txn{namedOne(1, 0, "ab"), namedOne(2, 0, "a")}, Next: 3},
		"Ready's Snap one above Cs":  {Ready: []impl.Txn{namedOne(1, 5, "a"), namedOne(2, 6, "b")}, Cs: 5, Next: 3},
		"one of Ready, done":         {Ready: []impl.Txn{pastOne(1, 0, 1)}, Cs: 4, Next: 3},
		"one of Ready, open":         {Ready: []impl.Txn{{Id: 1, State: 1}}, Cs: 4, Next: 3},
		"one of Ready, of no state":  {Ready: []impl.Txn{{Id: 1, Name: "a"}}, Cs: 4, Next: 3},
		"one Id in Past and Ready":   {Past: []impl.Txn{pastOne(2, 0, 1)}, Ready: []impl.Txn{namedOne(1, 0, "a"), namedOne(2, 0, "b")}, Cs: 1, Next: 3},
		"one Id twice in Past":       {Past: []impl.Txn{pastOne(2, 0, 1), pastOne(1, 0, 2), pastOne(2, 0, 3)}, Cs: 3, Next: 3},
		"one Id twice in Ready":      {Ready: []impl.Txn{namedOne(2, 0, "a"), namedOne(1, 0, "b"), namedOne(2, 0, "c")}, Next: 3},
		"an Id of Past that is Next": {Past: []impl.Txn{pastOne(3, 0, 1)}, Ready: []impl.Txn{namedOne(2, 0, "a")}, Cs: 1, Next: 3},
		"an Id of Ready at Next":     {Past: []impl.Txn{pastOne(1, 0, 1)}, Ready: []impl.Txn{namedOne(3, 0, "a")}, Cs: 1, Next: 3},
		"an Id above Next":           {Past: []impl.Txn{pastOne(77, 0, 1)}, Cs: 1, Next: 3},
		"an Id at Next MaxCs":        {Past: []impl.Txn{pastOne(9999, 0, 1)}, Cs: 1, Next: 9999},
		"nothing in one of Past":     {Past: []impl.Txn{{}}, Next: 3},
		"nothing in one of Ready":    {Ready: []impl.Txn{{}}, Next: 3},
	}
	for what, list := range wrongVersions() {
		wrong["Versions: "+what] = impl.Base{Versions: list, Cs: 9999, Next: 5}
	}
	for what, x := range wrongTxns() {
		wrong["Past: "+what] = impl.Base{Past: []impl.Txn{x}, Cs: 9999, Next: 9999}
		wrong["Ready: "+what] = impl.Base{Ready: []impl.Txn{x}, Cs: 9999, Next: 9999}
	}
	return wrong
}

func anyBases() []impl.Base {
	var all []impl.Base
	for _, b := range rightBases() {
		all = append(all, b)
	}
	for _, b := range wrongBases() {
		all = append(all, b)
	}
	return all
}

// tangledBases are not right for many reasons: what stands in them has no order, stands in several places, or has low numbers.
func tangledBases() []impl.Base {
	mixed := []impl.Txn{
		reading(writing(namedOne(5, 2, "m"), "a"), "b"), reading(writing(pastOne(5, 9, 3), "b"), "a"), markedOut(reading(writing(namedOne(6, -4, "c"), "c"), "a")),
		reading(writing(pastOne(-6, -3, -2), "a", "c"), "c"), writing(namedOne(5, 12, "m"), "a"), {}, reading(writing(openOne(9), "b"), "a"), reading(namedOne(8, 2, "m"), "b", "c"),
	}
	back := slices.Clone(mixed)
	slices.Reverse(back)
	var long []impl.Txn
	for i := range 60 {
		x := mixed[i*5%len(mixed)]
		x.Id, x.Cs = x.Id+i%7, x.Cs+i%11
		long = append(long, x)
	}
	var all []impl.Base
	for _, cs := range []int{math.MinInt, -3, -1, 0, 2, 9, 10000} {
		for _, list := range mixedLists()[80:95] {
			all = append(all, impl.Base{Versions: list, Past: mixed, Ready: back, Cs: cs, Next: cs})
		}
		all = append(all, impl.Base{Past: back, Ready: mixed, Cs: cs, Next: -cs}, impl.Base{Versions: manyVersions(150), Past: long, Ready: long, Cs: cs, Next: 7})
	}
	return all
}

func sameBase(a, b impl.Base) bool {
	return slices.Equal(a.Versions, b.Versions) && slices.EqualFunc(a.Past, b.Past, sameTxn) && slices.EqualFunc(a.Ready, b.Ready, sameTxn) &&
		a.Cs == b.Cs && a.Next == b.Next
}

// checkBase ends the test with the first wrong one, since it is asked of very many.
func checkBase(t *testing.T, what string, got, want impl.Base) {
	t.Helper()
	if !sameBase(got, want) {
		t.Fatalf("%s: %#v; want %#v", what, got, want)
	}
}

func outOfPast(b impl.Base, x impl.Txn) bool {
	return slices.ContainsFunc(b.Past, func(p impl.Txn) bool { return p.State == 3 && aheadByWords(x, p) })
}

func nextBehind(b impl.Base, id int) int {
	if b.Next > id {
		return b.Next
	}
	return id + 1
}

// throughOf is the document's sentence, from one part to the next.
func throughOf(b impl.Base, x impl.Txn) impl.Base {
	out := impl.Base{Versions: impl.PutVersions(b.Versions, x.Writes, b.Cs+1), Past: slices.Clone(b.Past), Cs: b.Cs + 1, Next: nextBehind(b, x.Id)}
	x.Cs, x.State, x.Name = out.Cs, 3, ""
	if outOfPast(b, x) {
		x.Out = true
	}
	out.Past = append(out.Past, x)
	for _, r := range b.Ready {
		if aheadByWords(r, x) {
			r.Out = true
		}
		if r.Id != x.Id {
			out.Ready = append(out.Ready, r)
		}
	}
	return out
}

func oldestOf(b impl.Base, open []impl.Txn) int {
	if len(open) == 0 {
		return b.Cs
	}
	sorted := slices.Clone(open)
	slices.SortFunc(sorted, func(x, y impl.Txn) int {
		if x.Snap < y.Snap {
			return -1
		}
		return 1
	})
	return sorted[0].Snap
}

func tidiedOf(b impl.Base, open []impl.Txn) impl.Base {
	oldest := oldestOf(b, open)
	out := impl.Base{Versions: trimmedOf(b.Versions, oldest), Ready: b.Ready, Cs: b.Cs, Next: b.Next}
	for _, p := range b.Past {
		if p.Cs > oldest {
			out.Past = append(out.Past, p)
		}
	}
	return out
}

// madeReadyOf puts x ahead of the first whose Name is above its own, unless one has that Name: then in its place.
func madeReadyOf(b impl.Base, x impl.Txn, name string) impl.Base {
	out := impl.Base{Versions: b.Versions, Past: b.Past, Cs: b.Cs, Next: nextBehind(b, x.Id)}
	x.State, x.Name = 2, name
	if outOfPast(b, x) {
		x.Out = true
	}
	there := slices.ContainsFunc(b.Ready, func(r impl.Txn) bool { return r.Name == name })
	put := false
	for _, r := range b.Ready {
		if !put && (there && r.Name == name || !there && below(name, r.Name)) {
			out.Ready, put = append(out.Ready, x), true
			if there {
				continue
			}
		}
		out.Ready = append(out.Ready, r)
	}
	if !put {
		out.Ready = append(out.Ready, x)
	}
	return out
}

func givenUpOf(b impl.Base, name string) impl.Base {
	out := b
	out.Ready = nil
	for _, r := range b.Ready {
		if r.Name != name {
			out.Ready = append(out.Ready, r)
		}
	}
	return out
}

func TestBaseLimits(t *testing.T) {
	if impl.MaxPast != 12 || impl.MaxReady != 3 {
		t.Error("a limit is not what the document says")
	}
	checkBase(t, "BaseNew", impl.BaseNew(), impl.Base{Next: 1})
	if !impl.BaseOk(impl.BaseNew()) {
		t.Error("a new one is not right")
	}
}

func TestBaseOk(t *testing.T) {
	for what, b := range rightBases() {
		if !impl.BaseOk(b) {
			t.Errorf("%s: not right", what)
		}
	}
	for what, b := range wrongBases() {
		if impl.BaseOk(b) {
			t.Errorf("%s: right", what)
		}
	}
	for _, b := range tangledBases() {
		if impl.BaseOk(b) {
			t.Errorf("%#v is right", b)
		}
	}
}

// Every choice of Cs and Next near their limits, beside a version, one of Past and one of Ready.
func TestBaseOkOfNumbers(t *testing.T) {
	numbers := []int{math.MinInt, math.MinInt + 1, -10000, -2, -1, 0, 1, 2, 3, 4, 5, 6, 7, 9998, 9999, 10000, math.MaxInt - 1, math.MaxInt}
	for _, cs := range numbers {
		for _, next := range numbers {
			b := impl.Base{Cs: cs, Next: next}
			within := cs >= 0 && cs <= 9999 && next >= 1 && next <= 9999
			checkAnswer(t, fmt.Sprint("nothing, ", cs, next), impl.BaseOk(b), within)
			b.Versions = []impl.Version{ver("a", "1", 2), ver("b", "1", 1)}
			checkAnswer(t, fmt.Sprint("versions up to 2, ", cs, next), impl.BaseOk(b), within && cs >= 2)
			b.Past = []impl.Txn{pastOne(5, 0, 1), pastOne(3, 1, 4)}
			checkAnswer(t, fmt.Sprint("Past up to 4, Ids up to 5, ", cs, next), impl.BaseOk(b), within && cs >= 4 && next >= 6)
			b.Ready = []impl.Txn{namedOne(6, 5, "a"), namedOne(2, 3, "b")}
			checkAnswer(t, fmt.Sprint("Snaps up to 5, Ids up to 6, ", cs, next), impl.BaseOk(b), within && cs >= 5 && next >= 7)
		}
	}
}

// At every place of full lists one that is not right is told.
func TestBaseOkLooksAtAll(t *testing.T) {
	full := impl.Base{Versions: manyVersions(120), Past: pastOf(12), Ready: readyOf(3), Cs: 20, Next: 300}
	checkAnswer(t, "full lists", impl.BaseOk(full), true)
	for at := range full.Past {
		for what, change := range map[string]func(x *impl.Txn){
			"Cs one above": func(x *impl.Txn) { x.Cs = 21 }, "Cs like the next": func(x *impl.Txn) { x.Cs = at + 2 }, "Cs like the one ahead": func(x *impl.Txn) { x.Cs = at },
			"Id Next": func(x *impl.Txn) { x.Id = 300 }, "ready": func(x *impl.Txn) { x.State, x.Cs, x.Name = 2, 0, "k" }, "open": func(x *impl.Txn) { x.State, x.Cs = 1, 0 },
			"a wrong Read": func(x *impl.Txn) { x.Reads = []impl.Range{{}} }, "a Name": func(x *impl.Txn) { x.Name = "a" }, "Snap at Cs": func(x *impl.Txn) { x.Snap = x.Cs },
		} {
			b := changedBase(full, func(b *impl.Base) { change(&b.Past[at]) })
			want := what == "Cs like the next" && at == 11
			checkAnswer(t, fmt.Sprint("Past, at ", at, ": ", what), impl.BaseOk(b), want)
		}
		for other := range at {
			b := changedBase(full, func(b *impl.Base) { b.Past[at].Id = b.Past[other].Id })
			checkAnswer(t, fmt.Sprint("one Id of Past at ", at, other), impl.BaseOk(b), false)
		}
		for other := range full.Ready {
			b := changedBase(full, func(b *impl.Base) { b.Past[at].Id = b.Ready[other].Id })
			checkAnswer(t, fmt.Sprint("one Id of Past and Ready at ", at, other), impl.BaseOk(b), false)
		}
	}
	for at := range full.Versions {
		b := changedBase(full, func(b *impl.Base) { b.Versions[at].Cs = 21 })
		checkAnswer(t, fmt.Sprint("a version above Cs at ", at), impl.BaseOk(b), false)
	}
}

func TestBaseOkLooksAtAllReady(t *testing.T) {
	full := impl.Base{Past: pastOf(12), Ready: readyOf(3), Cs: 20, Next: 300}
	for at := range full.Ready {
		for what, change := range map[string]func(x *impl.Txn){
			"Snap one above": func(x *impl.Txn) { x.Snap = 21 }, "Id Next": func(x *impl.Txn) { x.Id = 300 }, "done": func(x *impl.Txn) { x.State, x.Cs, x.Name = 3, 15, "" },
			"open": func(x *impl.Txn) { x.State, x.Name = 1, "" }, "a wrong Write": func(x *impl.Txn) { x.Writes = writesOf("A") }, "a Cs": func(x *impl.Txn) { x.Cs = 15 }, "no Name": func(x *impl.Txn) { x.Name = "" },
		} {
			b := changedBase(full, func(b *impl.Base) { change(&b.Ready[at]) })
			checkAnswer(t, fmt.Sprint("Ready, at ", at, ": ", what), impl.BaseOk(b), false)
		}
		checkAnswer(t, "a Snap at Cs", impl.BaseOk(changedBase(full, func(b *impl.Base) { b.Ready[at].Snap = 20 })), true)
		for other := range at {
			b := changedBase(full, func(b *impl.Base) { b.Ready[at].Id = b.Ready[other].Id })
			checkAnswer(t, fmt.Sprint("one Id of Ready at ", at, other), impl.BaseOk(b), false)
			b = changedBase(full, func(b *impl.Base) { b.Ready[at].Name = b.Ready[other].Name })
			checkAnswer(t, fmt.Sprint("one Name of Ready at ", at, other), impl.BaseOk(b), false)
			b = changedBase(full, func(b *impl.Base) { b.Ready[at].Name, b.Ready[other].Name = b.Ready[other].Name, b.Ready[at].Name })
			checkAnswer(t, fmt.Sprint("Names that fall at ", at, other), impl.BaseOk(b), false)
		}
	}
}

func snapsOf(snaps ...int) []impl.Txn {
	var list []impl.Txn
	for i, snap := range snaps {
		list = append(list, impl.Txn{Id: 30 + i, State: 1, Snap: snap})
	}
	return list
}

func TestOldestOf(t *testing.T) {
	for _, c := range []struct {
		open []impl.Txn
		want int
	}{
		{nil, 9}, {[]impl.Txn{}, 9}, {snapsOf(9), 9}, {snapsOf(4), 4}, {snapsOf(0), 0}, {snapsOf(12), 12}, {snapsOf(-3), -3},
		{snapsOf(3, 5), 3}, {snapsOf(5, 3), 3}, {snapsOf(7, 2, 8, 2, 9), 2}, {snapsOf(8, 7, 6, 5), 5}, {snapsOf(5, 6, 7, 8), 5},
		{snapsOf(math.MaxInt), math.MaxInt}, {snapsOf(math.MaxInt, math.MinInt), math.MinInt}, {snapsOf(12, 11, 10), 10},
		{[]impl.Txn{{}}, 0}, {[]impl.Txn{pastOne(1, 6, 7), namedOne(2, 5, "a")}, 5},
	} {
		if got := impl.OldestOf(someBase(), c.open); got != c.want {
			t.Errorf("OldestOf %#v: %d; want %d", c.open, got, c.want)
		}
	}
	for _, b := range append(anyBases(), tangledBases()...) {
		if impl.OldestOf(b, nil) != b.Cs || impl.OldestOf(b, snapsOf(77)) != 77 {
			t.Errorf("OldestOf %#v: %d, %d", b, impl.OldestOf(b, nil), impl.OldestOf(b, snapsOf(77)))
		}
	}
}

func TestThrough(t *testing.T) {
	x := reading(openAt(17, 9), "x")
	x.Writes = []impl.Write{put("a", "new"), gone("b"), put("e", "")}
	got := impl.Through(someBase(), x)
	want := someBase()
	want.Versions = []impl.Version{
		ver("a", "a2", 2), ver("a", "a4", 4), ver("a", "a7", 7), ver("a", "new", 10),
		ver("ab", "ab5", 5),
		ver("b", "b1", 1), goneVer("b", 3), ver("b", "b6", 6), goneVer("b", 9), goneVer("b", 10),
		goneVer("c", 4),
		goneVer("d", 2), ver("d", "", 8),
		ver("e", "", 10),
		ver("zzz", "end", 9),
	}
	done := x
	done.State, done.Cs = 3, 10
	want.Past = append(want.Past, done)
	want.Cs = 10
	checkBase(t, "Through", got, want)
	checkAnswer(t, "Through: right", impl.BaseOk(got), true)
}

func TestThroughOfTheFirst(t *testing.T) {
	got := impl.Through(impl.BaseNew(), writing(impl.Txn{Id: 1, State: 1}, "a"))
	value := writesOf("a")[0].Value
	want := impl.Base{Versions: []impl.Version{ver("a", value, 1)}, Past: []impl.Txn{writing(pastOne(1, 0, 1), "a")}, Cs: 1, Next: 2}
	checkBase(t, "the first", got, want)
	checkBase(t, "nothing read or written", impl.Through(impl.BaseNew(), impl.Txn{Id: 1, State: 1}), impl.Base{Past: []impl.Txn{pastOne(1, 0, 1)}, Cs: 1, Next: 2})
}

// Who has a Name goes without it, and is not of Ready any more: by the Id, whatever the Name.
func TestThroughOfOneThatIsReady(t *testing.T) {
	b := someBase()
	for at, x := range b.Ready {
		got := impl.Through(b, x)
		done := x
		done.State, done.Cs, done.Name = 3, 10, ""
		done.Out = got.Past[3].Out
		checkTxn(t, "the last of Past", got.Past[3], done)
		if len(got.Past) != 4 || !slices.EqualFunc(got.Ready, slices.Delete(slices.Clone(b.Ready), at, at+1), sameTxn) || !impl.BaseOk(got) {
			t.Errorf("of Ready at %d: %#v", at, got)
		}
		x.Name = "other"
		if got := impl.Through(b, x); len(got.Ready) != 2 || impl.ReadyAt(got, b.Ready[at].Name) != -1 || got.Past[3].Name != "" {
			t.Errorf("of Ready at %d, with another Name: %#v", at, got)
		}
		x.Id, x.Name = 18, b.Ready[at].Name
		if got := impl.Through(b, x); len(got.Ready) != 3 || got.Past[3].Name != "" {
			t.Errorf("of Ready at %d, with another Id: %#v", at, got)
		}
	}
}

func TestThroughOut(t *testing.T) {
	b := someBase()
	for _, c := range []struct {
		what string
		x    impl.Txn
		want bool
	}{
		{"reads nothing", openAt(17, 6), false},
		{"is Out already", markedOut(namedOne(15, 9, "c")), true},
		{"is Out already, and of Past", markedOut(reading(namedOne(15, 6, "c"), "a")), true},
		{"is ahead of the first of Past", reading(openAt(17, 6), "a"), true},
		{"is ahead of the second of Past", reading(openAt(17, 6), "d"), true},
		{"is ahead of the last of Past", reading(openAt(17, 8), "zzz"), true},
		{"reads it at its Snap", reading(openAt(17, 7), "a"), false},
		{"reads the last at its Snap", reading(openAt(17, 9), "a", "b", "d", "zzz"), false},
		{"read what nobody of Past writes", reading(openAt(17, 0), "c", "e"), false},
		{"is ready, and ahead of Past", reading(namedOne(15, 6, "c"), "b"), true},
		{"is ready, and not ahead of Past", reading(namedOne(15, 6, "c"), "e"), false},
		{"is ahead of Ready alone", reading(openAt(17, 6), "m", "n"), false},
		{"writes what one of Past read", writing(openAt(17, 6), "q"), false},
		{"has the Id of the one it is ahead of", reading(openAt(11, 6), "a"), false},
	} {
		got := impl.Through(b, c.x)
		checkAnswer(t, c.what, got.Past[3].Out, c.want)
		checkAnswer(t, c.what+": Out as it was", got.Past[0].Out || !got.Past[1].Out || got.Past[2].Out, false)
	}
}

func outs(list []impl.Txn) []bool {
	var all []bool
	for _, x := range list {
		all = append(all, x.Out)
	}
	return all
}

// Of Ready who read what it writes is Out from then on; who was Out stays so; all others stay as they are.
func TestThroughMarksReady(t *testing.T) {
	for _, c := range []struct {
		keys []string
		want []bool
	}{
		{nil, []bool{false, true, false}}, {[]string{"r"}, []bool{true, true, false}}, {[]string{"s"}, []bool{true, true, false}}, {[]string{"q"}, []bool{false, true, false}},
		{[]string{"m", "n"}, []bool{false, true, false}}, {[]string{"w"}, []bool{false, true, true}}, {[]string{"s", "w"}, []bool{true, true, true}},
	} {
		b := someBase()
		got := impl.Through(b, writing(openAt(17, 9), c.keys...))
		if !slices.Equal(outs(got.Ready), c.want) || got.Past[3].Out {
			t.Errorf("Through of one that writes %q: Ready are Out %v", c.keys, outs(got.Ready))
		}
		for i, x := range got.Ready {
			x.Out = b.Ready[i].Out
			checkTxn(t, "but for Out", x, b.Ready[i])
		}
	}
	// The one of Ready that began when this one was let through already saw it (never in a right one).
	b := changedBase(someBase(), func(b *impl.Base) { b.Ready[0].Snap, b.Ready[2].Snap = 10, 9 })
	got := impl.Through(b, writing(openAt(17, 9), "r", "w"))
	if !slices.Equal(outs(got.Ready), []bool{false, true, true}) {
		t.Errorf("Ready with a Snap above Cs: %v", outs(got.Ready))
	}
}

func TestNextIsAboveTheId(t *testing.T) {
	for _, c := range [][2]int{{1, 20}, {18, 20}, {19, 20}, {20, 21}, {21, 22}, {500, 501}, {9999, 10000}, {0, 20}, {-7, 20}, {math.MinInt, 20}} {
		through, ready := impl.Through(someBase(), openAt(c[0], 9)), impl.MadeReady(someBase(), openAt(c[0], 9), "a")
		if through.Next != c[1] || ready.Next != c[1] {
			t.Errorf("Next behind %d: %d, %d; want %d", c[0], through.Next, ready.Next, c[1])
		}
	}
	low := impl.Base{Next: -9}
	if impl.Through(low, openAt(-9, 0)).Next != -8 || impl.MadeReady(low, openAt(-8, 0), "a").Next != -7 || impl.Through(low, openAt(-10, 0)).Next != -9 {
		t.Error("a Next below 0")
	}
}

func TestTidied(t *testing.T) {
	b := someBase()
	for _, c := range []struct {
		open []impl.Txn
		past []impl.Txn
	}{
		{nil, nil}, {snapsOf(9), nil}, {snapsOf(10), nil}, {snapsOf(8), b.Past[2:]}, {snapsOf(7), b.Past[1:]}, {snapsOf(6), b.Past}, {snapsOf(0), b.Past},
		{snapsOf(9, 7, 8), b.Past[1:]}, {snapsOf(8, 9), b.Past[2:]}, {snapsOf(-1), b.Past},
	} {
		want := b
		want.Past, want.Versions = c.past, trimmedOf(b.Versions, oldestOf(b, c.open))
		got := impl.Tidied(b, c.open)
		checkBase(t, fmt.Sprintf("Tidied with %#v open", c.open), got, want)
		checkAnswer(t, "right", impl.BaseOk(got), true)
		checkBase(t, "Tidied again", impl.Tidied(got, c.open), want)
	}
	checkBase(t, "Tidied, a new one", impl.Tidied(impl.BaseNew(), nil), impl.BaseNew())
	checkVersions(t, "Tidied, nobody open", impl.Tidied(b, nil).Versions, []impl.Version{ver("a", "a7", 7), ver("ab", "ab5", 5), ver("d", "", 8), ver("zzz", "end", 9)})
	checkVersions(t, "Tidied to 7", impl.Tidied(b, snapsOf(7)).Versions, []impl.Version{ver("a", "a7", 7), ver("ab", "ab5", 5), ver("b", "b6", 6), goneVer("b", 9), goneVer("d", 2), ver("d", "", 8), ver("zzz", "end", 9)})
}

// A Cs of Past below, at and above each Snap, in any order.
func TestTidiedPast(t *testing.T) {
	past := []impl.Txn{pastOne(1, 0, 5), pastOne(2, 0, 3), pastOne(3, 0, 4), pastOne(4, 0, 3), pastOne(5, 0, -2), namedOne(6, 9, "a")}
	for snap := -4; snap <= 7; snap++ {
		for _, b := range []impl.Base{{Past: past, Cs: snap, Next: 9}, {Past: past, Cs: 5, Next: 9}} {
			open := snapsOf(snap, snap+1)
			if b.Cs == snap {
				open = nil
			}
			checkBase(t, "Tidied", impl.Tidied(b, open), tidiedOf(b, open))
		}
	}
}

func TestMadeReady(t *testing.T) {
	b := someBase()
	x := reading(writing(openAt(17, 9), "y"), "x")
	for _, c := range []struct {
		name string
		at   int
	}{{"a", 0}, {"bzz", 0}, {"ca", 1}, {"d", 1}, {"l", 1}, {"ma", 2}, {"ml", 2}, {"mmm", 3}, {"z", 3}} {
		want := b
		ready := x
		ready.State, ready.Name = 2, c.name
		want.Ready = slices.Insert(slices.Clone(b.Ready), c.at, ready)
		checkBase(t, "MadeReady as "+c.name, impl.MadeReady(b, x, c.name), want)
		if at := impl.ReadyAt(want, c.name); at != c.at {
			t.Errorf("ReadyAt %q: %d", c.name, at)
		}
	}
	first := impl.MadeReady(impl.BaseNew(), impl.Txn{Id: 1, State: 1}, "p")
	checkBase(t, "the first", first, impl.Base{Ready: []impl.Txn{namedOne(1, 0, "p")}, Next: 2})
	checkAnswer(t, "right", impl.BaseOk(first), true)
}

// One after the other, in every order of their Names, they stand ascending.
func TestMadeReadyInEveryOrder(t *testing.T) {
	names := []string{"a", "ab", "b"}
	for _, order := range [][]int{{0, 1, 2}, {0, 2, 1}, {1, 0, 2}, {1, 2, 0}, {2, 0, 1}, {2, 1, 0}} {
		b := impl.BaseNew()
		for _, i := range order {
			b = impl.MadeReady(b, openAt(i+1, 0), names[i])
		}
		want := impl.Base{Ready: []impl.Txn{namedOne(1, 0, "a"), namedOne(2, 0, "ab"), namedOne(3, 0, "b")}, Next: 4}
		checkBase(t, fmt.Sprint("in the order ", order), b, want)
		for i, name := range names {
			if impl.ReadyAt(b, name) != i {
				t.Errorf("ReadyAt %q: %d", name, impl.ReadyAt(b, name))
			}
		}
		checkAnswer(t, "right", impl.BaseOk(b), true)
	}
}

func TestMadeReadyOut(t *testing.T) {
	b := someBase()
	for _, c := range []struct {
		what string
		x    impl.Txn
		want bool
	}{
		{"reads nothing", openAt(17, 6), false},
		{"is ahead of the first of Past", reading(openAt(17, 6), "a"), true},
		{"is ahead of the last of Past", reading(openAt(17, 8), "zzz"), true},
		{"reads it at its Snap", reading(openAt(17, 7), "a"), false},
		{"read what nobody of Past writes", reading(openAt(17, 0), "c", "e"), false},
		{"is ahead of Ready alone", reading(openAt(17, 6), "m", "n"), false},
		{"writes what one of Past read", writing(openAt(17, 6), "q"), false},
		{"has the Id of the one it is ahead of", reading(openAt(11, 6), "a"), false},
		{"is Out already, and ahead of Past", markedOut(reading(namedOne(17, 6, "x"), "a")), true},
		{"is Out already, and not ahead of Past", markedOut(reading(namedOne(17, 6, "x"), "e")), true},
	} {
		got := impl.MadeReady(b, c.x, "d")
		checkAnswer(t, c.what, got.Ready[1].Out, c.want)
		if !slices.EqualFunc(slices.Delete(got.Ready, 1, 2), b.Ready, sameTxn) || !slices.EqualFunc(got.Past, b.Past, sameTxn) {
			t.Errorf("%s: others are changed, too", c.what)
		}
	}
}

// One that was Out when it was made ready is so when it is made ready again behind a fall, where nobody of Past is left.
func TestMadeReadyAgain(t *testing.T) {
	b := impl.MadeReady(someBase(), reading(openAt(17, 6), "a"), "d")
	again := impl.MadeReady(impl.Tidied(someBase(), nil), b.Ready[1], "d")
	checkTxn(t, "made ready again", again.Ready[1], b.Ready[1])
	checkAnswer(t, "Out", again.Ready[1].Out, true)
}

func TestGivenUp(t *testing.T) {
	b := someBase()
	for at, x := range b.Ready {
		want := b
		want.Ready = slices.Delete(slices.Clone(b.Ready), at, at+1)
		got := impl.GivenUp(b, x.Name)
		checkBase(t, "GivenUp of "+x.Name, got, want)
		checkAnswer(t, "right", impl.BaseOk(got), true)
		if impl.ReadyAt(b, x.Name) != at || impl.ReadyAt(got, x.Name) != -1 {
			t.Errorf("ReadyAt %q: %d, and then %d", x.Name, impl.ReadyAt(b, x.Name), impl.ReadyAt(got, x.Name))
		}
	}
	for _, name := range []string{"", "a", "b", "cc", "l", "mmm", "M", "z", "zzzz", "m ", "\x00", strings.Repeat("m", 500)} {
		checkBase(t, "GivenUp of one that is not there", impl.GivenUp(b, name), b)
		if impl.ReadyAt(b, name) != -1 || impl.ReadyAt(impl.BaseNew(), name) != -1 {
			t.Errorf("ReadyAt %q is a place", name)
		}
	}
}

// Who is not of Ready is not given up, nor is at a place there, whatever its Name.
func TestNamesOfReadyAlone(t *testing.T) {
	b := changedBase(someBase(), func(b *impl.Base) { b.Past[1].Name = "k" })
	if impl.ReadyAt(b, "k") != -1 {
		t.Error("one of Past is at a place of Ready")
	}
	checkBase(t, "a Name in Past", impl.GivenUp(b, "k"), b)
}

// Out is who is ahead of one of Past that is done, wherever else one stands that is done, or in whatever state others of Past are.
func TestOutOfPastAlone(t *testing.T) {
	b := impl.Base{Past: []impl.Txn{writing(namedOne(5, 0, "k"), "a"), writing(openAt(6, 0), "b")}, Ready: []impl.Txn{writing(pastOne(7, 1, 2), "c")}, Cs: 3, Next: 9}
	x := reading(openAt(8, 0), "a", "b", "c")
	checkAnswer(t, "Through", impl.Through(b, x).Past[2].Out, false)
	checkAnswer(t, "MadeReady", impl.MadeReady(b, x, "x").Ready[1].Out, false)
	b.Past = append(b.Past, writing(pastOne(4, 1, 3), "c"))
	checkAnswer(t, "Through, and one of Past", impl.Through(b, x).Past[3].Out, true)
	checkAnswer(t, "MadeReady, and one of Past", impl.MadeReady(b, x, "x").Ready[1].Out, true)
}

// Several of one Name: the first one has the place, all are given up; one that is made ready takes the first one's place.
func TestSeveralOfOneName(t *testing.T) {
	b := impl.Base{Ready: []impl.Txn{namedOne(1, 0, "b"), namedOne(2, 0, "a"), namedOne(3, 0, "b"), namedOne(4, 0, "a")}, Next: 9}
	if impl.ReadyAt(b, "a") != 1 || impl.ReadyAt(b, "b") != 0 {
		t.Errorf("ReadyAt: %d, %d", impl.ReadyAt(b, "a"), impl.ReadyAt(b, "b"))
	}
	checkBase(t, "GivenUp of both", impl.GivenUp(b, "a"), impl.Base{Ready: []impl.Txn{b.Ready[0], b.Ready[2]}, Next: 9})
	checkBase(t, "MadeReady", impl.MadeReady(b, openAt(7, 0), "a"), impl.Base{Ready: []impl.Txn{b.Ready[0], namedOne(7, 0, "a"), b.Ready[2], b.Ready[3]}, Next: 9})
	one := impl.Base{Ready: readyOf(3), Next: 201}
	got := impl.MadeReady(one, openAt(7, 0), "b")
	checkBase(t, "MadeReady of a Name that is there", got, impl.Base{Ready: []impl.Txn{one.Ready[0], namedOne(7, 0, "b"), one.Ready[2]}, Next: 201})
	checkAnswer(t, "right", impl.BaseOk(got), true)
}

// Several of one Id: all of them are not of Ready any more.
func TestSeveralOfOneId(t *testing.T) {
	b := impl.Base{Past: []impl.Txn{pastOne(2, 0, 1)}, Ready: []impl.Txn{namedOne(2, 0, "a"), namedOne(1, 0, "b"), namedOne(2, 0, "c")}, Cs: 1, Next: 9}
	checkBase(t, "Through", impl.Through(b, b.Ready[2]), impl.Base{Past: []impl.Txn{b.Past[0], pastOne(2, 0, 2)}, Ready: b.Ready[1:2], Cs: 2, Next: 9})
	checkBase(t, "MadeReady", impl.MadeReady(b, openAt(1, 0), "d"), impl.Base{Past: b.Past, Ready: append(slices.Clone(b.Ready), namedOne(1, 0, "d")), Cs: 1, Next: 9})
}

// Every function, of every base and transaction, right or wrong.
func TestBasesOfAnything(t *testing.T) {
	txns := allTxns()
	for i, b := range append(anyBases(), tangledBases()...) {
		for j := range txns {
			if (i+j)%5 != 0 {
				continue
			}
			x, y := txns[j], txns[(i+j*3)%len(txns)]
			checkBase(t, "Through", impl.Through(b, x), throughOf(b, x))
			checkBase(t, "Tidied", impl.Tidied(b, []impl.Txn{x, y}), tidiedOf(b, []impl.Txn{x, y}))
			name := []string{"", "a", "c", "m", "mm", "z", "A", x.Name, y.Name, "\xff"}[(i+j)%10]
			checkBase(t, "MadeReady", impl.MadeReady(b, x, name), madeReadyOf(b, x, name))
		}
		for _, x := range append(slices.Clone(b.Past), b.Ready...) {
			checkBase(t, "Through of one that is there", impl.Through(b, x), throughOf(b, x))
			checkBase(t, "MadeReady of one that is there", impl.MadeReady(b, x, x.Name), madeReadyOf(b, x, x.Name))
			checkBase(t, "GivenUp", impl.GivenUp(b, x.Name), givenUpOf(b, x.Name))
			place := slices.IndexFunc(b.Ready, func(r impl.Txn) bool { return r.Name == x.Name })
			if impl.ReadyAt(b, x.Name) != place {
				t.Fatalf("ReadyAt %q in %#v: %d", x.Name, b, impl.ReadyAt(b, x.Name))
			}
		}
		checkBase(t, "Tidied with nobody open", impl.Tidied(b, nil), tidiedOf(b, nil))
		checkBase(t, "Tidied with those of Past open", impl.Tidied(b, b.Past), tidiedOf(b, b.Past))
	}
}

func TestBasesOfLongLists(t *testing.T) {
	b := impl.Base{Versions: manyVersions(900), Cs: 5000, Next: 3}
	for i := range 2000 {
		b.Past = append(b.Past, writing(pastOne(i, 1, 5000-i), "p"))
		b.Ready = append(b.Ready, reading(namedOne(-i, 1, fmt.Sprintf("%05d", i*2)), "r"))
	}
	x := reading(writing(openAt(1, 4000), "r", "aa"), "p")
	checkBase(t, "Through", impl.Through(b, x), throughOf(b, x))
	checkBase(t, "MadeReady", impl.MadeReady(b, x, "00333"), madeReadyOf(b, x, "00333"))
	checkBase(t, "GivenUp", impl.GivenUp(b, "00444"), givenUpOf(b, "00444"))
	if impl.ReadyAt(b, "03998") != 1999 || impl.ReadyAt(b, "03999") != -1 || impl.BaseOk(b) {
		t.Error("ReadyAt or BaseOk of long lists")
	}
	if got := impl.Tidied(b, b.Ready); len(got.Past) != 2000 || len(impl.Tidied(b, nil).Past) != 0 {
		t.Error("Tidied of long lists")
	}
	keys := letters(26)
	for i := range 26 {
		x.Writes, x.Reads = append(x.Writes, writesOf(keys[i]+"b")...), append(x.Reads, oneKey(keys[i]))
	}
	checkBase(t, "Through of long lists", impl.Through(someBase(), x), throughOf(someBase(), x))
}

// The greatest numbers are answered, too, though there is none above them.
func TestBasesOfTheGreatestNumbers(t *testing.T) {
	b := impl.Base{Versions: history(), Past: pastOf(2), Ready: readyOf(2), Cs: math.MaxInt, Next: math.MaxInt}
	x := reading(writing(openAt(math.MaxInt, math.MaxInt), "a"), "b")
	if got := impl.Through(b, x); len(got.Past) != 3 || len(got.Ready) != 2 || got.Past[2].Id != math.MaxInt {
		t.Errorf("Through: %#v", got)
	}
	if got := impl.MadeReady(b, x, "c"); len(got.Ready) != 3 || got.Cs != math.MaxInt || got.Ready[2].Id != math.MaxInt {
		t.Errorf("MadeReady: %#v", got)
	}
	if got := impl.Tidied(b, nil); len(got.Past) != 0 || got.Cs != math.MaxInt || got.Next != math.MaxInt {
		t.Errorf("Tidied: %#v", got)
	}
	checkBase(t, "GivenUp", impl.GivenUp(b, "z"), b)
}

// drawn is a source of numbers that is the same each time.
type drawn uint32

func (d *drawn) below(n int) int {
	*d = *d*1664525 + 1013904223
	return int(*d>>8) % n
}

// life follows what must be seen: for each number the keys and values as they were from then on, each written out whole.
type life struct {
	draw drawn
	base impl.Base
	at   []map[string]string
	next int
}

func (l *life) someTxn() impl.Txn {
	x := openAt(l.next, l.base.Cs-l.draw.below(3)*l.draw.below(2))
	if x.Snap < 0 {
		x.Snap = 0
	}
	l.next++
	for _, key := range letters(5) {
		switch l.draw.below(6) {
		case 0:
			x.Writes = append(x.Writes, gone(key))
		case 1, 2:
			x.Writes = append(x.Writes, put(key, fmt.Sprint("v", x.Id)))
		case 3:
			x.Reads = append(x.Reads, oneKey(key))
		}
	}
	return x
}

func (l *life) letThrough(x impl.Txn) {
	seen := map[string]string{}
	for key, value := range l.at[len(l.at)-1] {
		seen[key] = value
	}
	for _, w := range x.Writes {
		seen[w.Key] = w.Value
		if w.Gone {
			delete(seen, w.Key)
		}
	}
	l.at = append(l.at, seen)
	l.base = impl.Through(l.base, x)
}

// checkSeen asks what is seen at each number from the oldest on.
func (l *life) checkSeen(t *testing.T, oldest int) {
	t.Helper()
	for cs := oldest; cs < len(l.at); cs++ {
		for _, key := range letters(6) {
			value, there := l.at[cs][key]
			checkSeen(t, l.base.Versions, key, cs, value, there)
		}
	}
}

// Promise 9: in drawn lives who is let through is seen from that number on, and not below it; who is made ready, or given up, is not seen.
func TestWhoIsLetThroughIsSeen(t *testing.T) {
	for seed := range 60 {
		l := &life{drawn(seed), impl.BaseNew(), []map[string]string{{}}, 1}
		oldest := 0
		for range 40 {
			was := l.base
			switch kind := l.draw.below(6); {
			case kind <= 1:
				x := l.someTxn()
				l.letThrough(x)
				checkBase(t, "Through", l.base, throughOf(was, x))
			case kind == 2 && len(was.Ready) < 3:
				x, name := l.someTxn(), letters(26)[l.next%26]
				l.base = impl.MadeReady(was, x, name)
				checkBase(t, "MadeReady", l.base, madeReadyOf(was, x, name))
			case kind == 3 && len(was.Ready) > 0:
				l.letThrough(was.Ready[l.draw.below(len(was.Ready))])
			case kind == 4 && len(was.Ready) > 0:
				l.base = impl.GivenUp(was, was.Ready[l.draw.below(len(was.Ready))].Name)
			case kind == 5 || len(was.Past) == 12:
				open := snapsOf(was.Cs, oldest+l.draw.below(was.Cs-oldest+1))
				l.base = impl.Tidied(was, open)
				oldest = oldestOf(was, open)
				checkBase(t, "Tidied", l.base, tidiedOf(was, open))
			}
			l.checkSeen(t, oldest)
			if len(l.base.Past) <= 12 && !impl.BaseOk(l.base) || l.base.Cs != len(l.at)-1 || l.base.Next != l.next {
				t.Fatalf("a base that is not right: %#v", l.base)
			}
		}
	}
}

// Who is made ready is not seen until it is let through; who is given up never is.
func TestWhoIsMadeReadyIsNotSeen(t *testing.T) {
	x := openAt(17, 9)
	x.Writes = []impl.Write{gone("a"), put("ab", "new"), put("f", "new")}
	b := someBase()
	ready := impl.MadeReady(b, x, "k")
	checkVersions(t, "made ready", ready.Versions, b.Versions)
	checkBase(t, "given up", impl.GivenUp(ready, "k"), b)
	through := impl.Through(ready, ready.Ready[impl.ReadyAt(ready, "k")])
	for _, snap := range []int{9, 10, 11} {
		later := snap >= 10
		checkScan(t, ready.Versions, everyKey, snap, impl.ScanAt(b.Versions, everyKey, 9))
		_, there := impl.SeenAt(through.Versions, "a", snap)
		checkAnswer(t, "what is gone", there, !later)
		value, there := impl.SeenAt(through.Versions, "f", snap)
		checkAnswer(t, "what is new", there && value == "new", later)
	}
	if through.Cs != 10 || ready.Cs != 9 || impl.ReadyAt(through, "k") != -1 {
		t.Errorf("%#v, then %#v", ready, through)
	}
}

// roomyBase is b in memory of its own, with marked room behind each of its lists, and behind those in them.
func roomyBase(b impl.Base) impl.Base {
	b.Versions, b.Past, b.Ready = roomyVersions(b.Versions), roomyTxns(b.Past), roomyTxns(b.Ready)
	return b
}

func txnsTexts(list []impl.Txn) []string {
	var texts []string
	for _, x := range list {
		texts = append(texts, txnTexts(x)...)
	}
	return texts
}

func baseTexts(b impl.Base) []string {
	return slices.Concat(versionTexts(b.Versions), txnsTexts(b.Past), txnsTexts(b.Ready))
}

// checkListsApart tells whether no text of one list of b lies in the memory of another list, and no text of one of Past or
// Ready in that of another one.
func checkListsApart(t *testing.T, what string, b impl.Base) {
	t.Helper()
	parts := [][]string{versionTexts(b.Versions)}
	for _, x := range slices.Concat(b.Past, b.Ready) {
		parts = append(parts, rangeTexts(x.Reads), writeTexts(x.Writes), []string{x.Name})
	}
	for i, part := range parts {
		for j, other := range parts {
			if i != j {
				checkApart(t, what+", its lists", part, other)
			}
		}
	}
}

// spoil writes into all of an answer, and behind it.
func spoil(b impl.Base) {
	for _, list := range [][]impl.Txn{b.Past, b.Ready} {
		for i, x := range list {
			for k := range x.Reads {
				x.Reads[k] = oneKey("other")
			}
			for k := range x.Writes {
				x.Writes[k] = put("other", "other")
			}
			_, _ = append(x.Reads, oneKey("other")), append(x.Writes, put("other", "other"))
			list[i] = impl.Txn{Id: 66, Name: "other"}
		}
		_ = append(list, impl.Txn{Id: 66, Name: "other"})
	}
	for i := range b.Versions {
		b.Versions[i] = ver("other", "other", 66)
	}
	_ = append(b.Versions, ver("other", "other", 66))
}

// baseAnswers asks for everything that answers one.
func baseAnswers(b impl.Base, x impl.Txn, open []impl.Txn, name string) map[string]impl.Base {
	answers := map[string]impl.Base{
		"Through": impl.Through(b, x), "Tidied": impl.Tidied(b, open), "Tidied, nobody open": impl.Tidied(b, nil), "Tidied, nothing goes": impl.Tidied(b, snapsOf(math.MinInt)),
		"MadeReady": impl.MadeReady(b, x, name), "GivenUp": impl.GivenUp(b, name), "GivenUp, not there": impl.GivenUp(b, "nobody"), "BaseNew": impl.BaseNew(),
	}
	for i, r := range b.Ready {
		answers[fmt.Sprint("Through of Ready ", i)] = impl.Through(b, r)
		answers[fmt.Sprint("MadeReady again ", i)] = impl.MadeReady(b, r, r.Name)
		answers[fmt.Sprint("MadeReady as another ", i)] = impl.MadeReady(b, r, name)
		answers[fmt.Sprint("GivenUp ", i)] = impl.GivenUp(b, r.Name)
	}
	return answers
}

// checkUntouched tells whether b, and the room behind all its lists, is as it was.
func checkUntouched(t *testing.T, b, was impl.Base) {
	t.Helper()
	mark := ver("mark", "mark", 77)
	if !slices.Equal(b.Versions[:len(was.Versions)+3], append(slices.Clone(was.Versions), mark, mark, mark)) {
		t.Error("something is written into Versions, or behind them")
	}
	checkRoomy(t, b.Past, was.Past)
	checkRoomy(t, b.Ready, was.Ready)
}

func memoryBases() []impl.Base {
	key := fresh("abc")
	alike := reading(writing(namedOne(3, 0, key), key), key)
	alike.Writes[0].Value = key
	past := alike
	past.State, past.Cs, past.Id = 3, 1, 4
	bases := []impl.Base{
		impl.BaseNew(), someBase(),
		{Versions: []impl.Version{ver(key, key, 1)}, Past: []impl.Txn{past}, Ready: []impl.Txn{alike}, Cs: 1, Next: 9},
		{Past: allTxns(), Next: 9}, {Ready: allTxns(), Cs: 3, Next: 9},
	}
	return append(bases, tangledBases()[10:25]...)
}

func TestBasesAnswerNewMemory(t *testing.T) {
	for _, plain := range memoryBases() {
		b := roomyBase(plain)
		x := roomyTxns([]impl.Txn{reading(writing(openAt(17, 0), "abc", "r"), "a", "m")})
		open, name := roomyTxns(append(snapsOf(8, 7), reading(openAt(40, 6), "abc"))), fresh("mmb")
		given := slices.Concat(baseTexts(b), txnsTexts(x), txnsTexts(open), []string{name})
		first, second := baseAnswers(b, x[0], open, name), baseAnswers(b, x[0], open, name)
		for what, answer := range first {
			if len(plain.Past)+len(plain.Ready) < 40 {
				checkApart(t, what, baseTexts(answer), append(baseTexts(second[what]), given...))
				checkListsApart(t, what, answer)
			}
			spoil(answer)
		}
		for what, answer := range baseAnswers(b, x[0], open, name) {
			checkBase(t, what+", answered again", answer, second[what])
		}
		impl.BaseOk(b)
		impl.OldestOf(b, open)
		impl.ReadyAt(b, name)
		checkUntouched(t, b, plain)
		checkRoomy(t, x, []impl.Txn{reading(writing(openAt(17, 0), "abc", "r"), "a", "m")})
		checkRoomy(t, open, append(snapsOf(8, 7), reading(openAt(40, 6), "abc")))
	}
}

// Lists that lie in one piece of memory, one behind the other, are not written into either.
func TestBasesInOnePieceOfMemory(t *testing.T) {
	plain := someBase()
	whole := slices.Concat(plain.Past, plain.Ready, snapsOf(6, 7))
	was := slices.Clone(whole)
	b := plain
	b.Past, b.Ready = whole[:3], whole[3:6]
	for what, answer := range baseAnswers(b, whole[6], whole[6:], "d") {
		checkBase(t, what, answer, baseAnswers(plain, was[6], was[6:], "d")[what])
		spoil(answer)
	}
	impl.BaseOk(b)
	if !slices.EqualFunc(whole, was, sameTxn) {
		t.Error("something is written into what was handed in")
	}
}
