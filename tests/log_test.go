package tests

import (
	"fmt"
	"math"
	"slices"
	"strings"
	"testing"

	"loop.example/g00327/impl"
)

const logSectors = 97

// wrongAreas are neither 0 nor 1.
var wrongAreas = []int{-1, 2, 3, -2, 48, 49, 255, 256, math.MinInt, math.MaxInt}

// recordBytes is the record of a text, as the document says it, for the lengths that an area may have.
func recordBytes(text string) string {
	if n := len(text); n > 127 {
		return string([]byte{byte(n%128 + 128), byte(n / 128)}) + text
	}
	return string([]byte{byte(len(text))}) + text
}

func allRecords(texts []string) string {
	var all strings.Builder
	for _, text := range texts {
		all.WriteString(recordBytes(text))
	}
	return all.String()
}

// overlaid is d with these bytes at a place, counted over all its sectors.
func overlaid(d impl.Disk, from int, text string) impl.Disk {
	all := strings.Join(d.Sectors, "")
	all = all[:from] + text + all[from+len(text):]
	out := impl.Disk{}
	for at := 0; at < len(all); at += impl.SectorSize {
		out.Sectors = append(out.Sectors, strings.Clone(all[at:at+impl.SectorSize]))
	}
	return out
}

// countPlace and recordPlace tell where an area's count and its records begin, over all sectors.
func countPlace(area int) int {
	return (1 + 48*area) * 64
}

func recordPlace(area int) int {
	return countPlace(area) + 64
}

// areaLaid is d with this count and these bytes behind the first sector of an area.
func areaLaid(d impl.Disk, area int, count byte, records string) impl.Disk {
	return overlaid(overlaid(d, countPlace(area), string([]byte{count})), recordPlace(area), records)
}

// logOf is a log in sectors that had other bytes before: the first byte, and the texts of both areas.
func logOf(first byte, texts0, texts1 []string) impl.Disk {
	d := overlaid(diskOf(logSectors), 0, string([]byte{first}))
	d = areaLaid(d, 0, byte(len(texts0)), allRecords(texts0))
	return areaLaid(d, 1, byte(len(texts1)), allRecords(texts1))
}

// withPut follows the document's words for a PutRecord that has room: the texts are those that the area has.
func withPut(d impl.Disk, area int, texts []string, text string) impl.Disk {
	d = overlaid(d, recordPlace(area)+len(allRecords(texts)), recordBytes(text))
	return overlaid(d, countPlace(area), string([]byte{byte(len(texts) + 1)}))
}

// withSwitch follows the document's words for a SwitchLog of which every text has room.
func withSwitch(d impl.Disk, list []string) impl.Disk {
	first := d.Sectors[0][0]
	d = areaLaid(d, 1-int(first%2), byte(len(list)), allRecords(list))
	return overlaid(d, 0, string([]byte{first + 1}))
}

// ones are n texts of one byte, all sorts of bytes.
func ones(n int) []string {
	var texts []string
	for i := range n {
		texts = append(texts, string([]byte{byte(i * 7)}))
	}
	return texts
}

// textsOf are texts of these lengths.
func textsOf(lengths ...int) []string {
	var texts []string
	for i, n := range lengths {
		texts = append(texts, pattern(i+3, n))
	}
	return texts
}

// filledBy255 are 255 texts that fill an area to its last byte.
func filledBy255() []string {
	return append(slices.Repeat(textsOf(11), 203), slices.Repeat(textsOf(10), 52)...)
}

// fillings are lists of texts that an area can have, among them those that fill it.
func fillings() [][]string {
	return [][]string{
		nil, {"a"}, {"one", "two", "three"}, {"\x00"}, {"\x00", "\xff", "\x01\x00"}, {allBytes()},
		textsOf(127), textsOf(128), textsOf(126, 127, 128, 129, 1), textsOf(62), textsOf(63), textsOf(64), textsOf(65), textsOf(700, 700, 700),
		ones(254), ones(255), textsOf(3005), textsOf(3006), textsOf(1, 3004), textsOf(3003, 1), textsOf(1502, 1502), textsOf(1502, 1501),
		textsOf(2881, 1, 1, 120), textsOf(2881, 1, 1, 119), slices.Repeat(textsOf(10), 255), slices.Repeat(textsOf(127), 23), filledBy255(),
	}
}

func checkArea(t *testing.T, what string, d impl.Disk, area int, texts []string) {
	t.Helper()
	got, place, ok := impl.ReadArea(d, area)
	if !ok || !slices.Equal(got, texts) || place != len(allRecords(texts)) {
		t.Errorf("%s: ReadArea of %d: %d texts up to %d, %v; want %d of them up to %d", what, area, len(got), place, ok, len(texts), len(allRecords(texts)))
	}
	if n := impl.CountIn(d, area); n != len(texts) {
		t.Errorf("%s: CountIn of %d is %d; want %d", what, area, n, len(texts))
	}
}

func checkNoArea(t *testing.T, what string, d impl.Disk, area int) {
	t.Helper()
	if got, place, ok := impl.ReadArea(d, area); ok || len(got) > 0 || place != 0 {
		t.Errorf("%s: ReadArea of %d: %d texts up to %d, %v", what, area, len(got), place, ok)
	}
}

func checkNotPut(t *testing.T, what string, d impl.Disk, area int, text string) {
	t.Helper()
	got, ok := impl.PutRecord(d, area, text)
	if ok {
		t.Errorf("%s: PutRecord of %d bytes into %d is accepted", what, len(text), area)
	}
	checkDisk(t, what+": PutRecord that is refused", got, d)
}

func checkNotAppended(t *testing.T, what string, d impl.Disk, text string) {
	t.Helper()
	got, ok := impl.AppendLog(d, text)
	if ok {
		t.Errorf("%s: AppendLog of %d bytes is accepted", what, len(text))
	}
	checkDisk(t, what+": AppendLog that is refused", got, d)
}

func checkNotSwitched(t *testing.T, what string, d impl.Disk, list []string) {
	t.Helper()
	got, ok := impl.SwitchLog(d, list)
	if ok {
		t.Errorf("%s: SwitchLog of %d texts is accepted", what, len(list))
	}
	checkDisk(t, what+": SwitchLog that is refused", got, d)
}

func TestLogLimits(t *testing.T) {
	if impl.AreaSectors != 48 || impl.AreaSize != 3008 {
		t.Error("a limit is not what the document says")
	}
}

func TestAreaFirst(t *testing.T) {
	if a, b := impl.AreaFirst(0), impl.AreaFirst(1); a != 1 || b != 49 {
		t.Errorf("AreaFirst is %d and %d; want 1 and 49", a, b)
	}
	for _, area := range wrongAreas {
		if got := impl.AreaFirst(area); got != 0 {
			t.Errorf("AreaFirst(%d) = %d; want 0", area, got)
		}
	}
}

func TestLogNew(t *testing.T) {
	d := impl.LogNew()
	checkDisk(t, "LogNew", d, impl.Disk{Sectors: slices.Repeat([]string{full("\x00")}, logSectors)})
	if !impl.LogOk(d) || impl.ActiveOf(d) != 0 || len(impl.LogTexts(d)) != 0 {
		t.Error("LogNew is not a log without records of which area 0 counts")
	}
	checkArea(t, "LogNew", d, 0, nil)
	checkArea(t, "LogNew", d, 1, nil)
	d.Sectors[0] = "other"
	checkDisk(t, "LogNew once more", impl.LogNew(), impl.Disk{Sectors: slices.Repeat([]string{full("\x00")}, logSectors)})
}

func TestActiveOf(t *testing.T) {
	for b := range 256 {
		d := logOf(byte(b), []string{"zero"}, []string{"one", "more"})
		if got := impl.ActiveOf(d); got != b&1 {
			t.Errorf("ActiveOf with the first byte %d is %d", b, got)
		}
		want := []string{"zero"}
		if b&1 == 1 {
			want = []string{"one", "more"}
		}
		if got := impl.LogTexts(d); !slices.Equal(got, want) {
			t.Errorf("LogTexts with the first byte %d: %q; want %q", b, got, want)
		}
	}
}

func TestActiveOfOtherDisks(t *testing.T) {
	long := diskOf(3)
	long.Sectors[0] = "\x01" + strings.Repeat("\x02", 200)
	for what, c := range map[string]struct {
		d    impl.Disk
		want int
	}{
		"no sectors":                      {impl.Disk{}, 0},
		"no sectors but a write":          {impl.Disk{Cache: []impl.Put{{At: 0, Text: full("\x01")}}}, 0},
		"an empty first sector":           {impl.Disk{Sectors: []string{"", full("\x01")}}, 0},
		"a first sector of an odd byte":   {impl.Disk{Sectors: []string{"\x07"}}, 1},
		"a first sector of an even byte":  {impl.Disk{Sectors: []string{"\x08\x01"}}, 0},
		"a long first sector":             {long, 1},
		"a write that waits":              {impl.Disk{Sectors: []string{full("\x02")}, Cache: []impl.Put{{At: 0, Text: full("\x03")}}}, 1},
		"the last of writes that wait":    {impl.Disk{Sectors: []string{full("\x02")}, Cache: []impl.Put{{At: 0, Text: full("\x03")}, {At: 0, Text: full("\x04")}}}, 0},
		"an empty write that waits":       {impl.Disk{Sectors: []string{full("\x01")}, Cache: []impl.Put{{At: 0}}}, 0},
		"a write that waits for another":  {impl.Disk{Sectors: []string{full("\x01"), full("\x01")}, Cache: []impl.Put{{At: 1, Text: full("\x04")}}}, 1},
		"one sector, the byte behind odd": {impl.Disk{Sectors: []string{"\xfe" + full("\x01")[1:]}}, 0},
	} {
		if got := impl.ActiveOf(c.d); got != c.want {
			t.Errorf("%s: ActiveOf is %d; want %d", what, got, c.want)
		}
	}
}

func TestCountIn(t *testing.T) {
	for b := range 256 {
		d := overlaid(overlaid(diskOf(logSectors), countPlace(0), string([]byte{byte(b)})), countPlace(1), string([]byte{byte(255 - b)}))
		if m, n := impl.CountIn(d, 0), impl.CountIn(d, 1); m != b || n != 255-b {
			t.Errorf("CountIn is %d and %d; want %d and %d", m, n, b, 255-b)
		}
		for _, area := range wrongAreas {
			if n := impl.CountIn(d, area); n != 0 {
				t.Errorf("CountIn of area %d is %d", area, n)
			}
		}
	}
}

func TestCountInOtherDisks(t *testing.T) {
	// That an area is there is asked of its first sector alone.
	for n := range 52 {
		d := impl.Disk{Sectors: slices.Repeat([]string{full("\x05")}, n)}
		want0, want1 := 0, 0
		if n > 1 {
			want0 = 5
		}
		if n > 49 {
			want1 = 5
		}
		if a, b := impl.CountIn(d, 0), impl.CountIn(d, 1); a != want0 || b != want1 {
			t.Errorf("CountIn of %d sectors is %d and %d; want %d and %d", n, a, b, want0, want1)
		}
	}
	d := logOf(0, ones(2), ones(3))
	d.Sectors[1] = ""
	d.Cache = []impl.Put{{At: 49, Text: full("\x09")}, {At: 1, Text: "\x08"}, {At: 49, Text: ""}}
	if a, b := impl.CountIn(d, 0), impl.CountIn(d, 1); a != 8 || b != 0 {
		t.Errorf("CountIn with writes that wait is %d and %d; want 8 and 0", a, b)
	}
	d.Cache = nil
	if a := impl.CountIn(d, 0); a != 0 {
		t.Errorf("CountIn of an empty sector is %d", a)
	}
}

func TestReadArea(t *testing.T) {
	list := fillings()
	for i, texts := range list {
		others := list[(i+5)%len(list)]
		d := logOf(byte(i), texts, others)
		what := fmt.Sprintf("filling %d", i)
		checkArea(t, what, d, 0, texts)
		checkArea(t, what, d, 1, others)
		if !impl.LogOk(d) {
			t.Errorf("%s is not LogOk", what)
		}
		for _, area := range wrongAreas {
			checkNoArea(t, what, d, area)
		}
	}
}

// Just so many records are read as the count says, whatever lies behind them.
func TestReadAreaUpToItsCount(t *testing.T) {
	texts := append(ones(254), "last one")
	d := logOf(0, texts, texts)
	for n := range 256 {
		x := overlaid(d, countPlace(n%2), string([]byte{byte(n)}))
		checkArea(t, "a lesser count", x, n%2, texts[:n])
		checkArea(t, "beside a lesser count", x, 1-n%2, texts)
	}
}

// brokenAreas are counts and bytes of which not all records can be read.
func brokenAreas() map[string]struct {
	count   byte
	records string
} {
	filled := allRecords(textsOf(2800, 200)) // 3004 bytes, so 4 are left
	return map[string]struct {
		count   byte
		records string
	}{
		"one empty record":                       {1, "\x00"},
		"an empty record ahead of others":        {3, "\x00\x01a\x01b"},
		"an empty record among others":           {3, "\x01a\x00\x01b"},
		"an empty record behind others":          {3, "\x01a\x01b\x00"},
		"one record more than there are":         {3, "\x01a\x01b" + strings.Repeat("\x00", 100)},
		"255 records of which there are 254":     {255, allRecords(ones(254)) + "\x00"},
		"a nought in a longer form":              {1, "\x80\x00" + strings.Repeat("a", 200)},
		"one in a longer form":                   {1, "\x81\x00" + strings.Repeat("a", 200)},
		"a length that is too long for a number": {1, "\xff\xff\xff\xff\x7f" + strings.Repeat("a", 100)},
		"a length without an end":                {1, strings.Repeat("\xff", 3008)},
		"MaxNumber bytes":                        {1, "\x80\x94\xeb\xdc\x03" + strings.Repeat("a", 100)},
		"one byte more than an area has":         {1, "\xbf\x17" + strings.Repeat("a", 3006)},
		"as many bytes as an area has":           {1, "\xc0\x17" + strings.Repeat("a", 3006)},
		"one byte more than is left":             {3, filled + "\x04abc"},
		"many bytes more than are left":          {3, filled + "\x7fabc"},
		"a length that ends behind the area":     {3, filled + "\xff\xff\xff\xff"},
		"two records where one fills the area":   {2, allRecords(textsOf(3006))},
		"255 records of which there are 251":     {255, allRecords(slices.Repeat(textsOf(11), 250)) + "\x07abcdefg"},
	}
}

func TestReadAreaRefuses(t *testing.T) {
	for what, c := range brokenAreas() {
		for area := range 2 {
			texts := []string{"other", "area"}
			d := areaLaid(logOf(byte(area), texts, texts), area, c.count, c.records)
			checkNoArea(t, what, d, area)
			checkArea(t, what+", beside it", d, 1-area, texts)
			if impl.LogOk(d) {
				t.Errorf("%s in area %d: LogOk", what, area)
			}
			if got := impl.LogTexts(d); len(got) > 0 {
				t.Errorf("%s in area %d: LogTexts tells %d texts", what, area, len(got))
			}
			if got := impl.LogTexts(overlaid(d, 0, string([]byte{byte(1 - area)}))); !slices.Equal(got, texts) {
				t.Errorf("%s in the area that doesn't count: LogTexts tells %q", what, got)
			}
		}
	}
}

// A record that just ends with the area is whole, in either of them.
func TestReadAreaToItsLastByte(t *testing.T) {
	for _, texts := range [][]string{textsOf(3006), append(textsOf(2800, 200), "abc"), filledBy255()} {
		records := allRecords(texts)
		for area := range 2 {
			d := areaLaid(logOf(0, nil, nil), area, byte(len(texts)), records)
			checkArea(t, "to the last byte", d, area, texts)
		}
	}
}

// All that is asked is that the sectors of the area are there.
func TestReadAreaOfOtherDisks(t *testing.T) {
	texts := textsOf(5, 200, 64)
	d := logOf(1, texts, texts)
	for n := range logSectors + 1 {
		x := impl.Disk{Sectors: d.Sectors[:n]}
		if n < 49 {
			checkNoArea(t, "some sectors", x, 0)
		} else {
			checkArea(t, "some sectors", x, 0, texts)
		}
		if n < logSectors {
			checkNoArea(t, "some sectors", x, 1)
		}
		if got := impl.LogTexts(x); n > 0 && n < logSectors && len(got) > 0 {
			t.Errorf("LogTexts of %d sectors tells %d texts", n, len(got))
		}
		for _, area := range wrongAreas {
			checkNoArea(t, "some sectors", x, area)
		}
	}
	x := impl.Disk{Sectors: append(slices.Clone(d.Sectors), full("x"))}
	checkArea(t, "a sector more", x, 0, texts)
	checkArea(t, "a sector more", x, 1, texts)
	y := impl.Disk{Sectors: d.Sectors, Cache: []impl.Put{{At: 50, Text: ("\x03new\x01z" + full("q"))[:64]}, {At: 49, Text: full("\x02")}}}
	checkArea(t, "writes that wait", y, 1, []string{"new", "z"})
	if got := impl.LogTexts(y); !slices.Equal(got, []string{"new", "z"}) {
		t.Errorf("LogTexts with writes that wait: %q", got)
	}
	z := impl.Disk{Sectors: slices.Repeat([]string{"\x01a"}, logSectors)}
	checkArea(t, "sectors of two bytes", z, 0, []string{"a"})
	z.Sectors[1] = "\x2f"
	checkArea(t, "sectors of two bytes", z, 0, slices.Repeat([]string{"a"}, 47))
	z.Sectors[1] = "\x30"
	checkNoArea(t, "sectors of two bytes", z, 0)
	// A record's length has no limit but the area, which is greater here.
	great := pattern(8, 25000)
	long := impl.Disk{Sectors: []string{"\x00", "\x01", "\xa8\xc3\x01" + great}}
	long.Sectors = append(long.Sectors, slices.Repeat([]string{"behind"}, 46)...)
	if got, place, ok := impl.ReadArea(long, 0); !ok || !slices.Equal(got, []string{great}) || place != 25003 {
		t.Errorf("ReadArea of long sectors: %d texts up to %d, %v", len(got), place, ok)
	}
	checkNoArea(t, "empty sectors", impl.Disk{Sectors: append([]string{"", "\x01"}, slices.Repeat([]string{""}, 95)...)}, 0)
	checkArea(t, "empty sectors", impl.Disk{Sectors: slices.Repeat([]string{""}, 97)}, 1, nil)
}

// wrongLogs are disks that are not LogOk, by what is wrong with them.
func wrongLogs() map[string]impl.Disk {
	texts := []string{"one", "two"}
	good := func() impl.Disk { return logOf(2, texts, texts) }
	sector := func(at int, text string) impl.Disk {
		d := good()
		d.Sectors[at] = text
		return d
	}
	waiting := func(at int, text string) impl.Disk {
		d := good()
		d.Cache = []impl.Put{{At: at, Text: text}}
		return d
	}
	out := wrongDisks()
	for what, c := range brokenAreas() {
		out[what+" in area 0"] = areaLaid(good(), 0, c.count, c.records)
		out[what+" in area 1"] = areaLaid(good(), 1, c.count, c.records)
	}
	for _, n := range []int{1, 2, 48, 49, 50, 96, 98, 100} {
		d := diskOf(n)
		for i := range d.Sectors {
			d.Sectors[i] = full("\x00")
		}
		out[fmt.Sprintf("%d sectors", n)] = d
	}
	out["the last sector of a log is not there"] = impl.Disk{Sectors: good().Sectors[:96]}
	out["one sector more behind a log"] = impl.Disk{Sectors: append(good().Sectors, full("x"))}
	out["a log's first sector one byte short"] = sector(0, full("\x00")[1:])
	out["a log's first sector one byte long"] = sector(0, full("\x00")+"x")
	out["a log's last sector one byte short"] = sector(96, full("x")[1:])
	out["a log's last sector one byte long"] = sector(96, full("x")+"x")
	out["a log's sector between is empty"] = sector(30, "")
	out["a write waits that changes nothing"] = waiting(0, good().Sectors[0])
	out["a write waits in the area that counts"] = waiting(2, ("\x03abc\x01z" + full("w"))[:64])
	out["a write waits in the last sector"] = waiting(96, full("w"))
	out["a write waits that can't be one"] = waiting(97, full("w"))
	return out
}

func TestLogOk(t *testing.T) {
	for i, texts := range fillings() {
		for j, others := range fillings() {
			if d := logOf(byte(i+j), texts, others); !impl.LogOk(d) {
				t.Errorf("fillings %d and %d are not LogOk", i, j)
			}
		}
	}
	d := logOf(5, ones(3), ones(4))
	d.Cache = []impl.Put{}
	if !impl.LogOk(d) {
		t.Error("a log with an empty Cache is not LogOk")
	}
	for what, d := range wrongLogs() {
		if impl.LogOk(d) {
			t.Errorf("%s: LogOk", what)
		}
	}
}

func TestLogTextsWithoutALog(t *testing.T) {
	for _, d := range []impl.Disk{{}, diskOf(1), diskOf(48), {Sectors: slices.Repeat([]string{full("\x01")}, 96)}} {
		if got := impl.LogTexts(d); len(got) > 0 {
			t.Errorf("LogTexts of %d sectors tells %d texts", len(d.Sectors), len(got))
		}
	}
}

// checkPut puts a text behind those of an area, and holds all of the disk against the document's words.
func checkPut(t *testing.T, what string, d impl.Disk, area int, texts []string, text string) impl.Disk {
	t.Helper()
	got, ok := impl.PutRecord(d, area, text)
	if !ok || !impl.LogOk(got) {
		t.Fatalf("%s: PutRecord of %d bytes behind %d records of area %d is %v, or not LogOk", what, len(text), len(texts), area, ok)
	}
	checkDisk(t, what+": PutRecord", got, withPut(d, area, texts, text))
	checkArea(t, what, got, area, append(slices.Clone(texts), text))
	return got
}

func TestPutRecord(t *testing.T) {
	for area := range 2 {
		others := []string{"what", "the", "other", "area", "has"}
		for _, text := range []string{"a", "\x00", "\xff", "ab", allBytes(), pattern(1, 62), pattern(1, 63), pattern(1, 64), pattern(1, 127), pattern(1, 128), pattern(1, 129), pattern(1, 1000)} {
			for _, texts := range [][]string{nil, {"one"}, textsOf(58, 1), textsOf(127, 128, 129), ones(200), ones(253), ones(254)} {
				both := [][]string{others, others}
				both[area] = texts
				d := logOf(6, both[0], both[1])
				x := checkPut(t, "PutRecord", d, area, texts, text)
				checkArea(t, "beside PutRecord", x, 1-area, others)
				if impl.ActiveOf(x) != 0 {
					t.Error("PutRecord changes which area counts")
				}
			}
		}
	}
}

// On an area without records every length has room up to 3006, which takes two bytes more.
func TestPutRecordOfEveryLength(t *testing.T) {
	zeros := impl.LogNew()
	dirty := logOf(0, nil, nil)
	for n := 1; n <= 3006; n += 1 + n/40 {
		text := pattern(n, n)
		checkPut(t, "a length", zeros, n%2, nil, text)
		checkPut(t, "a length", dirty, 1-n%2, nil, text)
	}
	for area := range 2 {
		for _, n := range []int{3004, 3005, 3006} {
			checkPut(t, "a length that is nearly too great", dirty, area, nil, pattern(n, n))
		}
		for _, n := range []int{3007, 3008, 3009, 3072, 6100, impl.MaxText, impl.MaxText + 1, 1 << 21} {
			checkNotPut(t, "a length that is too great", dirty, area, strings.Repeat("x", n))
		}
	}
}

// mostOf is the length of the longest text that has room in so many bytes; 0 when none has.
func mostOf(left int) int {
	most := 0
	for n := 1; n <= left; n++ {
		if len(recordBytes(strings.Repeat("x", n))) <= left {
			most = n
		}
	}
	return most
}

// Whatever room is left, the longest text that has room is put, and one that is a byte longer is refused, in both areas.
func TestPutRecordFillsAnArea(t *testing.T) {
	for area := range 2 {
		for left := range 300 {
			both := [][]string{{"zero"}, {"one"}}
			both[area] = textsOf(3006 - left)
			d := logOf(byte(area), both[0], both[1])
			what, most := fmt.Sprintf("%d bytes left", left), mostOf(left)
			if most > 0 {
				x := checkPut(t, what, d, area, both[area], pattern(9, most))
				checkNotPut(t, what+" and filled", x, area, "a")
				checkNotAppended(t, what+" and filled", x, "a")
				checkArea(t, what+", beside it", x, 1-area, both[1-area])
			}
			checkNotPut(t, what, d, area, pattern(9, most+1))
			checkNotAppended(t, what, d, pattern(9, most+1))
		}
	}
}

func TestPutRecordCountsTo255(t *testing.T) {
	for area := range 2 {
		d := logOf(byte(area), []string{"kept"}, []string{"kept"})
		d = overlaid(d, countPlace(area), "\x00")
		texts := []string{}
		for i := range 255 {
			text := string([]byte{byte(i), byte(i * 3)})
			d = checkPut(t, fmt.Sprintf("record %d", i), d, area, texts, text)
			texts = append(texts, text)
		}
		checkNotPut(t, "behind 255 records", d, area, "a")
		checkNotAppended(t, "behind 255 records", d, "a")
		checkArea(t, "behind 255 records", d, 1-area, []string{"kept"})
		if got := impl.LogTexts(d); !slices.Equal(got, texts) {
			t.Errorf("LogTexts tells %d texts", len(got))
		}
	}
}

func TestPutRecordRefuses(t *testing.T) {
	d := logOf(1, []string{"zero"}, []string{"one"})
	for area := range 2 {
		checkNotPut(t, "an empty text", d, area, "")
		checkNotPut(t, "an empty text", impl.LogNew(), area, "")
		checkNotPut(t, "an empty text", logOf(0, ones(255), ones(255)), area, "")
		checkNotPut(t, "an empty text", logOf(0, textsOf(3006), textsOf(3006)), area, "")
	}
	for _, area := range wrongAreas {
		for _, text := range []string{"", "a", full("a")} {
			checkNotPut(t, "no such area", d, area, text)
			checkNotPut(t, "no such area", impl.LogNew(), area, text)
		}
	}
	for what, d := range wrongLogs() {
		for _, text := range []string{"", "a", full("a"), strings.Repeat("a", 3007)} {
			checkNotPut(t, what, d, 0, text)
			checkNotPut(t, what, d, 1, text)
			checkNotPut(t, what, d, -1, text)
			checkNotPut(t, what, d, 2, text)
			checkNotAppended(t, what, d, text)
		}
		checkNotSwitched(t, what, d, nil)
		checkNotSwitched(t, what, d, []string{"a"})
		checkNotSwitched(t, what, d, []string{""})
	}
}

// Appended texts are read behind all that was, until there is no room; the other area stays.
func TestAppendLog(t *testing.T) {
	for first := range 256 {
		if first > 5 && first < 250 {
			continue
		}
		was := []string{"kept", "as it", "was"}
		d := logOf(byte(first), was, was)
		texts := slices.Clone(was)
		for i := range 40 {
			text := pattern(i, 1+(i*i*3)%140)
			area := first & 1
			x, ok := impl.AppendLog(d, text)
			if len(allRecords(texts))+len(recordBytes(text)) > 3008 {
				checkNotAppended(t, "no room", d, text)
				continue
			}
			if !ok || !impl.LogOk(x) {
				t.Fatalf("AppendLog of text %d with the first byte %d is %v, or not LogOk", i, first, ok)
			}
			checkDisk(t, "AppendLog", x, withPut(d, area, texts, text))
			texts = append(texts, text)
			d = x
			if got := impl.LogTexts(d); !slices.Equal(got, texts) {
				t.Fatalf("LogTexts with the first byte %d tells %d texts; want %d", first, len(got), len(texts))
			}
			checkArea(t, "beside AppendLog", d, 1-area, was)
		}
	}
	checkNotAppended(t, "an empty text", impl.LogNew(), "")
}

// checkSwitched switches, and holds all of the disk against the document's words.
func checkSwitched(t *testing.T, what string, d impl.Disk, list []string) impl.Disk {
	t.Helper()
	was := impl.ActiveOf(d)
	texts := impl.LogTexts(d)
	got, ok := impl.SwitchLog(d, list)
	if !ok || !impl.LogOk(got) {
		t.Fatalf("%s: SwitchLog of %d texts is %v, or not LogOk", what, len(list), ok)
	}
	checkDisk(t, what+": SwitchLog", got, withSwitch(d, list))
	if impl.ActiveOf(got) != 1-was || !slices.Equal(impl.LogTexts(got), list) {
		t.Errorf("%s: behind SwitchLog area %d counts, with %d texts", what, impl.ActiveOf(got), len(impl.LogTexts(got)))
	}
	checkArea(t, what, got, 1-was, list)
	checkArea(t, what+": the area that counted", got, was, texts)
	return got
}

func TestSwitchLog(t *testing.T) {
	list := fillings()
	for i, texts := range list {
		for first := range 2 {
			what := fmt.Sprintf("filling %d", i)
			d := logOf(byte(first), []string{"zero", "more"}, []string{"one", "other"})
			checkSwitched(t, what, d, texts)
			checkSwitched(t, what, logOf(byte(first), list[len(list)-1-i], list[(i+9)%len(list)]), texts)
			checkSwitched(t, what, impl.LogNew(), texts)
		}
	}
}

func TestSwitchLogOfEveryFirstByte(t *testing.T) {
	for first := range 256 {
		d := logOf(byte(first), []string{"zero"}, []string{"one"})
		x := checkSwitched(t, fmt.Sprintf("first byte %d", first), d, []string{"new", "texts"})
		if got := x.Sectors[0]; int(got[0]) != (first+1)%256 || got[1:] != d.Sectors[0][1:] {
			t.Errorf("the first sector behind a switch from %d is %q", first, got)
		}
	}
}

// To and fro, with what is appended between: 600 switches pass the first byte's end twice.
func TestSwitchLogToAndFro(t *testing.T) {
	d := impl.LogNew()
	for i := range 600 {
		list := textsOf(1+i%7, 1+(i*11)%130, 1+i%64)[:i%4]
		d = checkSwitched(t, fmt.Sprintf("switch %d", i), d, list)
		if i%3 == 0 {
			x, ok := impl.AppendLog(d, "more")
			if !ok || !slices.Equal(impl.LogTexts(x), append(slices.Clone(list), "more")) {
				t.Fatalf("what is appended behind switch %d is not read", i)
			}
			d = x
		}
	}
	if d.Sectors[0][0] != 600%256 {
		t.Errorf("the first byte is %d", d.Sectors[0][0])
	}
}

// A full area is left by a switch, and the other one takes what it had no room for.
func TestSwitchLogFromAFullArea(t *testing.T) {
	for first := range 2 {
		for _, texts := range [][]string{ones(255), textsOf(3006), filledBy255()} {
			d := logOf(byte(first), texts, texts)
			checkNotAppended(t, "a full area", d, "a")
			x := checkSwitched(t, "from a full area", d, []string{"base"})
			y, ok := impl.AppendLog(x, "a")
			if !ok || !slices.Equal(impl.LogTexts(y), []string{"base", "a"}) {
				t.Error("nothing can be appended behind a switch from a full area")
			}
			checkArea(t, "the full area", y, first, texts)
		}
	}
}

func TestSwitchLogRefuses(t *testing.T) {
	for first := range 2 {
		d := logOf(byte(first), []string{"zero", "more"}, []string{"one", "other"})
		for what, list := range map[string][]string{
			"an empty text alone":           {""},
			"an empty text ahead":           {"", "a", "b"},
			"an empty text between":         {"a", "", "b"},
			"an empty text behind":          {"a", "b", ""},
			"256 texts":                     ones(256),
			"1000 texts":                    slices.Repeat([]string{"a"}, 1000),
			"a text too long":               textsOf(3007),
			"a text far too long":           {strings.Repeat("x", impl.MaxText+1)},
			"a last text too long by one":   textsOf(2881, 1, 1, 121),
			"a last text of one byte":       textsOf(3006, 1),
			"two texts too long by one":     textsOf(1502, 1503),
			"a text too long, then a short": textsOf(3007, 1),
			"no room for the 254th":         append(slices.Repeat([]string{"abcdefghijk"}, 250), textsOf(3, 1, 1, 1)...),
		} {
			checkNotSwitched(t, what, d, list)
			checkNotSwitched(t, what, impl.LogNew(), list)
			checkNotSwitched(t, what, logOf(byte(first), textsOf(3006), ones(255)), list)
		}
	}
}

// What a crash may leave of a write that waits is no matter of what the log answers: nothing waits.
func TestLogsAreFlushed(t *testing.T) {
	d := logOf(3, []string{"zero"}, []string{"one"})
	a, _ := impl.PutRecord(d, 0, pattern(1, 300))
	b, _ := impl.AppendLog(d, pattern(1, 300))
	c, _ := impl.SwitchLog(d, textsOf(300, 200))
	for _, x := range []impl.Disk{a, b, c} {
		if len(x.Cache) > 0 {
			t.Error("something waits behind a change of a log")
		}
		checkDisk(t, "a crash behind a change of a log", impl.CrashDisk(x, []int{1, 1, 1}, 0), x)
	}
}

// logAnswers are what the chapter answers of d, in every way.
func logAnswers(d impl.Disk, text string, list []string) []impl.Disk {
	var answers []impl.Disk
	for _, area := range []int{0, 1, 2} {
		x, _ := impl.PutRecord(d, area, text)
		y, _ := impl.PutRecord(d, area, "")
		answers = append(answers, x, y)
	}
	x, _ := impl.AppendLog(d, text)
	y, _ := impl.AppendLog(d, "")
	z, _ := impl.SwitchLog(d, list)
	n, _ := impl.SwitchLog(d, nil)
	r, _ := impl.SwitchLog(d, append(slices.Clone(list), ""))
	return append(answers, x, y, z, n, r)
}

// sharesAny tells whether a text lies in the memory of one of others.
func sharesAny(text string, others []string) bool {
	return slices.ContainsFunc(others, func(other string) bool { return sharesMemory(text, other) })
}

func TestLogsAnswerNewMemory(t *testing.T) {
	logs := []impl.Disk{impl.LogNew(), logOf(0, []string{"zero"}, []string{"one"}), logOf(1, textsOf(3006), ones(255)), logOf(0, ones(255), nil)}
	for _, d := range wrongLogs() {
		logs = append(logs, d)
	}
	for _, plain := range logs {
		d, text := roomy(plain), strings.Repeat("t", 200)
		list := append(textsOf(64, 100), "mark", "mark")[:2]
		was, wasList := withSpare(d), slices.Clone(list[:cap(list)])
		texts := append(diskTexts(d), text, list[0], list[1])
		for _, answer := range logAnswers(d, text, list) {
			for _, part := range diskTexts(answer) {
				if sharesAny(part, texts) {
					t.Fatal("a text of an answer lies in an argument's memory")
				}
			}
			// Whatever is done to an answer is not to be seen in the argument.
			for i := range answer.Sectors {
				answer.Sectors[i] = "other"
			}
			for i := range answer.Cache {
				answer.Cache[i] = impl.Put{At: 7, Text: "other"}
			}
			_ = append(answer.Sectors, "other")
			_ = append(answer.Cache, impl.Put{At: 7, Text: "other"})
		}
		for area := range 2 {
			read, _, _ := impl.ReadArea(d, area)
			for _, part := range append(read, impl.LogTexts(d)...) {
				if sharesAny(part, texts) {
					t.Fatal("ReadArea or LogTexts answers memory of its argument")
				}
			}
			impl.CountIn(d, area)
		}
		impl.LogOk(d)
		impl.ActiveOf(d)
		if !sameDisk(withSpare(d), was) {
			t.Errorf("something is written into a disk of %d sectors and %d writes, or behind it", len(d.Sectors), len(d.Cache))
		}
		if !slices.Equal(list[:cap(list)], wasList) {
			t.Error("something is written into a list of texts, or behind it")
		}
	}
}

// The texts of one answer lie in memory of their own, too.
func TestReadAreaTextsApart(t *testing.T) {
	d := logOf(0, textsOf(60, 61, 62), nil)
	a, _, _ := impl.ReadArea(d, 0)
	b := impl.LogTexts(d)
	if len(a) != 3 || len(b) != 3 {
		t.Fatal("not all texts are read")
	}
	a[0] = "other"
	_ = append(a[:1], "other")
	if !slices.Equal(b, textsOf(60, 61, 62)) || !slices.Equal(impl.LogTexts(d), textsOf(60, 61, 62)) {
		t.Error("what is done to one answer is seen in another")
	}
}
