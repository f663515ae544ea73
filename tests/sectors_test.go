package tests

import (
	"fmt"
	"math"
	"slices"
	"strings"
	"testing"

	"loop.example/g00327/impl"
)

// full is a sector's text of one letter.
func full(letter string) string {
	return strings.Repeat(letter, impl.SectorSize)
}

// pattern is n bytes of which none is like its neighbour, nor like that of another seed at its place.
func pattern(seed, n int) string {
	b := make([]byte, n)
	for i := range b {
		b[i] = byte(seed*37 + i*5 + i/64 + 1)
	}
	return string(b)
}

// diskOf is a disk of n sectors, all unlike, with these writes in its Cache.
func diskOf(n int, cache ...impl.Put) impl.Disk {
	d := impl.Disk{Cache: slices.Clone(cache)}
	for i := range n {
		d.Sectors = append(d.Sectors, pattern(i, impl.SectorSize))
	}
	return d
}

// manyWrites are n writes that go round the sectors.
func manyWrites(n, sectors int) []impl.Put {
	var list []impl.Put
	for i := range n {
		list = append(list, impl.Put{At: i % sectors, Text: pattern(100+i, impl.SectorSize)})
	}
	return list
}

func sameDisk(a, b impl.Disk) bool {
	return slices.Equal(a.Sectors, b.Sectors) && slices.Equal(a.Cache, b.Cache)
}

func checkDisk(t *testing.T, what string, got, want impl.Disk) {
	t.Helper()
	if !sameDisk(got, want) {
		t.Errorf("%s: %s", what, unlike(got, want))
	}
}

// unlike tells where two disks are first unlike.
func unlike(got, want impl.Disk) string {
	if len(got.Sectors) != len(want.Sectors) || len(got.Cache) != len(want.Cache) {
		return fmt.Sprintf("%d sectors and %d writes; want %d and %d", len(got.Sectors), len(got.Cache), len(want.Sectors), len(want.Cache))
	}
	for i, text := range want.Sectors {
		if got.Sectors[i] != text {
			return fmt.Sprintf("sector %d is %q; want %q", i, got.Sectors[i], text)
		}
	}
	for i, w := range want.Cache {
		if got.Cache[i] != w {
			return fmt.Sprintf("write %d is %q at %d; want %q at %d", i, got.Cache[i].Text, got.Cache[i].At, w.Text, w.At)
		}
	}
	return "alike"
}

// wrongDisks are those that are not right, by what is wrong with them.
func wrongDisks() map[string]impl.Disk {
	broken := func(at int, text string) impl.Disk {
		d := diskOf(3, impl.Put{At: 1, Text: full("w")})
		d.Sectors[at] = text
		return d
	}
	return map[string]impl.Disk{
		"nothing":                         {},
		"no sectors but a write":          {Cache: []impl.Put{{At: 0, Text: full("w")}}},
		"MaxSectors and one more":         diskOf(impl.MaxSectors + 1),
		"many sectors":                    diskOf(3 * impl.MaxSectors),
		"a first sector one byte short":   broken(0, full("x")[1:]),
		"a first sector one byte long":    broken(0, full("x")+"x"),
		"a last sector one byte short":    broken(2, full("x")[1:]),
		"a last sector one byte long":     broken(2, full("x")+"x"),
		"an empty sector":                 broken(1, ""),
		"a write one byte short":          diskOf(3, impl.Put{At: 1, Text: full("w")[1:]}),
		"a write one byte long":           diskOf(3, impl.Put{At: 1, Text: full("w") + "w"}),
		"an empty write":                  diskOf(3, impl.Put{At: 1}),
		"a write below the first sector":  diskOf(3, impl.Put{At: -1, Text: full("w")}),
		"a write past the last sector":    diskOf(3, impl.Put{At: 3, Text: full("w")}),
		"a write far below":               diskOf(3, impl.Put{At: math.MinInt, Text: full("w")}),
		"a write far past":                diskOf(3, impl.Put{At: math.MaxInt, Text: full("w")}),
		"a wrong write ahead of right":    diskOf(3, impl.Put{At: 3, Text: full("w")}, impl.Put{At: 0, Text: full("v")}),
		"a wrong write behind right ones": diskOf(3, impl.Put{At: 0, Text: full("v")}, impl.Put{At: 2, Text: "w"}),
		"MaxCache and one more":           diskOf(3, manyWrites(impl.MaxCache+1, 3)...),
		"many writes":                     diskOf(3, manyWrites(3*impl.MaxCache, 3)...),
	}
}

// rightDisks are ordinary ones, and those at the limits.
func rightDisks() []impl.Disk {
	return []impl.Disk{
		diskOf(1), diskOf(2), diskOf(3), diskOf(impl.MaxSectors - 1), diskOf(impl.MaxSectors),
		diskOf(1, impl.Put{At: 0, Text: full("w")}),
		diskOf(1, manyWrites(impl.MaxCache, 1)...),
		diskOf(3, impl.Put{At: 2, Text: full("\x00")}, impl.Put{At: 0, Text: full("\xff")}, impl.Put{At: 2, Text: full("u")}),
		diskOf(impl.MaxSectors, impl.Put{At: impl.MaxSectors - 1, Text: full("w")}),
		diskOf(impl.MaxSectors, manyWrites(impl.MaxCache-1, impl.MaxSectors)...),
		diskOf(impl.MaxSectors, manyWrites(impl.MaxCache, impl.MaxSectors)...),
	}
}

func TestSectorLimits(t *testing.T) {
	if impl.SectorSize != 64 || impl.MaxSectors != 100 || impl.MaxCache != 60 {
		t.Error("a limit is not what the document says")
	}
}

func TestDiskNew(t *testing.T) {
	for _, n := range []int{1, 2, 7, 97, impl.MaxSectors - 1, impl.MaxSectors} {
		d, ok := impl.DiskNew(n)
		if !ok || !impl.DiskOk(d) {
			t.Errorf("DiskNew(%d) is refused, or not right", n)
		}
		checkDisk(t, "DiskNew", d, impl.Disk{Sectors: slices.Repeat([]string{full("\x00")}, n)})
	}
	for _, n := range []int{0, -1, -100, impl.MaxSectors + 1, 1000, math.MinInt, math.MaxInt} {
		d, ok := impl.DiskNew(n)
		if ok {
			t.Errorf("DiskNew(%d) is accepted", n)
		}
		checkDisk(t, "DiskNew that is refused", d, impl.Disk{})
	}
}

func TestDiskOk(t *testing.T) {
	for _, d := range rightDisks() {
		if !impl.DiskOk(d) {
			t.Errorf("a disk of %d sectors and %d writes is not right", len(d.Sectors), len(d.Cache))
		}
		d.Cache = []impl.Put{}
		if !impl.DiskOk(d) {
			t.Errorf("a disk of %d sectors and an empty Cache is not right", len(d.Sectors))
		}
	}
	for what, d := range wrongDisks() {
		if impl.DiskOk(d) {
			t.Errorf("%s: right", what)
		}
	}
}

func TestReadSector(t *testing.T) {
	d := diskOf(4, impl.Put{At: 1, Text: full("a")}, impl.Put{At: 3, Text: full("b")}, impl.Put{At: 1, Text: full("c")}, impl.Put{At: 3, Text: full("d")}, impl.Put{At: 1, Text: full("e")})
	for at, want := range []string{d.Sectors[0], full("e"), d.Sectors[2], full("d")} {
		if got, ok := impl.ReadSector(d, at); !ok || got != want {
			t.Errorf("ReadSector(%d) = %q, %v; want %q", at, got, ok, want)
		}
	}
	for _, d := range rightDisks() {
		for at, sector := range d.Sectors {
			want := sector
			for _, w := range d.Cache {
				if w.At == at {
					want = w.Text
				}
			}
			if got, ok := impl.ReadSector(d, at); !ok || got != want {
				t.Errorf("ReadSector(%d) of %d sectors = %q, %v; want %q", at, len(d.Sectors), got, ok, want)
			}
		}
	}
}

func TestReadSectorWithoutOne(t *testing.T) {
	places := []int{-1, -64, math.MinInt, 3, 4, 64, impl.MaxSectors, math.MaxInt}
	for _, at := range places {
		// A write At no sector does not make one.
		for _, d := range []impl.Disk{diskOf(3), diskOf(3, impl.Put{At: at, Text: full("w")}), diskOf(3, manyWrites(impl.MaxCache, 3)...)} {
			if got, ok := impl.ReadSector(d, at); ok || got != "" {
				t.Errorf("ReadSector(%d) of 3 sectors = %q, %v", at, got, ok)
			}
		}
		if got, ok := impl.ReadSector(impl.Disk{Cache: []impl.Put{{At: at, Text: full("w")}}}, at); ok || got != "" {
			t.Errorf("ReadSector(%d) of no sectors = %q, %v", at, got, ok)
		}
	}
	if got, ok := impl.ReadSector(impl.Disk{}, 0); ok || got != "" {
		t.Errorf("ReadSector(0) of no sectors = %q, %v", got, ok)
	}
}

// Nobody asks for a right disk here: what stands there is told, however long it is.
func TestReadSectorOfAWrongDisk(t *testing.T) {
	d := diskOf(impl.MaxSectors+5, impl.Put{At: 1, Text: "short"}, impl.Put{At: -1, Text: "no"}, impl.Put{At: 4, Text: full("w") + "w"}, impl.Put{At: 2, Text: ""})
	d.Sectors[0] = "ab"
	d.Sectors[3] = ""
	for at, want := range map[int]string{0: "ab", 1: "short", 2: "", 3: "", 4: full("w") + "w", impl.MaxSectors + 4: d.Sectors[impl.MaxSectors+4]} {
		if got, ok := impl.ReadSector(d, at); !ok || got != want {
			t.Errorf("ReadSector(%d) = %q, %v; want %q", at, got, ok, want)
		}
	}
}

func TestWriteSector(t *testing.T) {
	d := diskOf(3)
	want := diskOf(3)
	for i := range impl.MaxCache {
		at, text := (i*2)%3, pattern(i, impl.SectorSize)
		next, ok := impl.WriteSector(d, at, text)
		if !ok || !impl.DiskOk(next) {
			t.Fatalf("write %d is refused, or leaves a disk that is not right", i)
		}
		want.Cache = append(want.Cache, impl.Put{At: at, Text: text})
		checkDisk(t, "WriteSector", next, want)
		if got, _ := impl.ReadSector(next, at); got != text {
			t.Errorf("write %d is not read", i)
		}
		d = next
	}
	full61, ok := impl.WriteSector(d, 0, full("z"))
	if ok {
		t.Error("a write is accepted behind MaxCache of them")
	}
	checkDisk(t, "WriteSector with a full Cache", full61, want)
	for _, n := range []int{1, impl.MaxSectors} {
		next, ok := impl.WriteSector(diskOf(n), n-1, full("z"))
		if !ok {
			t.Errorf("a write to the last of %d sectors is refused", n)
		}
		checkDisk(t, "WriteSector to the last sector", next, diskOf(n, impl.Put{At: n - 1, Text: full("z")}))
	}
}

func TestWriteSectorRefuses(t *testing.T) {
	for _, d := range rightDisks() {
		for _, at := range []int{-1, len(d.Sectors), len(d.Sectors) + 1, math.MinInt, math.MaxInt} {
			checkNotWritten(t, d, at, full("z"))
		}
		for _, text := range []string{"", "z", full("z")[1:], full("z") + "z", full("z") + full("z")} {
			checkNotWritten(t, d, 0, text)
		}
	}
	for _, d := range wrongDisks() {
		checkNotWritten(t, d, 0, full("z"))
		checkNotWritten(t, d, 1, full("z"))
		checkNotWritten(t, d, -1, "")
	}
}

func checkNotWritten(t *testing.T, d impl.Disk, at int, text string) {
	t.Helper()
	got, ok := impl.WriteSector(d, at, text)
	if ok {
		t.Errorf("WriteSector at %d of %d bytes is accepted", at, len(text))
	}
	checkDisk(t, "WriteSector that is refused", got, d)
}

// leftOf follows the document's words for CrashDisk, byte by byte.
func leftOf(d impl.Disk, keep []int, tear int) impl.Disk {
	last := -1
	for i := range d.Cache {
		if i < len(keep) && (keep[i]&1) == 1 {
			last = i
		}
	}
	for tear < 0 || tear > impl.SectorSize {
		if tear < 0 {
			tear += impl.SectorSize + 1
		} else {
			tear -= impl.SectorSize + 1
		}
	}
	left := impl.Disk{Sectors: slices.Clone(d.Sectors)}
	for i, w := range d.Cache {
		if i < len(keep) && (keep[i]&1) == 1 {
			n := impl.SectorSize
			if i == last {
				n = tear
			}
			left.Sectors[w.At] = w.Text[:n] + left.Sectors[w.At][n:]
		}
	}
	return left
}

func TestFlushDisk(t *testing.T) {
	d := diskOf(3, impl.Put{At: 1, Text: full("a")}, impl.Put{At: 2, Text: full("b")}, impl.Put{At: 1, Text: full("c")})
	checkDisk(t, "FlushDisk", impl.FlushDisk(d), impl.Disk{Sectors: []string{d.Sectors[0], full("c"), full("b")}})
	for _, d := range rightDisks() {
		flushed := impl.FlushDisk(d)
		want := impl.Disk{}
		for at := range d.Sectors {
			text, _ := impl.ReadSector(d, at)
			want.Sectors = append(want.Sectors, text)
		}
		checkDisk(t, "FlushDisk", flushed, want)
		checkDisk(t, "FlushDisk twice", impl.FlushDisk(flushed), want)
		if !impl.DiskOk(flushed) {
			t.Errorf("FlushDisk of %d sectors and %d writes is not right", len(d.Sectors), len(d.Cache))
		}
	}
	for what, d := range wrongDisks() {
		checkDisk(t, "FlushDisk of "+what, impl.FlushDisk(d), d)
	}
}

func TestWhatIsFlushedStays(t *testing.T) {
	for _, d := range rightDisks() {
		flushed := impl.FlushDisk(d)
		for _, keep := range [][]int{nil, {1}, {1, 1, 1}, slices.Repeat([]int{1}, impl.MaxCache)} {
			for _, tear := range []int{0, 1, 63, 64, 65} {
				checkDisk(t, "CrashDisk behind FlushDisk", impl.CrashDisk(flushed, keep, tear), flushed)
			}
		}
		// A write that is lost leaves all the others as they were flushed.
		more, ok := impl.WriteSector(flushed, 0, full("z"))
		if !ok {
			t.Fatal("a write behind a flush is refused")
		}
		checkDisk(t, "a write that is lost behind FlushDisk", impl.CrashDisk(more, []int{2}, 64), flushed)
		left := impl.CrashDisk(more, []int{1}, 64)
		if left.Sectors[0] != full("z") || !slices.Equal(left.Sectors[1:], flushed.Sectors[1:]) {
			t.Error("a write to the first sector changes another one")
		}
	}
}

// Every choice of five writes to two sectors, torn at every place.
func TestCrashDiskKeepsWhatWasChosen(t *testing.T) {
	d := diskOf(3, impl.Put{At: 0, Text: full("a")}, impl.Put{At: 2, Text: full("b")}, impl.Put{At: 0, Text: full("c")}, impl.Put{At: 0, Text: full("c")}, impl.Put{At: 2, Text: full("e")})
	for choice := range 32 {
		keep := []int{choice % 2, choice / 2 % 2, choice / 4 % 2, choice / 8 % 2, choice / 16}
		for tear := range impl.SectorSize + 1 {
			got := impl.CrashDisk(d, keep, tear)
			checkDisk(t, "CrashDisk", got, leftOf(d, keep, tear))
			if !impl.DiskOk(got) {
				t.Errorf("CrashDisk with %v and %d is not right", keep, tear)
			}
		}
	}
}

func TestCrashDiskTearsTheLastOneKept(t *testing.T) {
	d := diskOf(2, impl.Put{At: 0, Text: full("a")}, impl.Put{At: 1, Text: full("b")}, impl.Put{At: 0, Text: full("c")})
	s, u := d.Sectors[0], d.Sectors[1]
	for _, c := range []struct {
		keep        []int
		tear        int
		first, last string
	}{
		{nil, 64, s, u}, {[]int{0, 0, 0}, 64, s, u}, {[]int{2, 4, -2}, 64, s, u},
		{[]int{1}, 64, full("a"), u}, {[]int{1}, 0, s, u}, {[]int{1}, 1, "a" + s[1:], u}, {[]int{1}, 63, full("a")[:63] + s[63:], u},
		{[]int{1, 1}, 10, full("a"), full("b")[:10] + u[10:]}, {[]int{0, 1}, 10, s, full("b")[:10] + u[10:]},
		{[]int{1, 0, 1}, 10, full("c")[:10] + full("a")[10:], u}, {[]int{0, 0, 1}, 10, full("c")[:10] + s[10:], u},
		{[]int{1, 1, 1}, 0, full("a"), full("b")}, {[]int{1, 1, 1}, 64, full("c"), full("b")},
		{[]int{1, 1, 1}, 20, full("c")[:20] + full("a")[20:], full("b")}, {[]int{1, 1, 0, 1, 1}, 64, full("a"), full("b")},
		{[]int{1, 1, 0, 1, 1}, 20, full("a"), full("b")[:20] + u[20:]}, {[]int{0, 0, 0, 1}, 64, s, u},
	} {
		got := impl.CrashDisk(d, c.keep, c.tear)
		checkDisk(t, "CrashDisk", got, impl.Disk{Sectors: []string{c.first, c.last}})
	}
}

func TestCrashDiskOddAndEven(t *testing.T) {
	d := diskOf(1, impl.Put{At: 0, Text: full("a")})
	for _, keep := range []int{1, 3, 65, -1, -3, -65, math.MaxInt, math.MinInt + 1} {
		checkDisk(t, "CrashDisk with an odd one", impl.CrashDisk(d, []int{keep}, 64), impl.Disk{Sectors: []string{full("a")}})
	}
	for _, keep := range []int{0, 2, 64, -2, -64, math.MaxInt - 1, math.MinInt} {
		checkDisk(t, "CrashDisk with an even one", impl.CrashDisk(d, []int{keep}, 64), impl.Disk{Sectors: d.Sectors})
	}
}

func TestCrashDiskTearIsBrought(t *testing.T) {
	d := diskOf(2, impl.Put{At: 1, Text: full("a")})
	for _, c := range []struct{ tear, want int }{
		{0, 0}, {1, 1}, {2, 2}, {32, 32}, {63, 63}, {64, 64}, {65, 0}, {66, 1}, {129, 64}, {130, 0}, {131, 1}, {6500, 0}, {6564, 64},
		{-1, 64}, {-2, 63}, {-64, 1}, {-65, 0}, {-66, 64}, {-130, 0}, {-131, 64},
		{math.MaxInt, 7}, {math.MaxInt - 7, 0}, {math.MaxInt - 8, 64}, {math.MinInt, 57}, {math.MinInt + 7, 64}, {math.MinInt + 8, 0},
	} {
		got := impl.CrashDisk(d, []int{1}, c.tear)
		checkDisk(t, "CrashDisk", got, impl.Disk{Sectors: []string{d.Sectors[0], full("a")[:c.want] + d.Sectors[1][c.want:]}})
	}
}

func TestCrashDiskAtItsLimits(t *testing.T) {
	for _, d := range rightDisks() {
		n := len(d.Cache)
		keeps := [][]int{nil, {}, {1}, {0, 1}, slices.Repeat([]int{1}, n), slices.Repeat([]int{-1}, n+1), slices.Repeat([]int{1}, 3*impl.MaxCache), slices.Repeat([]int{2}, impl.MaxCache)}
		if n > 0 {
			none, first, last := make([]int, n), make([]int, n), make([]int, n)
			first[0], last[n-1] = 1, -7
			keeps = append(keeps, none, first, last, slices.Repeat([]int{1}, n-1), append(make([]int, n), 1))
		}
		mixed := make([]int, impl.MaxCache+3)
		for i := range mixed {
			mixed[i] = i*i - 40*i + i/3
		}
		for _, keep := range append(keeps, mixed) {
			for _, tear := range []int{0, 1, 31, 63, 64, 65, -1, -65, -66, 1000} {
				checkDisk(t, "CrashDisk", impl.CrashDisk(d, keep, tear), leftOf(d, keep, tear))
			}
		}
		checkDisk(t, "CrashDisk that keeps all of all", impl.CrashDisk(d, slices.Repeat([]int{1}, n), 64), impl.FlushDisk(d))
	}
	for what, d := range wrongDisks() {
		for _, keep := range [][]int{nil, {1}, {0, 0, 1}, slices.Repeat([]int{1}, 3*impl.MaxCache)} {
			checkDisk(t, "CrashDisk of "+what, impl.CrashDisk(d, keep, 64), d)
			checkDisk(t, "CrashDisk of "+what, impl.CrashDisk(d, keep, 0), d)
		}
	}
}

func TestSectorText(t *testing.T) {
	for _, d := range rightDisks() {
		var seen []string
		for at := range d.Sectors {
			text, _ := impl.ReadSector(d, at)
			seen = append(seen, text)
		}
		for from := range seen {
			for n := range len(seen) - from + 1 {
				if got, ok := impl.SectorText(d, from, n); !ok || got != strings.Join(seen[from:from+n], "") {
					t.Fatalf("SectorText(%d, %d) of %d sectors is %v, or another text", from, n, len(seen), ok)
				}
			}
			checkNoSectorText(t, d, from, len(seen)-from+1)
		}
	}
	// Of no sectors none is missing, wherever they would begin.
	for _, from := range []int{-1, 0, 2, 3, 1000, math.MinInt, math.MaxInt} {
		for _, d := range []impl.Disk{{}, diskOf(3)} {
			if got, ok := impl.SectorText(d, from, 0); !ok || got != "" {
				t.Errorf("SectorText(%d, 0) = %q, %v", from, got, ok)
			}
		}
	}
}

func checkNoSectorText(t *testing.T, d impl.Disk, from, n int) {
	t.Helper()
	if got, ok := impl.SectorText(d, from, n); ok || got != "" {
		t.Errorf("SectorText(%d, %d) of %d sectors: %d bytes, %v", from, n, len(d.Sectors), len(got), ok)
	}
}

func TestSectorTextRefuses(t *testing.T) {
	d := diskOf(3, impl.Put{At: 3, Text: full("w")}, impl.Put{At: -1, Text: full("w")})
	for _, from := range []int{-1, -3, 3, 4, math.MinInt, math.MaxInt} {
		for _, n := range []int{1, 2, 5, impl.MaxSectors} {
			checkNoSectorText(t, d, from, n)
		}
	}
	for _, d := range []impl.Disk{{}, diskOf(3), diskOf(impl.MaxSectors), diskOf(3 * impl.MaxSectors)} {
		for _, n := range []int{-1, -100, math.MinInt, impl.MaxSectors + 1, impl.MaxSectors + 50, math.MaxInt} {
			checkNoSectorText(t, d, 0, n)
			checkNoSectorText(t, d, 1, n)
			checkNoSectorText(t, d, -1, n)
		}
	}
	checkNoSectorText(t, impl.Disk{}, 0, 1)
}

// As ReadSector, it tells of a disk that is not right what stands there.
func TestSectorTextOfAWrongDisk(t *testing.T) {
	d := diskOf(impl.MaxSectors+5, impl.Put{At: 1, Text: "short"})
	d.Sectors[0], d.Sectors[2] = "ab", ""
	if got, ok := impl.SectorText(d, 0, 3); !ok || got != "abshort" {
		t.Errorf("SectorText = %q, %v", got, ok)
	}
	if got, ok := impl.SectorText(d, 5, impl.MaxSectors); !ok || got != strings.Join(d.Sectors[5:], "") {
		t.Errorf("SectorText of MaxSectors of them: %d bytes, %v", len(got), ok)
	}
}

// writtenBytes follows the document's words for WriteBytes, a sector at a time, where all of it has room.
func writtenBytes(d impl.Disk, sector, at int, text string) impl.Disk {
	var all []byte
	for i := range d.Sectors {
		s, _ := impl.ReadSector(d, i)
		all = append(all, s...)
	}
	from := sector*impl.SectorSize + at
	copy(all[from:], text)
	want := impl.Disk{Sectors: d.Sectors, Cache: slices.Clone(d.Cache)}
	for i := range d.Sectors {
		begin := i * impl.SectorSize
		if begin < from+len(text) && begin+impl.SectorSize > from {
			want.Cache = append(want.Cache, impl.Put{At: i, Text: string(all[begin : begin+impl.SectorSize])})
		}
	}
	return want
}

// Every place and length on four sectors, two of which have writes that wait.
func TestWriteBytes(t *testing.T) {
	d := diskOf(4, impl.Put{At: 1, Text: full("a")}, impl.Put{At: 3, Text: full("b")}, impl.Put{At: 1, Text: full("c")})
	size := 4 * impl.SectorSize
	text := pattern(200, size)
	for sector := range 4 {
		for at := range size + 1 {
			room := size - sector*impl.SectorSize - at
			for n := 1; n <= room; n += 1 + n/9 {
				checkBytesWritten(t, d, sector, at, text[:n])
			}
			if room > 0 {
				checkBytesWritten(t, d, sector, at, text[:room])
			}
			checkBytesNotWritten(t, d, sector, at, text[:max(room, 0)]+"z")
		}
	}
}

func checkBytesWritten(t *testing.T, d impl.Disk, sector, at int, text string) {
	t.Helper()
	got, ok := impl.WriteBytes(d, sector, at, text)
	if !ok || !impl.DiskOk(got) {
		t.Fatalf("WriteBytes of %d bytes at %d from sector %d is %v, or not right", len(text), at, sector, ok)
	}
	if want := writtenBytes(d, sector, at, text); !sameDisk(got, want) {
		t.Fatalf("WriteBytes of %d bytes at %d from sector %d: %s", len(text), at, sector, unlike(got, want))
	}
}

func checkBytesNotWritten(t *testing.T, d impl.Disk, sector, at int, text string) {
	t.Helper()
	got, ok := impl.WriteBytes(d, sector, at, text)
	if ok {
		t.Errorf("WriteBytes of %d bytes at %d from sector %d is accepted", len(text), at, sector)
	}
	checkDisk(t, "WriteBytes that is refused", got, d)
}

func TestWriteBytesTouchesWhatItMust(t *testing.T) {
	d := diskOf(5)
	for _, c := range []struct {
		sector, at, n int
		touched       []int
	}{
		{0, 0, 64, []int{0}}, {0, 0, 65, []int{0, 1}}, {0, 63, 1, []int{0}}, {0, 63, 2, []int{0, 1}}, {0, 64, 1, []int{1}},
		{0, 64, 64, []int{1}}, {0, 60, 68, []int{0, 1}}, {0, 60, 69, []int{0, 1, 2}}, {1, 0, 1, []int{1}}, {1, 128, 1, []int{3}},
		{0, 0, 320, []int{0, 1, 2, 3, 4}}, {0, 1, 318, []int{0, 1, 2, 3, 4}}, {2, 130, 62, []int{4}}, {4, 0, 64, []int{4}},
		{0, 256, 64, []int{4}}, {3, 64, 64, []int{4}}, {0, 319, 1, []int{4}},
	} {
		got, ok := impl.WriteBytes(d, c.sector, c.at, strings.Repeat("x", c.n))
		var touched []int
		for _, w := range got.Cache {
			touched = append(touched, w.At)
		}
		if !ok || !slices.Equal(touched, c.touched) {
			t.Errorf("WriteBytes of %d bytes at %d from sector %d touches %v, %v; want %v", c.n, c.at, c.sector, touched, ok, c.touched)
		}
		checkDisk(t, "WriteBytes", got, writtenBytes(d, c.sector, c.at, strings.Repeat("x", c.n)))
	}
	// A sector is written also when it has those bytes already.
	same, ok := impl.WriteBytes(d, 1, 10, d.Sectors[1][10:20])
	if !ok {
		t.Error("WriteBytes of what is there is refused")
	}
	checkDisk(t, "WriteBytes of what is there", same, diskOf(5, impl.Put{At: 1, Text: d.Sectors[1]}))
}

func TestWriteBytesOfNoText(t *testing.T) {
	for _, d := range rightDisks() {
		for _, sector := range []int{0, len(d.Sectors) - 1} {
			for _, at := range []int{0, 1, 63, 64, 65, impl.SectorSize*impl.MaxSectors - 1, impl.SectorSize * impl.MaxSectors} {
				got, ok := impl.WriteBytes(d, sector, at, "")
				if !ok {
					t.Errorf("WriteBytes of no text at %d from sector %d of %d is refused", at, sector, len(d.Sectors))
				}
				checkDisk(t, "WriteBytes of no text", got, d)
			}
		}
	}
	// No write is refused where there is none, so nobody asks for a right disk.
	for what, d := range wrongDisks() {
		got, ok := impl.WriteBytes(d, 0, 0, "")
		if ok != (len(d.Sectors) > 0) {
			t.Errorf("WriteBytes of no text on %s: %v", what, ok)
		}
		checkDisk(t, "WriteBytes of no text on "+what, got, d)
	}
}

func TestWriteBytesAtTheLimits(t *testing.T) {
	whole := pattern(9, impl.SectorSize*impl.MaxSectors)
	most := diskOf(impl.MaxSectors)
	for _, c := range []struct{ sector, at, n int }{
		{0, 0, 64 * impl.MaxCache}, {40, 0, 64 * impl.MaxCache}, {0, 64 * 40, 64 * impl.MaxCache}, {0, 1, 64*impl.MaxCache - 1},
		{0, 6399, 1}, {99, 63, 1}, {99, 0, 64}, {0, 6336, 64}, {0, 63, 64*(impl.MaxCache-1) + 1},
	} {
		checkBytesWritten(t, most, c.sector, c.at, whole[:c.n])
	}
	for _, c := range []struct{ sector, at, n int }{
		{0, 0, 64*impl.MaxCache + 1}, {0, 1, 64 * impl.MaxCache}, {40, 0, 64*impl.MaxCache + 1}, {0, 0, len(whole)},
		{0, 63, 64*(impl.MaxCache-1) + 2}, {0, 6400, 1}, {0, 6399, 2}, {99, 63, 2}, {99, 64, 1}, {99, 0, 65}, {1, 6336, 1}, {99, 6400, 1},
	} {
		checkBytesNotWritten(t, most, c.sector, c.at, whole[:c.n])
	}
	one := diskOf(1, manyWrites(impl.MaxCache-1, 1)...)
	checkBytesWritten(t, one, 0, 5, "abc")
	two := diskOf(2, manyWrites(impl.MaxCache-1, 2)...)
	checkBytesWritten(t, two, 0, 0, whole[:64])
	checkBytesNotWritten(t, two, 0, 0, whole[:65])
	checkBytesNotWritten(t, diskOf(2, manyWrites(impl.MaxCache, 2)...), 1, 3, "a")
}

func TestWriteBytesRefuses(t *testing.T) {
	for _, d := range rightDisks() {
		for _, text := range []string{"", "a", full("a"), strings.Repeat("a", impl.MaxText)} {
			for _, at := range []int{-1, -64, math.MinInt, impl.SectorSize*impl.MaxSectors + 1, 10000, math.MaxInt} {
				checkBytesNotWritten(t, d, 0, at, text)
				checkBytesNotWritten(t, d, len(d.Sectors)-1, at, text)
			}
			for _, sector := range []int{-1, -2, math.MinInt, len(d.Sectors), len(d.Sectors) + 1, math.MaxInt} {
				checkBytesNotWritten(t, d, sector, 0, text)
				checkBytesNotWritten(t, d, sector, 64, text)
			}
		}
		size := impl.SectorSize * len(d.Sectors)
		checkBytesNotWritten(t, d, 0, size, "a")
		checkBytesNotWritten(t, d, 0, size-1, "ab")
		checkBytesNotWritten(t, d, 0, 0, strings.Repeat("a", size+1))
		checkBytesNotWritten(t, d, 0, 0, strings.Repeat("a", 100*impl.MaxText))
	}
	for _, d := range wrongDisks() {
		for _, text := range []string{"a", full("a"), full("a") + "a"} {
			checkBytesNotWritten(t, d, 0, 0, text)
			checkBytesNotWritten(t, d, 1, 63, text)
			checkBytesNotWritten(t, d, -1, 0, text)
		}
		checkBytesNotWritten(t, d, 0, -1, "")
		checkBytesNotWritten(t, d, -1, 0, "")
		checkBytesNotWritten(t, d, len(d.Sectors), 0, "")
	}
}

// What WriteBytes wrote over several sectors and lost in part is told apart sector by sector.
func TestWriteBytesThenCrash(t *testing.T) {
	d := diskOf(3)
	text := strings.Repeat("n", 100)
	x, ok := impl.WriteBytes(d, 0, 60, text)
	if !ok {
		t.Fatal("WriteBytes is refused")
	}
	was := strings.Join(d.Sectors, "")
	for _, c := range []struct {
		keep []int
		tear int
		want string
	}{
		{nil, 64, was},
		{[]int{1, 1, 1}, 64, was[:60] + text + was[160:]},
		{[]int{1, 1, 1}, 10, was[:60] + text[:78] + was[138:]},
		{[]int{1, 0, 0}, 62, was[:60] + text[:2] + was[62:]},
		{[]int{0, 1, 0}, 5, was[:64] + text[:5] + was[69:]},
		{[]int{1, 0, 1}, 20, was[:60] + text[:4] + was[64:128] + text[:20] + was[148:]},
	} {
		got, ok := impl.SectorText(impl.CrashDisk(x, c.keep, c.tear), 0, 3)
		if !ok || got != c.want {
			t.Errorf("what is left with %v and %d: %q; want %q", c.keep, c.tear, got, c.want)
		}
	}
	if got, _ := impl.SectorText(impl.FlushDisk(x), 0, 3); got != was[:60]+text+was[160:] {
		t.Errorf("what is flushed: %q", got)
	}
}

// roomy is d in lists with spare room behind them, which has marks in it.
func roomy(d impl.Disk) impl.Disk {
	sectors := append(slices.Clone(d.Sectors), "mark", "mark", "mark")
	cache := append(slices.Clone(d.Cache), impl.Put{At: -9, Text: "mark"}, impl.Put{At: -9, Text: "mark"}, impl.Put{At: -9, Text: "mark"})
	return impl.Disk{Sectors: sectors[:len(d.Sectors)], Cache: cache[:len(d.Cache)]}
}

// withSpare is all of it, spare room and all, in lists of its own.
func withSpare(d impl.Disk) impl.Disk {
	return impl.Disk{Sectors: slices.Clone(d.Sectors[:cap(d.Sectors)]), Cache: slices.Clone(d.Cache[:cap(d.Cache)])}
}

// diskTexts are all texts of a disk.
func diskTexts(d impl.Disk) []string {
	texts := slices.Clone(d.Sectors)
	for _, w := range d.Cache {
		texts = append(texts, w.Text)
	}
	return texts
}

// diskAnswers are what the chapter answers of d, in every way.
func diskAnswers(d impl.Disk, text string, keep []int) []impl.Disk {
	answers := []impl.Disk{impl.FlushDisk(d), impl.CrashDisk(d, keep, 64), impl.CrashDisk(d, keep, 5), impl.CrashDisk(d, nil, 0)}
	for _, at := range []int{0, -1} {
		x, _ := impl.WriteSector(d, at, text)
		y, _ := impl.WriteBytes(d, at, 3, text)
		z, _ := impl.WriteBytes(d, at, 0, "")
		answers = append(answers, x, y, z)
	}
	return answers
}

func TestDisksAnswerNewMemory(t *testing.T) {
	disks := rightDisks()
	for _, d := range wrongDisks() {
		disks = append(disks, d)
	}
	for _, plain := range disks {
		d, text, keep := roomy(plain), strings.Repeat("t", impl.SectorSize), slices.Repeat([]int{1}, impl.MaxCache)
		was := withSpare(d)
		texts := append(diskTexts(d), text)
		for _, answer := range diskAnswers(d, text, keep) {
			for _, part := range diskTexts(answer) {
				for _, whole := range texts {
					if sharesMemory(part, whole) {
						t.Fatal("a text of an answer lies in an argument's memory")
					}
				}
			}
			// Whatever is done to an answer is not to be seen in the argument.
			for i := range answer.Sectors {
				answer.Sectors[i] = "other"
			}
			for i := range answer.Cache {
				answer.Cache[i] = impl.Put{At: 7, Text: "other"}
			}
			_ = append(answer.Sectors, "other")
			_ = append(answer.Cache, impl.Put{At: 7, Text: "other"})
		}
		for at := range d.Sectors {
			one, _ := impl.ReadSector(d, at)
			many, _ := impl.SectorText(d, at, 1)
			for _, whole := range texts {
				if sharesMemory(one, whole) || sharesMemory(many, whole) {
					t.Fatal("ReadSector or SectorText answers memory of its argument")
				}
			}
		}
		impl.DiskOk(d)
		if !sameDisk(withSpare(d), was) {
			t.Errorf("something is written into a disk of %d sectors and %d writes, or behind it", len(d.Sectors), len(d.Cache))
		}
		if !slices.Equal(keep, slices.Repeat([]int{1}, impl.MaxCache)) {
			t.Error("something is written into keep")
		}
	}
}

func TestDisksKeepNothing(t *testing.T) {
	first, _ := impl.DiskNew(3)
	first.Sectors[0] = "other"
	second, _ := impl.DiskNew(3)
	checkDisk(t, "DiskNew once more", second, impl.Disk{Sectors: slices.Repeat([]string{full("\x00")}, 3)})
	d := diskOf(2, impl.Put{At: 0, Text: full("a")})
	impl.WriteBytes(d, 0, 0, strings.Repeat("z", 129))
	impl.WriteSector(d, 5, full("z"))
	checkDisk(t, "FlushDisk behind what was refused", impl.FlushDisk(d), impl.Disk{Sectors: []string{full("a"), d.Sectors[1]}})
}
