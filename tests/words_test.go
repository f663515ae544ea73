package tests

import (
	"math"
	"strings"
	"testing"
	"unsafe"

	"loop.example/g00327/impl"
)

// edgeNumbers are those next to which VarText grows by a byte, and its limits.
var edgeNumbers = []int{
	0, 1, 127, 128, 129, 255, 256, 300, 16383, 16384, 16385,
	2097151, 2097152, 268435455, 268435456, impl.MaxNumber - 1, impl.MaxNumber,
}

// wrongNumbers are outside 0 .. MaxNumber.
var wrongNumbers = []int{-1, -128, math.MinInt, impl.MaxNumber + 1, 1 << 35, 1 << 62, math.MaxInt}

// allBytes has each byte once.
func allBytes() string {
	var b strings.Builder
	for i := range 256 {
		b.WriteByte(byte(i))
	}
	return b.String()
}

func TestWordLimits(t *testing.T) {
	if impl.MaxText != 20000 || impl.MaxNumber != 1000000000 || impl.MaxWords != 600 || impl.MaxParts != 10 {
		t.Error("a limit is not what the document says")
	}
}

func TestVarTextBytes(t *testing.T) {
	for _, c := range []struct {
		n    int
		want string
	}{
		{0, "\x00"}, {1, "\x01"}, {127, "\x7f"}, {128, "\x80\x01"}, {255, "\xff\x01"}, {300, "\xac\x02"},
		{16383, "\xff\x7f"}, {16384, "\x80\x80\x01"}, {2097152, "\x80\x80\x80\x01"},
		{268435455, "\xff\xff\xff\x7f"}, {268435456, "\x80\x80\x80\x80\x01"},
		{impl.MaxNumber, "\x80\x94\xeb\xdc\x03"},
	} {
		if got, ok := impl.VarText(c.n); !ok || got != c.want {
			t.Errorf("VarText(%d) = %q, %v; want %q", c.n, got, ok, c.want)
		}
	}
}

func TestVarTextRefuses(t *testing.T) {
	for _, n := range wrongNumbers {
		if got, ok := impl.VarText(n); ok || got != "" {
			t.Errorf("VarText(%d) = %q, %v; want nothing", n, got, ok)
		}
	}
}

func checkVarComesBack(t *testing.T, n int) {
	t.Helper()
	text, ok := impl.VarText(n)
	if !ok {
		t.Fatalf("VarText(%d) is refused", n)
	}
	for _, ahead := range []string{"", "\x00", "\xff\xff"} {
		for _, behind := range []string{"", "\x00", "\x80", "xyz"} {
			got, at, ok := impl.ReadVar(ahead+text+behind, len(ahead))
			if !ok || got != n || at != len(ahead)+len(text) {
				t.Fatalf("ReadVar of VarText(%d) between %q and %q = %d, %d, %v", n, ahead, behind, got, at, ok)
			}
		}
	}
}

func TestVarComesBack(t *testing.T) {
	for _, n := range edgeNumbers {
		checkVarComesBack(t, n)
	}
	for n := range 20000 {
		checkVarComesBack(t, n)
	}
	for n := 20000; n <= impl.MaxNumber; n += 99991 {
		checkVarComesBack(t, n)
	}
}

// Each text of up to three bytes is read as the one number whose VarText it begins with, or as none.
func TestReadVarReadsNothingElse(t *testing.T) {
	check := func(text string) {
		got, at, ok := impl.ReadVar(text, 0)
		if !ok {
			if got != 0 || at != 0 {
				t.Fatalf("ReadVar(%q) = %d, %d beside a false", text, got, at)
			}
			end := strings.IndexFunc(text, func(r rune) bool { return r < 128 })
			if end == 0 || end > 0 && text[end] != 0 {
				t.Fatalf("ReadVar(%q) is refused", text)
			}
			return
		}
		if want, _ := impl.VarText(got); !strings.HasPrefix(text, want) || at != len(want) {
			t.Fatalf("ReadVar(%q) = %d, %d, whose VarText is %q", text, got, at, want)
		}
	}
	for a := range 256 {
		check(string([]byte{byte(a)}))
		for b := range 256 {
			check(string([]byte{byte(a), byte(b)}))
			for _, c := range []byte{0, 1, 127, 128, 129, 255} {
				check(string([]byte{byte(a), byte(b), c}))
			}
		}
	}
}

func TestReadVarRefuses(t *testing.T) {
	for _, c := range []struct {
		text string
		at   int
	}{
		// Longer forms of 0, 1, 127, 128, 300 and MaxNumber.
		{"\x80\x00", 0}, {"\x81\x00", 0}, {"\xff\x00", 0}, {"\x80\x81\x00", 0}, {"\xac\x82\x00", 0},
		{"\x80\x80\x00", 0}, {"\x80\x80\x80\x80\x00", 0}, {"\x80\x94\xeb\xdc\x83\x00", 0},
		{strings.Repeat("\x80", 8) + "\x00", 0}, {strings.Repeat("\x80", 20) + "\x00", 0},
		// MaxNumber and one more, and above.
		{"\x81\x94\xeb\xdc\x03", 0}, {"\x80\x95\xeb\xdc\x03", 0}, {"\xff\xff\xff\xff\x03", 0},
		{"\xff\xff\xff\xff\x7f", 0}, {"\x80\x80\x80\x80\x80\x01", 0},
		{strings.Repeat("\xff", 8) + "\x7f", 0}, {strings.Repeat("\x80", 9) + "\x02", 0},
		{strings.Repeat("\xff", 100) + "\x01", 0},
		// Bytes that end too early.
		{"", 0}, {"\x80", 0}, {"\xff\xff\xff\xff", 0}, {"\x01", 1}, {"\x01\x80", 1},
		// Places that are none.
		{"", -1}, {"", 1}, {"\x01", -1}, {"\x01", 2}, {"\x01", math.MinInt}, {"\x01", math.MaxInt},
	} {
		if n, at, ok := impl.ReadVar(c.text, c.at); ok || n != 0 || at != 0 {
			t.Errorf("ReadVar(%q, %d) = %d, %d, %v; want nothing", c.text, c.at, n, at, ok)
		}
	}
}

func TestShortTextBytes(t *testing.T) {
	for _, c := range []struct{ s, head string }{
		{"", "\x00"}, {"a", "\x01"}, {"\x00\xff", "\x02"},
		{strings.Repeat("b", 127), "\x7f"}, {strings.Repeat("b", 128), "\x80\x01"},
		{strings.Repeat("c", impl.MaxText), "\xa0\x9c\x01"},
	} {
		if got, ok := impl.ShortText(c.s); !ok || got != c.head+c.s {
			t.Errorf("ShortText of %d bytes is %v, or begins otherwise than %q", len(c.s), ok, c.head)
		}
	}
}

func TestShortComesBack(t *testing.T) {
	texts := []string{"", "a", "\x00", "\x80", "\xff\xff", allBytes(), strings.Repeat("x", impl.MaxText-1), strings.Repeat("\x80", impl.MaxText)}
	for n := range 300 {
		texts = append(texts, strings.Repeat("k", n))
	}
	for _, s := range texts {
		text, ok := impl.ShortText(s)
		if !ok {
			t.Fatalf("ShortText of %d bytes is refused", len(s))
		}
		for _, ahead := range []string{"", "\x05ab"} {
			for _, behind := range []string{"", "more"} {
				got, at, ok := impl.ReadShort(ahead+text+behind, len(ahead))
				if !ok || got != s || at != len(ahead)+len(text) {
					t.Fatalf("ReadShort of ShortText of %d bytes: %v, at %d", len(s), ok, at)
				}
			}
		}
	}
}

func TestShortRefuses(t *testing.T) {
	for _, n := range []int{impl.MaxText + 1, 2 * impl.MaxText} {
		if got, ok := impl.ShortText(strings.Repeat("x", n)); ok || got != "" {
			t.Errorf("ShortText of %d bytes is accepted", n)
		}
	}
	long, _ := impl.VarText(impl.MaxText + 1)
	whole, _ := impl.ShortText(strings.Repeat("x", impl.MaxText))
	most, _ := impl.VarText(impl.MaxNumber)
	for _, c := range []struct {
		text string
		at   int
	}{
		{long + strings.Repeat("x", impl.MaxText+1), 0},
		{whole[:len(whole)-1], 0},
		{most + "x", 0},
		{"", 0}, {"\x01", 0}, {"\x02a", 0}, {"\x00", 1}, {"\x01a\x01", 2},
		{"\x81\x00a", 0}, {"\x80\x00", 0}, {"\x80", 0},
		{"\x01a", -1}, {"\x01a", 3}, {"\x01a", math.MinInt}, {"\x01a", math.MaxInt},
	} {
		if s, at, ok := impl.ReadShort(c.text, c.at); ok || s != "" || at != 0 {
			t.Errorf("ReadShort(%.20q, %d) of %d bytes is accepted, at %d", c.text, c.at, len(c.text), at)
		}
	}
}

func TestHexFigures(t *testing.T) {
	for _, c := range []struct{ text, want string }{
		{"", ""}, {"\x00", "00"}, {"\x0f\xf0", "0ff0"}, {"\x12\xab", "12ab"}, {"az", "617a"}, {"\xff", "ff"},
	} {
		if got, ok := impl.Hex(c.text); !ok || got != c.want {
			t.Errorf("Hex(%q) = %q, %v; want %q", c.text, got, ok, c.want)
		}
	}
}

func TestHexComesBack(t *testing.T) {
	for _, text := range []string{"", allBytes(), strings.Repeat("\xa5", impl.MaxText), strings.Repeat("q", impl.MaxText-1)} {
		hex, ok := impl.Hex(text)
		if !ok || len(hex) != 2*len(text) {
			t.Fatalf("Hex of %d bytes: %d figures, %v", len(text), len(hex), ok)
		}
		if got, ok := impl.Unhex(hex); !ok || got != text {
			t.Errorf("Unhex of the Hex of %d bytes is another text, or %v", len(text), ok)
		}
	}
}

// Each two bytes are read as the one byte whose Hex they are, or as none.
func TestUnhexReadsNothingElse(t *testing.T) {
	of := map[string]string{}
	for i := range 256 {
		b := string([]byte{byte(i)})
		hex, _ := impl.Hex(b)
		of[hex] = b
	}
	if len(of) != 256 {
		t.Fatalf("256 bytes have %d Hex texts", len(of))
	}
	for a := range 256 {
		for b := range 256 {
			two := string([]byte{byte(a), byte(b)})
			want, right := of[two]
			if got, ok := impl.Unhex(two); ok != right || got != want {
				t.Fatalf("Unhex(%q) = %q, %v; want %q, %v", two, got, ok, want, right)
			}
		}
	}
}

func TestHexRefuses(t *testing.T) {
	if got, ok := impl.Hex(strings.Repeat("x", impl.MaxText+1)); ok || got != "" {
		t.Error("Hex of one byte above MaxText is accepted")
	}
	for _, text := range []string{
		"0", "000", "AB", "aB", "0g", "g0", " 0", "0 ", "0x", "-1", "00zz", "zz00", "0\x00", "/0", ":0", "`0",
		strings.Repeat("00", impl.MaxText) + "0",
		strings.Repeat("00", impl.MaxText+1),
	} {
		if got, ok := impl.Unhex(text); ok || got != "" {
			t.Errorf("Unhex(%.20q) of %d bytes is accepted", text, len(text))
		}
	}
}

func TestDecimalFigures(t *testing.T) {
	for _, c := range []struct {
		n    int
		want string
	}{
		{0, "0"}, {7, "7"}, {10, "10"}, {100, "100"}, {-1, "-1"}, {-5, "-5"}, {-10, "-10"}, {1234567890, "1234567890"},
		{impl.MaxNumber, "1000000000"}, {math.MaxInt, "9223372036854775807"}, {math.MinInt, "-9223372036854775808"},
		{math.MinInt + 1, "-9223372036854775807"},
	} {
		if got := impl.Decimal(c.n); got != c.want {
			t.Errorf("Decimal(%d) = %q", c.n, got)
		}
	}
}

func TestDecimalComesBack(t *testing.T) {
	check := func(n int) {
		if got, ok := impl.ReadDecimal(impl.Decimal(n)); !ok || got != n {
			t.Fatalf("ReadDecimal of Decimal(%d) = %d, %v", n, got, ok)
		}
	}
	for _, n := range edgeNumbers {
		check(n)
	}
	for n := range 20000 {
		check(n)
	}
	for n := 20000; n <= impl.MaxNumber; n += 99991 {
		check(n)
	}
}

func TestReadDecimalRefuses(t *testing.T) {
	texts := []string{
		"", "00", "01", "007", "0000000001", "00000000000", "-", "-0", "-1", "+1", " 1", "1 ", "1\n", "1.0", "1e3",
		"0x1", "a", "1a", "a1", "1_0", "/", ":", "1\x00", "\xd9\xa1",
		"1000000001", "9999999999", "10000000000", "18446744073709551617", "99999999999999999999999999",
		strings.Repeat("1", 100000),
	}
	for _, n := range wrongNumbers {
		texts = append(texts, impl.Decimal(n))
	}
	for _, text := range texts {
		if n, ok := impl.ReadDecimal(text); ok || n != 0 {
			t.Errorf("ReadDecimal(%.30q) = %d, %v; want nothing", text, n, ok)
		}
	}
	for b := range 256 {
		n, ok := impl.ReadDecimal(string([]byte{byte(b)}))
		if isFigure := b >= '0' && b <= '9'; ok != isFigure || ok && n != b-'0' || !ok && n != 0 {
			t.Errorf("ReadDecimal of the byte %d = %d, %v", b, n, ok)
		}
	}
}

func TestPartsOfLines(t *testing.T) {
	longWord := strings.Repeat("w", impl.MaxWords)
	for _, c := range []struct {
		line string
		want []string
	}{
		{"", nil}, {" ", nil}, {"   ", nil}, {strings.Repeat(" ", impl.MaxWords), nil},
		{"a", []string{"a"}}, {"put 1 a word", []string{"put", "1", "a", "word"}},
		{" tick  1 2 ", []string{"tick", "1", "2"}}, {"   a", []string{"a"}}, {"a   ", []string{"a"}},
		{"!~ ~!", []string{"!~", "~!"}}, {longWord, []string{longWord}},
		{"1 2 3 4 5 6 7 8 9 10", strings.Fields("1 2 3 4 5 6 7 8 9 10")},
		{"  1  2  3  4  5  6  7  8  9  10  ", strings.Fields("1 2 3 4 5 6 7 8 9 10")},
		{strings.Repeat(" ", impl.MaxWords-1) + "z", []string{"z"}},
	} {
		got, ok := impl.PartsOf(c.line)
		if !ok || strings.Join(got, "\n") != strings.Join(c.want, "\n") || len(got) != len(c.want) {
			t.Errorf("PartsOf(%.40q) = %.40q, %v; want %.40q", c.line, got, ok, c.want)
		}
	}
}

func TestPartsOfRefuses(t *testing.T) {
	for _, line := range []string{
		strings.Repeat(" ", impl.MaxWords+1), strings.Repeat("w", impl.MaxWords+1), "a" + strings.Repeat(" ", impl.MaxWords),
		"1 2 3 4 5 6 7 8 9 10 11", " 1 2 3 4 5 6 7 8 9 10 11 ", strings.Repeat("a ", 300),
		"\t", "a\tb", "a\n", "\x1f", "a b\x7f", "\x80", "a \xc3\xa9", "\x00",
	} {
		if got, ok := impl.PartsOf(line); ok || len(got) != 0 {
			t.Errorf("PartsOf(%.40q) = %.40q, %v; want nothing", line, got, ok)
		}
	}
	for b := range 256 {
		parts, ok := impl.PartsOf(string([]byte{'a', byte(b), 'a'}))
		if isPlain := b >= 32 && b <= 126; ok != isPlain || !ok && len(parts) != 0 {
			t.Errorf("PartsOf of a line with the byte %d: %v", b, ok)
		}
	}
}

func sharesMemory(part, whole string) bool {
	from := uintptr(unsafe.Pointer(unsafe.StringData(whole)))
	at := uintptr(unsafe.Pointer(unsafe.StringData(part)))
	return len(part) > 0 && at >= from && at < from+uintptr(len(whole))
}

func TestWordsAnswerNewMemory(t *testing.T) {
	short := strings.Repeat("\x03abc", 10)
	if s, _, _ := impl.ReadShort(short, 4); s != "abc" || sharesMemory(s, short) {
		t.Error("ReadShort answers memory of its argument")
	}
	line := strings.Repeat("part ", 3)
	first, _ := impl.PartsOf(line)
	for _, p := range first {
		if sharesMemory(p, line) {
			t.Error("PartsOf answers memory of its argument")
		}
	}
	first[0] = "other"
	if second, _ := impl.PartsOf(line); second[0] != "part" {
		t.Error("PartsOf keeps a list from one call to another")
	}
}
