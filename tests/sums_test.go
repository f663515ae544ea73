package tests

import (
	"hash/crc32"
	"math"
	"strings"
	"testing"

	"loop.example/g00327/impl"
)

const sumTurn = 3558460437

// sumBitByBit follows the document's words for SumMore, a bit at a time.
func sumBitByBit(sum uint32, text string) uint32 {
	for _, b := range []byte(text) {
		sum ^= uint32(b)
		for range 8 {
			wasOdd := sum%2 == 1
			sum /= 2
			if wasOdd {
				sum ^= sumTurn
			}
		}
	}
	return sum
}

// fourBytes is the sum as Sealed must write it.
func fourBytes(sum uint32) string {
	return string([]byte{byte(sum >> 24), byte(sum >> 16), byte(sum >> 8), byte(sum)})
}

// withSum is text and four more bytes, chosen so that SumOf all of it is sum:
// the sum is gone back over four bytes 0, and what is missing is put in.
func withSum(text string, sum uint32) string {
	for range 32 {
		if sum >= 1<<31 {
			sum = (sum^sumTurn)*2 + 1
		} else {
			sum *= 2
		}
	}
	sum ^= sumBitByBit(math.MaxUint32, text)
	return text + string([]byte{byte(sum), byte(sum >> 8), byte(sum >> 16), byte(sum >> 24)})
}

// sumTexts are ordinary texts and edges: nothing, noughts, all bytes, and the longest that can be sealed.
func sumTexts() []string {
	return []string{
		"", "a", "abc", "123456789", "\x00", "\x00\x00\x00\x00", "\xff", "\xff\xff\xff\xff", "\x80", "\x01\x80\x7f",
		allBytes(), strings.Repeat("log ", 100), strings.Repeat("x", impl.MaxText-1), strings.Repeat("\xa5", impl.MaxText),
	}
}

// sumStarts are sums to go on from.
var sumStarts = []uint32{0, 1, 2, 15, 16, 127, 128, 255, 256, 1 << 31, sumTurn, 0x12345678, math.MaxUint32 - 1, math.MaxUint32}

func TestSumMoreOfOneByte(t *testing.T) {
	for _, start := range sumStarts {
		for b := range 256 {
			text := string([]byte{byte(b)})
			if got, want := impl.SumMore(start, text), sumBitByBit(start, text); got != want {
				t.Fatalf("SumMore(%d, %q) = %d; want %d", start, text, got, want)
			}
		}
	}
}

func TestSumsThatAreKnown(t *testing.T) {
	for _, c := range []struct {
		start uint32
		text  string
		want  uint32
	}{
		{0, "", 0}, {math.MaxUint32, "", math.MaxUint32}, {77, "", 77}, {sumTurn, "", sumTurn},
		{0, "\x00", 0}, {0, "\x00\x00\x00\x00\x00", 0}, {0, "\x80", sumTurn}, {0, "a", 0x1edba34a}, {0, "abc", 0x0964d691},
		{math.MaxUint32, "\x00", 0x81a5c7dc}, {math.MaxUint32, "\xff", 0x00ffffff}, {math.MaxUint32, "\xff\xff\xff\xff", 0},
	} {
		if got := impl.SumMore(c.start, c.text); got != c.want {
			t.Errorf("SumMore(%d, %q) = %#x; want %#x", c.start, c.text, got, c.want)
		}
	}
	for _, c := range []struct {
		text string
		want uint32
	}{
		{"", math.MaxUint32}, {"\x00", 0x81a5c7dc}, {"\xff", 0x00ffffff}, {"a", 0x9f7e6496}, {"abc", 0xa7cd0a81},
		{"123456789", 0x78ceaa89}, {"\xff\xff\xff\xff", 0}, {allBytes(), 0x9e9affc1},
		{strings.Repeat("x", impl.MaxText), 0x93232524},
	} {
		if got := impl.SumOf(c.text); got != c.want {
			t.Errorf("SumOf(%.20q) = %#x; want %#x", c.text, got, c.want)
		}
	}
}

func TestSumsOfTexts(t *testing.T) {
	// The library's sum of this kind is turned round at its beginning and its end.
	table := crc32.MakeTable(sumTurn)
	texts := append(sumTexts(), strings.Repeat("y", impl.MaxText+1), strings.Repeat("long ", 10*impl.MaxText))
	for _, text := range texts {
		if got, want := impl.SumOf(text), ^crc32.Checksum([]byte(text), table); got != want {
			t.Errorf("SumOf of %d bytes = %#x; the library's is %#x", len(text), got, want)
		}
		for _, start := range sumStarts {
			if got, want := impl.SumMore(start, text), sumBitByBit(start, text); got != want {
				t.Errorf("SumMore(%d, %d bytes) = %#x; want %#x", start, len(text), got, want)
			}
		}
	}
}

func TestSumMoreGoesOn(t *testing.T) {
	for _, text := range []string{"", "a", "abc", "\x00\x00\x80", allBytes(), strings.Repeat("part ", 50)} {
		for cut := range len(text) + 1 {
			if got, want := impl.SumMore(impl.SumOf(text[:cut]), text[cut:]), impl.SumOf(text); got != want {
				t.Fatalf("SumMore of %.20q from %d on = %#x; SumOf the whole = %#x", text, cut, got, want)
			}
			for _, start := range sumStarts {
				if got, want := impl.SumMore(impl.SumMore(start, text[:cut]), text[cut:]), impl.SumMore(start, text); got != want {
					t.Fatalf("SumMore from %d of %.20q in two parts at %d = %#x; of the whole = %#x", start, text, cut, got, want)
				}
			}
		}
	}
	long := strings.Repeat("\x13\x37", impl.MaxText)
	for _, cut := range []int{0, 1, impl.MaxText, impl.MaxText + 1, 2*impl.MaxText - 1, 2 * impl.MaxText} {
		if impl.SumMore(impl.SumOf(long[:cut]), long[cut:]) != impl.SumOf(long) {
			t.Errorf("SumMore of %d bytes from %d on is not SumOf the whole", len(long), cut)
		}
	}
}

func TestSealedBytes(t *testing.T) {
	for _, c := range []struct{ text, want string }{
		{"", "\xff\xff\xff\xff"}, {"a", "a\x9f\x7e\x64\x96"}, {"abc", "abc\xa7\xcd\x0a\x81"},
		{"123456789", "123456789\x78\xce\xaa\x89"}, {"\xff", "\xff\x00\xff\xff\xff"},
		{"\xff\xff\xff\xff", "\xff\xff\xff\xff\x00\x00\x00\x00"},
	} {
		if got, ok := impl.Sealed(c.text); !ok || got != c.want {
			t.Errorf("Sealed(%q) = %q, %v; want %q", c.text, got, ok, c.want)
		}
	}
	for _, text := range sumTexts() {
		if got, ok := impl.Sealed(text); !ok || got != text+fourBytes(sumBitByBit(math.MaxUint32, text)) {
			t.Errorf("Sealed of %d bytes is %v, or another text", len(text), ok)
		}
	}
}

func TestSealedComesBack(t *testing.T) {
	texts := sumTexts()
	for _, sum := range sumStarts {
		for _, text := range []string{"", "abc", strings.Repeat("z", impl.MaxText-4)} {
			whole := withSum(text, sum)
			if impl.SumOf(whole) != sum {
				t.Errorf("SumOf %d bytes made for the sum %#x = %#x", len(whole), sum, impl.SumOf(whole))
			}
			texts = append(texts, whole)
		}
	}
	for _, text := range texts {
		sealed, ok := impl.Sealed(text)
		if !ok || len(sealed) != len(text)+4 {
			t.Fatalf("Sealed of %d bytes: %d bytes, %v", len(text), len(sealed), ok)
		}
		if got, ok := impl.Unsealed(sealed); !ok || got != text {
			t.Errorf("Unsealed of Sealed of %d bytes is %v, or another text", len(text), ok)
		}
		// One that is sealed is a text like any other, where there is room for four bytes more.
		twice, ok := impl.Sealed(sealed)
		if fits := len(sealed) <= impl.MaxText; ok != fits || !fits && twice != "" {
			t.Fatalf("Sealed of %d bytes that are sealed: %v", len(sealed), ok)
		}
		if got, right := impl.Unsealed(twice); right != ok || ok && got != sealed {
			t.Errorf("Unsealed of %d bytes that are sealed twice: %v", len(twice), right)
		}
	}
}

func TestSealedLimit(t *testing.T) {
	for _, n := range []int{impl.MaxText + 1, impl.MaxText + 4, 2 * impl.MaxText} {
		text := strings.Repeat("x", n)
		if got, ok := impl.Sealed(text); ok || got != "" {
			t.Errorf("Sealed of %d bytes is accepted", n)
		}
		checkNotSealed(t, text+fourBytes(sumBitByBit(math.MaxUint32, text)))
	}
	text := strings.Repeat("x", impl.MaxText)
	sealed, _ := impl.Sealed(text)
	if got, ok := impl.Unsealed(sealed); !ok || got != text || len(sealed) != 20004 {
		t.Errorf("Unsealed of Sealed of MaxText bytes: %d bytes, %v", len(got), ok)
	}
	for b := range 256 {
		checkNotSealed(t, sealed+string([]byte{byte(b)}))
	}
	checkNotSealed(t, sealed[1:])
	checkNotSealed(t, sealed[:len(sealed)-1])
}

func checkNotSealed(t *testing.T, text string) {
	t.Helper()
	if got, ok := impl.Unsealed(text); ok || got != "" {
		t.Errorf("Unsealed(%.20q), %d bytes: %d bytes, %v; want nothing", text, len(text), len(got), ok)
	}
}

// turned has the byte at that place exclusive-or by.
func turned(text string, at int, by byte) string {
	b := []byte(text)
	b[at] ^= by
	return string(b)
}

func TestOneTurnedByteIsTold(t *testing.T) {
	for _, text := range []string{"", "a", "abc", "\x00\x00\x00\x00", "\xff\xff\xff\xff", withSum("key", 0), withSum("key", math.MaxUint32), allBytes()} {
		sealed, ok := impl.Sealed(text)
		if !ok {
			t.Fatalf("Sealed(%.20q) is refused", text)
		}
		for at := range len(sealed) {
			for by := 1; by < 256; by++ {
				checkNotSealed(t, turned(sealed, at, byte(by)))
			}
		}
	}
}

func TestOneTurnedByteOfALongTextIsTold(t *testing.T) {
	sealed, ok := impl.Sealed(strings.Repeat("0123456789", impl.MaxText/10))
	if !ok {
		t.Fatal("Sealed of MaxText bytes is refused")
	}
	for at := 0; at < len(sealed); at += 97 {
		checkNotSealed(t, turned(sealed, at, 1))
		checkNotSealed(t, turned(sealed, at, byte(1+at%255)))
	}
	for at := len(sealed) - 8; at < len(sealed); at++ {
		for by := 1; by < 256; by += 2 {
			checkNotSealed(t, turned(sealed, at, byte(by)))
		}
	}
}

func TestUnsealedRefusesFewBytes(t *testing.T) {
	for n := range 4 {
		checkNotSealed(t, strings.Repeat("\xff", n))
		checkNotSealed(t, strings.Repeat("\x00", n))
		checkNotSealed(t, "abc"[:n])
	}
	// Of four bytes alone those are sealed that are the sum of nothing.
	if got, ok := impl.Unsealed("\xff\xff\xff\xff"); !ok || got != "" {
		t.Errorf("Unsealed of the empty text sealed = %q, %v", got, ok)
	}
	for _, four := range []string{"\x00\x00\x00\x00", "abcd", "\xff\xff\xff\xfe", "\x7f\xff\xff\xff", "\x00\x00\x00\x01", "    "} {
		checkNotSealed(t, four)
	}
}

func TestUnsealedRefusesAnotherOrder(t *testing.T) {
	for _, text := range []string{"a", "abc", "123456789", strings.Repeat("w", impl.MaxText)} {
		sealed, _ := impl.Sealed(text)
		if len(sealed) != len(text)+4 {
			t.Fatalf("Sealed of %d bytes has %d", len(text), len(sealed))
		}
		sum := sealed[len(text):]
		for i := range 256 {
			order := []int{i / 64, i / 16 % 4, i / 4 % 4, i % 4}
			var b strings.Builder
			for _, at := range order {
				b.WriteByte(sum[at])
			}
			if b.String() != sum {
				checkNotSealed(t, text+b.String())
			}
		}
		checkNotSealed(t, sum+text)
	}
}

func TestUnsealedRefusesWhatWasNeverSealed(t *testing.T) {
	for _, text := range sumTexts() {
		sum := sumBitByBit(math.MaxUint32, text)
		checkNotSealed(t, text+fourBytes(^sum))
		checkNotSealed(t, text+fourBytes(sum+1))
		checkNotSealed(t, text+fourBytes(sum-1))
		checkNotSealed(t, text+fourBytes(sumBitByBit(0, text)))
		checkNotSealed(t, text+"x"+fourBytes(sum))
	}
	for _, text := range []string{"hello", "abcdefgh", "\x00\x00\x00\x00\x00", "\xff\xff\xff\xff\xff", allBytes(), strings.Repeat("\x00", 300)} {
		checkNotSealed(t, text)
	}
	one, _ := impl.Sealed("one")
	two, _ := impl.Sealed("two!")
	checkNotSealed(t, one+two)
	checkNotSealed(t, one[:3]+two[4:])
	checkNotSealed(t, one[1:])
	checkNotSealed(t, one[:6])
	checkNotSealed(t, one+"\x00")
}

func TestSumsAnswerNewMemory(t *testing.T) {
	text := strings.Repeat("seal", 10)
	sealed, _ := impl.Sealed(text)
	if sharesMemory(sealed, text) {
		t.Error("Sealed answers memory of its argument")
	}
	if got, _ := impl.Unsealed(sealed); got != text || sharesMemory(got, sealed) {
		t.Error("Unsealed answers memory of its argument")
	}
}
