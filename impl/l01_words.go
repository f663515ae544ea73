package impl

import (
	"strconv"
	"strings"
)

const (
	MaxText   = 20000
	MaxNumber = 1000000000
	MaxWords  = 600
	MaxParts  = 10
)

const figures = "0123456789abcdef"

func VarText(n int) (string, bool) {
	if n < 0 || n > MaxNumber {
		return "", false
	}
	var out []byte
	for n > 127 {
		out = append(out, byte(n%128+128))
		n /= 128
	}
	return string(append(out, byte(n))), true
}

func ReadVar(text string, at int) (int, int, bool) {
	if at < 0 || at > len(text) {
		return 0, 0, false
	}
	n, weight := 0, 1
	// A byte whose weight alone is above MaxNumber belongs to no VarText;
	// stopping there also keeps n from wrapping round.
	for i := at; i < len(text) && weight <= MaxNumber; i++ {
		n += int(text[i]%128) * weight
		weight *= 128
		if text[i] > 127 {
			continue
		}
		// A nought behind other bytes adds nothing: a longer form.
		if n > MaxNumber || text[i] == 0 && i > at {
			return 0, 0, false
		}
		return n, i + 1, true
	}
	return 0, 0, false
}

func ShortText(s string) (string, bool) {
	if len(s) > MaxText {
		return "", false
	}
	head, ok := VarText(len(s))
	return head + s, ok
}

func ReadShort(text string, at int) (string, int, bool) {
	n, from, ok := ReadVar(text, at)
	if !ok || n > MaxText || n > len(text)-from {
		return "", 0, false
	}
	// Cloned, because an answer shares no memory with its argument.
	return strings.Clone(text[from : from+n]), from + n, true
}

func Hex(text string) (string, bool) {
	if len(text) > MaxText {
		return "", false
	}
	out := make([]byte, 0, 2*len(text))
	for i := 0; i < len(text); i++ {
		out = append(out, figures[text[i]/16], figures[text[i]%16])
	}
	return string(out), true
}

func Unhex(text string) (string, bool) {
	if len(text)%2 != 0 || len(text) > 2*MaxText {
		return "", false
	}
	halves, ok := figureValues(text, 16)
	if !ok {
		return "", false
	}
	out := make([]byte, 0, len(halves)/2)
	for i := 0; i < len(halves); i += 2 {
		out = append(out, halves[i]*16+halves[i+1])
	}
	return string(out), true
}

func Decimal(n int) string {
	return strconv.Itoa(n)
}

func ReadDecimal(text string) (int, bool) {
	// The length is looked at first, so that n can't wrap round below.
	if text == "" || len(text) > len(Decimal(MaxNumber)) {
		return 0, false
	}
	if text[0] == '0' && len(text) > 1 {
		return 0, false
	}
	values, ok := figureValues(text, 10)
	if !ok {
		return 0, false
	}
	n := 0
	for _, v := range values {
		n = n*10 + int(v)
	}
	if n > MaxNumber {
		return 0, false
	}
	return n, true
}

// figureValues tells what each byte of text is worth as one of the first base
// figures. One function serves both ways of writing, so that what is read is
// held against the very figures that are written.
func figureValues(text string, base int) ([]byte, bool) {
	values := make([]byte, 0, len(text))
nextByte:
	for i := 0; i < len(text); i++ {
		for v := 0; v < base; v++ {
			if text[i] == figures[v] {
				values = append(values, byte(v))
				continue nextByte
			}
		}
		return nil, false
	}
	return values, true
}

func PartsOf(line string) ([]string, bool) {
	if !plainLine(line) {
		return nil, false
	}
	var parts []string
	from := 0
	// The end of the line closes a part as a blank does.
	for i := 0; i <= len(line); i++ {
		if i < len(line) && line[i] != ' ' {
			continue
		}
		if i > from {
			parts = append(parts, strings.Clone(line[from:i]))
		}
		from = i + 1
	}
	if len(parts) > MaxParts {
		return nil, false
	}
	return parts, true
}

func plainLine(line string) bool {
	if len(line) > MaxWords {
		return false
	}
	for i := 0; i < len(line); i++ {
		if line[i] < 32 || line[i] > 126 {
			return false
		}
	}
	return true
}
