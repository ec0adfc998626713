package impl

import (
	"strconv"
	"strings"
)

const OK = 0
const ErrForm = 1
const ErrMany = 2
const ErrRange = 3
const ErrNone = 4
const ErrText = 5
const ErrTaken = 6
const ErrFull = 7
const ErrState = 8
const MaxText = 1000
const MaxWord = 64
const MaxTime = 1000000000000000
const MaxDelta = 2147483648

type IntResult struct {
	Code  int64
	Value int64
}
type TextResult struct {
	Code int64
	Text string
}
type BytesResult struct {
	Code  int64
	Bytes []byte
}

// byteSet is an array, so whoever it is handed to has a copy of its own to
// add to. Bytes above 127 are in no set of the document.
type byteSet [128]bool

var wordBytes = byteSet{
	'!': true, '#': true, '$': true, '%': true, '&': true, '\'': true, '*': true,
	'+': true, '-': true, '.': true, '^': true, '_': true, '|': true, '~': true,

	'0': true, '1': true, '2': true, '3': true, '4': true,
	'5': true, '6': true, '7': true, '8': true, '9': true,

	'A': true, 'B': true, 'C': true, 'D': true, 'E': true, 'F': true, 'G': true,
	'H': true, 'I': true, 'J': true, 'K': true, 'L': true, 'M': true, 'N': true,
	'O': true, 'P': true, 'Q': true, 'R': true, 'S': true, 'T': true, 'U': true,
	'V': true, 'W': true, 'X': true, 'Y': true, 'Z': true,

	'a': true, 'b': true, 'c': true, 'd': true, 'e': true, 'f': true, 'g': true,
	'h': true, 'i': true, 'j': true, 'k': true, 'l': true, 'm': true, 'n': true,
	'o': true, 'p': true, 'q': true, 'r': true, 's': true, 't': true, 'u': true,
	'v': true, 'w': true, 'x': true, 'y': true, 'z': true,
}

func hasOnly(text string, set byteSet) bool {
	for i := range len(text) {
		b := int(text[i])
		if b >= len(set) || !set[b] {
			return false
		}
	}
	return true
}

func isDigit(b byte) bool {
	return b >= '0' && b <= '9'
}

// span is a count of thousandths of a second. Its sums hold only for spans
// that are times; they compare ahead of counting, so that nothing goes round.
type span int64

func (s span) isTime() bool {
	return s >= 0 && s <= MaxTime
}

func (s span) plus(other span) span {
	if s > MaxTime-other {
		return MaxTime
	}
	return s + other
}

func (s span) times(other span) span {
	if other != 0 && s > MaxTime/other {
		return MaxTime
	}
	return s * other
}

func IsWord(text string) bool {
	return len(text) >= 1 && len(text) <= MaxWord && hasOnly(text, wordBytes)
}

// LowerText goes by bytes: strings.ToLower would turn letters beyond A to Z
// and bytes that are no UTF-8.
func LowerText(text string) TextResult {
	if len(text) > MaxText {
		return TextResult{Code: ErrMany}
	}
	small := []byte(text)
	for i, b := range small {
		if b >= 'A' && b <= 'Z' {
			small[i] = b - 'A' + 'a'
		}
	}
	return TextResult{Text: string(small)}
}

func TrimText(text string) TextResult {
	if len(text) > MaxText {
		return TextResult{Code: ErrMany}
	}
	// A piece of text would share its memory, so it is cloned.
	return TextResult{Text: strings.Clone(strings.Trim(text, " \t"))}
}

func AddTime(a int64, b int64) IntResult {
	if !span(a).isTime() || !span(b).isTime() {
		return IntResult{Code: ErrRange}
	}
	return IntResult{Value: int64(span(a).plus(span(b)))}
}

func MulTime(a int64, b int64) IntResult {
	if !span(a).isTime() || !span(b).isTime() {
		return IntResult{Code: ErrRange}
	}
	return IntResult{Value: int64(span(a).times(span(b)))}
}

func DeltaOf(text string) IntResult {
	if len(text) < 1 || len(text) > MaxWord {
		return IntResult{Code: ErrText}
	}
	var value int64
	for i := range len(text) {
		if !isDigit(text[i]) {
			return IntResult{Code: ErrText}
		}
		// Held at its greatest digit by digit: 64 digits would go round.
		value = min(value*10+int64(text[i]-'0'), MaxDelta)
	}
	return IntResult{Value: value}
}

func NumberText(n int64) TextResult {
	if !span(n).isTime() {
		return TextResult{Code: ErrRange}
	}
	return TextResult{Text: strconv.FormatInt(n, 10)}
}
