package tests

import (
	"math"
	"math/big"
	"math/rand"
	"strconv"
	"strings"
	"testing"
	"unsafe"

	"loop.example/g00665/impl"
)

// The signatures and the result types as the document tells them.
var (
	_ func(string) bool                 = impl.IsWord
	_ func(string) impl.TextResult      = impl.LowerText
	_ func(string) impl.TextResult      = impl.TrimText
	_ func(int64, int64) impl.IntResult = impl.AddTime
	_ func(int64, int64) impl.IntResult = impl.MulTime
	_ func(string) impl.IntResult       = impl.DeltaOf
	_ func(int64) impl.TextResult       = impl.NumberText

	_ = impl.IntResult{Code: int64(0), Value: int64(0)}
	_ = impl.TextResult{Code: int64(0), Text: ""}
	_ = impl.BytesResult{Code: int64(0), Bytes: []byte(nil)}
)

const wordBytes = "abcdefghijklmnopqrstuvwxyz" + "ABCDEFGHIJKLMNOPQRSTUVWXYZ" + "0123456789" + "!#$%&'*+-.^_|~"

// edgeNumbers stand at and around every bound that chapter 1 names.
var edgeNumbers = []int64{
	math.MinInt64, math.MinInt64 + 1, -impl.MaxTime - 1, -impl.MaxTime, -2, -1,
	0, 1, 2, 9, 10, 11, 99, 100, 120, 1000, 1000000, 1000001, 31622776, 31622777, 1000000000, 1000000001,
	impl.MaxDelta - 1, impl.MaxDelta, impl.MaxDelta + 1, math.MaxInt32, 1 << 32, 1<<32 + 1,
	impl.MaxTime / 3, impl.MaxTime/2 - 1, impl.MaxTime / 2, impl.MaxTime/2 + 1,
	impl.MaxTime - 2, impl.MaxTime - 1, impl.MaxTime, impl.MaxTime + 1, 2 * impl.MaxTime,
	math.MaxInt64 / 2, math.MaxInt64/2 + 1, math.MaxInt64 - 1, math.MaxInt64,
}

// edgeTexts are ordinary, wrong and long texts, and each byte alone and inside of a word.
func edgeTexts() []string {
	texts := []string{
		"", "a", "max-age", "Max-Age", "a b", " a", "a ", "\ta", "a\t", " \t a\t b \t ", "\t", " ", " \t \t", "a\nb", "\r\na",
		"0", "7", "007", "00", "+5", "-5", "-0", " 5", "5 ", "\t5", "5a", "a5", "5-5", "1.0", "1e3", "0x10", "1_000", "1,000", "5\x00",
		"2147483647", "2147483648", "2147483649", "002147483649", "4294967296", "4294967303", "9223372036854775807", "9223372036854775808",
		"18446744073709551616", "18446744073709551621", "99999999999",
		"Ä", "ä", "\u212a", "\u0130", "\u00a0a\u00a0", "\u3000a", "\u0665", "\uff15", "\xff", "\xc4\x80", "A\xffZ", "\x80\xe4\xb8",
	}
	for b := range 256 {
		one := string([]byte{byte(b)})
		texts = append(texts, one, one+"mid", "m"+one+"d", "mi"+one, " "+one+"\t")
	}
	for _, n := range []int{2, 10, 19, 20, 63, 64, 65, 66, 128, 999, 1000, 1001, 1002, 5000} {
		for _, piece := range []string{"a", "Z", "0", "7", "9", " ", "\t", "~", "@", "\x80", "\xff"} {
			texts = append(texts, strings.Repeat(piece, n))
		}
		texts = append(texts, " "+strings.Repeat("x", n-2)+"\t", strings.Repeat("A", n-1)+"\x00", strings.Repeat("0", n-1)+"7")
	}
	return texts
}

// randomTexts are the same ones each time: the seed is fixed.
func randomTexts(count int) []string {
	const alphabet = "aZ09 \t-=\"\\,/:@[`{\x00\x7f\x80\xff\n\r"
	source := rand.New(rand.NewSource(1))
	texts := make([]string, 0, count)
	for range count {
		text := make([]byte, source.Intn(12))
		for i := range text {
			text[i] = alphabet[source.Intn(len(alphabet))]
		}
		texts = append(texts, string(text))
	}
	return texts
}

func allTexts() []string {
	return append(edgeTexts(), randomTexts(3000)...)
}

func randomNumbers(count int) []int64 {
	source := rand.New(rand.NewSource(2))
	numbers := make([]int64, 0, count)
	for range count {
		numbers = append(numbers, int64(source.Uint64()>>source.Intn(64)))
	}
	return numbers
}

func shown(text string) string {
	if len(text) > 80 {
		return strconv.Quote(text[:40]) + ".. of " + strconv.Itoa(len(text)) + " bytes"
	}
	return strconv.Quote(text)
}

func isTime(n int64) bool {
	return n >= 0 && n <= impl.MaxTime
}

func TestConstants(t *testing.T) {
	codes := []int64{impl.OK, impl.ErrForm, impl.ErrMany, impl.ErrRange, impl.ErrNone, impl.ErrText, impl.ErrTaken, impl.ErrFull, impl.ErrState}
	for i, code := range codes {
		if code != int64(i) {
			t.Errorf("code %d is %d", i, code)
		}
	}
	if impl.MaxText != 1000 || impl.MaxWord != 64 || impl.MaxTime != 1000000000000000 || impl.MaxDelta != 2147483648 {
		t.Error("bounds")
	}
}

func TestIsWord(t *testing.T) {
	for _, text := range allTexts() {
		want := len(text) >= 1 && len(text) <= 64
		for i := range len(text) {
			want = want && strings.IndexByte(wordBytes, text[i]) >= 0
		}
		if got := impl.IsWord(text); got != want {
			t.Errorf("IsWord(%s) = %v, want %v", shown(text), got, want)
		}
	}
	rows := []struct {
		text string
		want bool
	}{
		{"", false}, {"max-age", true}, {"A", true}, {"0", true}, {wordBytes[:64], true}, {wordBytes[12:], true}, {wordBytes[:65], false},
		{strings.Repeat("a", 64), true}, {strings.Repeat("a", 65), false}, {strings.Repeat("a", 63) + "@", false},
		{"a b", false}, {"a\tb", false}, {"a=b", false}, {"a,b", false}, {"a`b", false}, {"a/b", false}, {"\"a\"", false}, {"ä", false},
		{"a\x80", false}, {"\xe1", false}, {"a\x00", false}, {"\x7f", false},
	}
	for _, row := range rows {
		if got := impl.IsWord(row.text); got != row.want {
			t.Errorf("IsWord(%s) = %v, want %v", shown(row.text), got, row.want)
		}
	}
}

func TestLowerText(t *testing.T) {
	for _, text := range allTexts() {
		want := impl.TextResult{Code: impl.ErrMany}
		if len(text) <= 1000 {
			want = impl.TextResult{}
			for i := range len(text) {
				b := text[i]
				if at := strings.IndexByte("ABCDEFGHIJKLMNOPQRSTUVWXYZ", b); at >= 0 {
					b = "abcdefghijklmnopqrstuvwxyz"[at]
				}
				want.Text += string([]byte{b})
			}
		}
		if got := impl.LowerText(text); got != want {
			t.Errorf("LowerText(%s) = %d %s", shown(text), got.Code, shown(got.Text))
		}
	}
	rows := []struct{ text, want string }{
		{"", ""}, {"A-b", "a-b"}, {"ABYZ", "abyz"}, {"@[`{", "@[`{"}, {"Ä\u212a\u0130", "Ä\u212a\u0130"}, {"\xc4\xff", "\xc4\xff"},
		{" A\t", " a\t"}, {strings.Repeat("Q", 1000), strings.Repeat("q", 1000)},
	}
	for _, row := range rows {
		if got := impl.LowerText(row.text); got.Code != impl.OK || got.Text != row.want {
			t.Errorf("LowerText(%s) = %d %s", shown(row.text), got.Code, shown(got.Text))
		}
	}
	if got := impl.LowerText(strings.Repeat("Q", 1001)); got != (impl.TextResult{Code: impl.ErrMany}) {
		t.Errorf("1001 bytes: %d %s", got.Code, shown(got.Text))
	}
}

func TestTrimText(t *testing.T) {
	for _, text := range allTexts() {
		want := impl.TextResult{Code: impl.ErrMany}
		if len(text) <= 1000 {
			rest := text
			for rest != "" && (rest[0] == 32 || rest[0] == 9) {
				rest = rest[1:]
			}
			for rest != "" && (rest[len(rest)-1] == 32 || rest[len(rest)-1] == 9) {
				rest = rest[:len(rest)-1]
			}
			want = impl.TextResult{Text: rest}
		}
		if got := impl.TrimText(text); got != want {
			t.Errorf("TrimText(%s) = %d %s", shown(text), got.Code, shown(got.Text))
		}
	}
	rows := []struct{ text, want string }{
		{"", ""}, {"a", "a"}, {" \ta ", "a"}, {"\t \ta \t b\t \t", "a \t b"}, {" ", ""}, {"\t", ""}, {" \t\t  ", ""}, {strings.Repeat("\t ", 500), ""},
		{"\n a\r", "\n a\r"}, {" \v a\f ", "\v a\f"}, {"\x00 ", "\x00"}, {" \u00a0 ", "\u00a0"}, {" \x85\xa0 ", "\x85\xa0"},
		{" " + strings.Repeat("x", 999), strings.Repeat("x", 999)},
	}
	for _, row := range rows {
		if got := impl.TrimText(row.text); got.Code != impl.OK || got.Text != row.want {
			t.Errorf("TrimText(%s) = %d %s", shown(row.text), got.Code, shown(got.Text))
		}
	}
	// Too long is asked of the text as it came, whatever is left of it.
	for _, text := range []string{strings.Repeat(" ", 1001), strings.Repeat("\t", 1000) + "a", " " + strings.Repeat("x", 1000)} {
		if got := impl.TrimText(text); got != (impl.TextResult{Code: impl.ErrMany}) {
			t.Errorf("TrimText(%s) = %d %s", shown(text), got.Code, shown(got.Text))
		}
	}
}

// checkTimes holds a sum or product against the same one without bounds, for all pairs of numbers.
func checkTimes(t *testing.T, name string, call func(int64, int64) impl.IntResult, exact func(a, b *big.Int) *big.Int, numbers []int64) {
	t.Helper()
	greatest := big.NewInt(impl.MaxTime)
	for _, a := range numbers {
		for _, b := range numbers {
			want := impl.IntResult{Code: impl.ErrRange}
			if isTime(a) && isTime(b) {
				value := exact(big.NewInt(a), big.NewInt(b))
				if value.Cmp(greatest) > 0 {
					value = greatest
				}
				want = impl.IntResult{Value: value.Int64()}
			}
			if got := call(a, b); got != want {
				t.Errorf("%s(%d, %d) = %v, want %v", name, a, b, got, want)
			}
		}
	}
}

func addExact(a, b *big.Int) *big.Int { return new(big.Int).Add(a, b) }

func mulExact(a, b *big.Int) *big.Int { return new(big.Int).Mul(a, b) }

type timeRow struct {
	a, b int64
	want impl.IntResult
}

func checkTimeRows(t *testing.T, name string, call func(int64, int64) impl.IntResult, rows []timeRow) {
	t.Helper()
	for _, row := range rows {
		if got := call(row.a, row.b); got != row.want {
			t.Errorf("%s(%d, %d) = %v, want %v", name, row.a, row.b, got, row.want)
		}
		if got := call(row.b, row.a); got != row.want {
			t.Errorf("%s(%d, %d) = %v, want %v", name, row.b, row.a, got, row.want)
		}
	}
}

func TestAddTime(t *testing.T) {
	checkTimes(t, "AddTime", impl.AddTime, addExact, edgeNumbers)
	checkTimes(t, "AddTime", impl.AddTime, addExact, randomNumbers(300))
	beyond := impl.IntResult{Code: impl.ErrRange}
	greatest := impl.IntResult{Value: impl.MaxTime}
	checkTimeRows(t, "AddTime", impl.AddTime, []timeRow{
		{0, 0, impl.IntResult{}}, {3, 4, impl.IntResult{Value: 7}},
		{impl.MaxTime - 2, 1, impl.IntResult{Value: impl.MaxTime - 1}}, {impl.MaxTime - 1, 1, greatest}, {impl.MaxTime - 1, 2, greatest},
		{impl.MaxTime, 0, greatest}, {impl.MaxTime, 1, greatest}, {impl.MaxTime, impl.MaxTime, greatest},
		{-1, 0, beyond}, {-1, 1, beyond}, {-1, impl.MaxTime, beyond}, {impl.MaxTime + 1, 0, beyond}, {impl.MaxTime + 1, -1, beyond},
		{math.MaxInt64, math.MaxInt64, beyond}, {math.MaxInt64, 1, beyond}, {math.MinInt64, math.MinInt64, beyond}, {math.MinInt64, math.MaxInt64, beyond},
	})
}

func TestMulTime(t *testing.T) {
	checkTimes(t, "MulTime", impl.MulTime, mulExact, edgeNumbers)
	checkTimes(t, "MulTime", impl.MulTime, mulExact, randomNumbers(300))
	beyond := impl.IntResult{Code: impl.ErrRange}
	greatest := impl.IntResult{Value: impl.MaxTime}
	checkTimeRows(t, "MulTime", impl.MulTime, []timeRow{
		{0, 0, impl.IntResult{}}, {6, 7, impl.IntResult{Value: 42}}, {0, impl.MaxTime, impl.IntResult{}}, {1, impl.MaxTime, greatest}, {2, impl.MaxTime, greatest},
		{1, impl.MaxTime - 1, impl.IntResult{Value: impl.MaxTime - 1}}, {1000000000, 1000000, greatest}, {1000000000, 1000001, greatest},
		{1000000000, 999999, impl.IntResult{Value: 999999000000000}}, {31622776, 31622776, impl.IntResult{Value: 999999961946176}}, {31622777, 31622777, greatest},
		{2, impl.MaxTime / 2, greatest}, {2, impl.MaxTime/2 - 1, impl.IntResult{Value: impl.MaxTime - 2}}, {3, impl.MaxTime / 3, impl.IntResult{Value: impl.MaxTime - 1}},
		// These products leave 0 or a small number, where they go round.
		{1 << 32, 1 << 32, greatest}, {1 << 40, 1 << 24, greatest}, {impl.MaxTime, impl.MaxTime, greatest},
		{-1, 0, beyond}, {-1, -1, beyond}, {0, impl.MaxTime + 1, beyond}, {0, math.MinInt64, beyond}, {-1, math.MinInt64, beyond}, {0, math.MaxInt64, beyond}, {math.MaxInt64, math.MaxInt64, beyond},
	})
}

func TestDeltaOf(t *testing.T) {
	greatest := big.NewInt(impl.MaxDelta)
	for _, text := range allTexts() {
		want := impl.IntResult{Code: impl.ErrText}
		if len(text) >= 1 && len(text) <= 64 && strings.Trim(text, "0123456789") == "" {
			value, _ := new(big.Int).SetString(text, 10)
			if value.Cmp(greatest) > 0 {
				value = greatest
			}
			want = impl.IntResult{Value: value.Int64()}
		}
		if got := impl.DeltaOf(text); got != want {
			t.Errorf("DeltaOf(%s) = %v, want %v", shown(text), got, want)
		}
	}
	rows := []struct {
		text string
		want impl.IntResult
	}{
		{"", impl.IntResult{Code: impl.ErrText}}, {"0", impl.IntResult{}}, {"007", impl.IntResult{Value: 7}}, {"120", impl.IntResult{Value: 120}},
		{strings.Repeat("0", 64), impl.IntResult{}}, {strings.Repeat("0", 65), impl.IntResult{Code: impl.ErrText}},
		{strings.Repeat("0", 63) + "7", impl.IntResult{Value: 7}}, {strings.Repeat("0", 64) + "7", impl.IntResult{Code: impl.ErrText}},
		{strings.Repeat("9", 64), impl.IntResult{Value: impl.MaxDelta}}, {strings.Repeat("9", 65), impl.IntResult{Code: impl.ErrText}},
		{"1" + strings.Repeat("0", 63), impl.IntResult{Value: impl.MaxDelta}}, {strings.Repeat("9", 63) + "x", impl.IntResult{Code: impl.ErrText}},
		{"2147483647", impl.IntResult{Value: impl.MaxDelta - 1}}, {"2147483648", impl.IntResult{Value: impl.MaxDelta}}, {"2147483649", impl.IntResult{Value: impl.MaxDelta}},
		{"4294967303", impl.IntResult{Value: impl.MaxDelta}}, {"18446744073709551623", impl.IntResult{Value: impl.MaxDelta}},
		{"-1", impl.IntResult{Code: impl.ErrText}}, {"+1", impl.IntResult{Code: impl.ErrText}}, {" 1", impl.IntResult{Code: impl.ErrText}}, {"1 ", impl.IntResult{Code: impl.ErrText}},
		{"1/", impl.IntResult{Code: impl.ErrText}}, {"1:", impl.IntResult{Code: impl.ErrText}}, {"x", impl.IntResult{Code: impl.ErrText}}, {"\u0665", impl.IntResult{Code: impl.ErrText}}, {"1\xb1", impl.IntResult{Code: impl.ErrText}},
	}
	for _, row := range rows {
		if got := impl.DeltaOf(row.text); got != row.want {
			t.Errorf("DeltaOf(%s) = %v, want %v", shown(row.text), got, row.want)
		}
	}
}

func TestNumberText(t *testing.T) {
	for _, n := range append(randomNumbers(3000), edgeNumbers...) {
		want := impl.TextResult{Code: impl.ErrRange}
		if isTime(n) {
			want = impl.TextResult{Text: big.NewInt(n).String()}
		}
		if got := impl.NumberText(n); got != want {
			t.Errorf("NumberText(%d) = %v, want %v", n, got, want)
		}
	}
	rows := []struct {
		n    int64
		want impl.TextResult
	}{
		{0, impl.TextResult{Text: "0"}}, {7, impl.TextResult{Text: "7"}}, {10, impl.TextResult{Text: "10"}}, {120, impl.TextResult{Text: "120"}},
		{impl.MaxTime - 1, impl.TextResult{Text: "999999999999999"}}, {impl.MaxTime, impl.TextResult{Text: "1000000000000000"}},
		{impl.MaxTime + 1, impl.TextResult{Code: impl.ErrRange}}, {-1, impl.TextResult{Code: impl.ErrRange}},
		{math.MinInt64, impl.TextResult{Code: impl.ErrRange}}, {math.MaxInt64, impl.TextResult{Code: impl.ErrRange}},
	}
	for _, row := range rows {
		if got := impl.NumberText(row.n); got != row.want {
			t.Errorf("NumberText(%d) = %v, want %v", row.n, got, row.want)
		}
	}
}

type textAnswers struct {
	word  bool
	lower impl.TextResult
	trim  impl.TextResult
	delta impl.IntResult
}

type numberAnswers struct {
	add  impl.IntResult
	mul  impl.IntResult
	text impl.TextResult
}

func askText(text string) textAnswers {
	return textAnswers{impl.IsWord(text), impl.LowerText(text), impl.TrimText(text), impl.DeltaOf(text)}
}

func askNumbers(a, b int64) numberAnswers {
	return numberAnswers{impl.AddTime(a, b), impl.MulTime(a, b), impl.NumberText(a)}
}

// Promise 1: asked again in another order, and of the same text at another place, every function tells the same.
func TestPromise1AnswersHangOnArgumentsAlone(t *testing.T) {
	texts := allTexts()
	first := make([]textAnswers, len(texts))
	for i, text := range texts {
		first[i] = askText(text)
	}
	for i := len(texts) - 1; i >= 0; i-- {
		if got := askText(strings.Clone(texts[i])); got != first[i] {
			t.Errorf("%s: %v, and then %v", shown(texts[i]), first[i], got)
		}
	}
	numbers := append(randomNumbers(50), edgeNumbers...)
	var told []numberAnswers
	for _, a := range numbers {
		for _, b := range numbers {
			told = append(told, askNumbers(a, b))
		}
	}
	for i := len(told) - 1; i >= 0; i-- {
		a, b := numbers[i/len(numbers)], numbers[i%len(numbers)]
		if got := askNumbers(a, b); got != told[i] {
			t.Errorf("%d and %d: %v, and then %v", a, b, told[i], got)
		}
	}
}

// Promise 1: beside a code all else is zero, and the codes are those that chapter 1 names.
func TestPromise1NothingBesideACode(t *testing.T) {
	for _, text := range allTexts() {
		got := askText(text)
		for _, r := range []impl.TextResult{got.lower, got.trim} {
			if r.Code != impl.OK && r != (impl.TextResult{Code: impl.ErrMany}) {
				t.Errorf("%s: %v", shown(text), r)
			}
		}
		if got.delta.Code != impl.OK && got.delta != (impl.IntResult{Code: impl.ErrText}) {
			t.Errorf("%s: %v", shown(text), got.delta)
		}
	}
	for _, a := range edgeNumbers {
		for _, b := range edgeNumbers {
			got := askNumbers(a, b)
			for _, r := range []impl.IntResult{got.add, got.mul} {
				if r.Code != impl.OK && r != (impl.IntResult{Code: impl.ErrRange}) {
					t.Errorf("%d and %d: %v", a, b, r)
				}
			}
			if got.text.Code != impl.OK && got.text != (impl.TextResult{Code: impl.ErrRange}) {
				t.Errorf("%d: %v", a, got.text)
			}
		}
	}
}

// shareMemory: some byte of a is the same byte in memory as one of b.
func shareMemory(a, b string) bool {
	if a == "" || b == "" {
		return false
	}
	beginA := uintptr(unsafe.Pointer(unsafe.StringData(a)))
	beginB := uintptr(unsafe.Pointer(unsafe.StringData(b)))
	return beginA < beginB+uintptr(len(b)) && beginB < beginA+uintptr(len(a))
}

// Promise 1: what is told is new memory, and the argument is as it was.
func TestPromise1NewMemory(t *testing.T) {
	for _, text := range allTexts() {
		// Texts of one byte stand once in the runtime, whoever makes them.
		if len(text) < 3 {
			continue
		}
		given := string([]byte(text))
		lower, trim := impl.LowerText(given), impl.TrimText(given)
		if len(lower.Text) > 1 && shareMemory(lower.Text, given) {
			t.Errorf("LowerText(%s) shares memory with it", shown(text))
		}
		if len(trim.Text) > 1 && shareMemory(trim.Text, given) {
			t.Errorf("TrimText(%s) shares memory with it", shown(text))
		}
		impl.IsWord(given)
		impl.DeltaOf(given)
		if given != text {
			t.Errorf("%s became %s", shown(text), shown(given))
		}
	}
}

// Promise 2: what was a word stays one, small letters stay small, and what was trimmed stays trimmed.
func TestPromise2WordsStayWords(t *testing.T) {
	for _, text := range allTexts() {
		lower, trim := impl.LowerText(text), impl.TrimText(text)
		if lower.Code != impl.OK {
			continue
		}
		if impl.IsWord(lower.Text) != impl.IsWord(text) || len(lower.Text) != len(text) {
			t.Errorf("%s in small letters is %s", shown(text), shown(lower.Text))
		}
		if again := impl.LowerText(lower.Text); again != lower {
			t.Errorf("%s in small letters is %s", shown(lower.Text), shown(again.Text))
		}
		if again := impl.TrimText(trim.Text); again != trim {
			t.Errorf("%s trimmed is %s", shown(trim.Text), shown(again.Text))
		}
		if impl.IsWord(text) && trim.Text != text {
			t.Errorf("the word %s trimmed is %s", shown(text), shown(trim.Text))
		}
	}
}

// Promise 2: sums and products of times are times, and never below what they were made of.
func TestPromise2TimesStayTimes(t *testing.T) {
	for _, a := range append(randomNumbers(200), edgeNumbers...) {
		for _, b := range edgeNumbers {
			add, mul := impl.AddTime(a, b), impl.MulTime(a, b)
			if !isTime(a) || !isTime(b) {
				if add.Code != impl.ErrRange || mul.Code != impl.ErrRange {
					t.Errorf("%d and %d are not both times: %v, %v", a, b, add, mul)
				}
				continue
			}
			if add.Code != impl.OK || !isTime(add.Value) || add.Value < max(a, b) {
				t.Errorf("%d and %d together: %v", a, b, add)
			}
			if mul.Code != impl.OK || !isTime(mul.Value) || min(a, b) > 0 && mul.Value < max(a, b) {
				t.Errorf("%d times %d: %v", a, b, mul)
			}
		}
	}
}

// Promise 2: a number is read back from its text up to the greatest delta, and stays there from then on.
func TestPromise2NumbersAreReadBack(t *testing.T) {
	for _, n := range append(randomNumbers(2000), edgeNumbers...) {
		text := impl.NumberText(n)
		if !isTime(n) {
			continue
		}
		want := impl.IntResult{Value: min(n, impl.MaxDelta)}
		for _, ahead := range []string{"", "0", strings.Repeat("0", 64-len(text.Text))} {
			if got := impl.DeltaOf(ahead + text.Text); got != want {
				t.Errorf("DeltaOf(%s) = %v, want %v", shown(ahead+text.Text), got, want)
			}
		}
		if !impl.IsWord(text.Text) {
			t.Errorf("%s is no word", shown(text.Text))
		}
	}
}
