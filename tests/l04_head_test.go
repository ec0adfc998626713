package tests

import (
	"math/rand"
	"regexp"
	"slices"
	"strings"
	"testing"

	"loop.example/g00665/impl"
)

// The signatures and the types as the document tells them.
var (
	_ func([]impl.Header) int64                              = impl.HeadersFault
	_ func([]impl.Header) impl.TextResult                    = impl.PackHeaders
	_ func(string) impl.HeadersResult                        = impl.ReadHeaders
	_ func([]impl.Header, string) impl.TextResult            = impl.JoinHeader
	_ func([]impl.Header, string, string) impl.HeadersResult = impl.SetHeader
	_ func([]impl.Header, string) impl.HeadersResult         = impl.DropHeader
	_ func([]impl.Header, []impl.Header) bool                = impl.SameHeaders

	_ = impl.Header{Name: "", Value: ""}
	_ = impl.HeadersResult{Code: int64(0), Headers: []impl.Header(nil)}
)

// The forms of chapter 4, told as patterns.
var (
	namePattern  = regexp.MustCompile("^" + wordForm + "$")
	valuePattern = regexp.MustCompile(`^(?:[!-~](?:[\t -~]*[!-~])?)?$`)
	linePattern  = regexp.MustCompile(`(?s)^([^:]*):[ \t]*(.*?)[ \t]*$`)
)

func head(name, value string) impl.Header {
	return impl.Header{Name: name, Value: value}
}

func sameLines(line impl.Header, count int) []impl.Header {
	return slices.Repeat([]impl.Header{line}, count)
}

func headsWanted(list []impl.Header) int64 {
	if len(list) > 20 {
		return impl.ErrMany
	}
	for _, line := range list {
		switch {
		case !namePattern.MatchString(line.Name):
			return impl.ErrText
		case len(line.Value) > 200:
			return impl.ErrMany
		case !valuePattern.MatchString(line.Value):
			return impl.ErrText
		}
	}
	return impl.OK
}

func packWanted(list []impl.Header) impl.TextResult {
	if code := headsWanted(list); code != impl.OK {
		return impl.TextResult{Code: code}
	}
	var text strings.Builder
	for _, line := range list {
		text.WriteString(strings.Join([]string{line.Name, line.Value + "\r\n"}, ": "))
	}
	return impl.TextResult{Text: text.String()}
}

func readWanted(text string) impl.HeadersResult {
	if len(text) > 6000 {
		return impl.HeadersResult{Code: impl.ErrMany}
	}
	lines := strings.Split(text, "\r\n")
	if lines[len(lines)-1] != "" {
		return impl.HeadersResult{Code: impl.ErrText}
	}
	var list []impl.Header
	for _, line := range lines[:len(lines)-1] {
		parts := linePattern.FindStringSubmatch(line)
		if parts == nil {
			return impl.HeadersResult{Code: impl.ErrText}
		}
		list = append(list, head(parts[1], parts[2]))
	}
	if code := headsWanted(list); code != impl.OK {
		return impl.HeadersResult{Code: code}
	}
	return impl.HeadersResult{Headers: list}
}

func namedWanted(list []impl.Header, name string) int64 {
	if code := headsWanted(list); code != impl.OK {
		return code
	}
	if !namePattern.MatchString(name) {
		return impl.ErrText
	}
	return impl.OK
}

// valuesOf: words have no letters beyond A to Z, so EqualFold is what the document calls alike.
func valuesOf(list []impl.Header, name string) []string {
	var values []string
	for _, line := range list {
		if strings.EqualFold(line.Name, name) {
			values = append(values, line.Value)
		}
	}
	return values
}

func othersOf(list []impl.Header, name string) []impl.Header {
	return slices.DeleteFunc(slices.Clone(list), func(line impl.Header) bool { return strings.EqualFold(line.Name, name) })
}

func joinWanted(list []impl.Header, name string) impl.TextResult {
	if code := namedWanted(list, name); code != impl.OK {
		return impl.TextResult{Code: code}
	}
	values := valuesOf(list, name)
	if len(values) == 0 {
		return impl.TextResult{Code: impl.ErrNone}
	}
	return impl.TextResult{Text: strings.Join(values, ", ")}
}

func dropWanted(list []impl.Header, name string) impl.HeadersResult {
	if code := namedWanted(list, name); code != impl.OK {
		return impl.HeadersResult{Code: code}
	}
	return impl.HeadersResult{Headers: othersOf(list, name)}
}

func setWanted(list []impl.Header, name, value string) impl.HeadersResult {
	if code := namedWanted(list, name); code != impl.OK {
		return impl.HeadersResult{Code: code}
	}
	if code := headsWanted([]impl.Header{head(name, value)}); code != impl.OK {
		return impl.HeadersResult{Code: code}
	}
	if len(valuesOf(list, name)) == 0 && len(list) == 20 {
		return impl.HeadersResult{Code: impl.ErrMany}
	}
	return impl.HeadersResult{Headers: setAmong(list, head(name, value))}
}

// setAmong sets a line among any number of lines.
func setAmong(list []impl.Header, line impl.Header) []impl.Header {
	at := slices.IndexFunc(list, func(other impl.Header) bool { return strings.EqualFold(other.Name, line.Name) })
	if at < 0 {
		return append(slices.Clone(list), line)
	}
	return slices.Concat(list[:at], []impl.Header{line}, othersOf(list[at:], line.Name))
}

func sameHeads(a, b impl.HeadersResult) bool {
	return a.Code == b.Code && slices.Equal(a.Headers, b.Headers)
}

// headNames: alike ones, ones that only seem so, words at their bounds, and wrong ones behind them.
var headNames = []string{
	"A", "a", "Age", "age", "AGE", "aGe", "Ages", "ag", "k", "K", "Set-Cookie", "set-cookie", "^", "~", "0",
	strings.Repeat("n", 64), strings.Repeat("N", 64), strings.Repeat("N", 63),
	"", " a", "a ", "a:", "a b", "\u212a", "\xe1", "a\n", "@", "`", strings.Repeat("n", 65),
}

const rightNames = 18

// headValues: right ones, and wrong ones behind them.
var headValues = []string{
	"", "x", "X", "a b", "a\tb", "a, b", "a:b", ":", ",", "~", "!", `"q, \"r\""`, strings.Repeat("v", 199), strings.Repeat("v", 200), "v" + strings.Repeat(" ", 198) + "w",
	" ", "\t", " x", "x ", "\tx", "x\t", "a\nb", "a\rb", "\r\n", "x\x00", "\x1f", "\x7f", "ä", "\xff", strings.Repeat("v", 201), strings.Repeat("\n", 201), strings.Repeat(" ", 200), strings.Repeat(" ", 201),
}

const rightValues = 15

// chosenHead has something wrong in it once in about so many times; never, where that is 0.
func chosenHead(source *rand.Rand, wrong int) impl.Header {
	names, values := rightNames, rightValues
	if wrong > 0 && source.Intn(wrong) == 0 {
		names, values = len(headNames), len(headValues)
	}
	return head(headNames[source.Intn(names)], headValues[source.Intn(values)])
}

func chosenHeads(source *rand.Rand, most, wrong int) []impl.Header {
	list := make([]impl.Header, source.Intn(most+1))
	for i := range list {
		list[i] = chosenHead(source, wrong)
	}
	return list
}

// manyHeads are lists of all lengths, right ones and wrong ones, the same ones each time.
func manyHeads(count int) [][]impl.Header {
	source := rand.New(rand.NewSource(6))
	lists := [][]impl.Header{nil, {}}
	for i := range count {
		lists = append(lists, chosenHeads(source, 22, []int{0, 0, 0, 40, 5}[i%5]))
	}
	return lists
}

// headTexts are texts of head lines, right ones and wrong ones, the same ones each time.
func headTexts() []string {
	texts := shortTexts("a: \r\n", 7)
	for _, text := range allTexts() {
		texts = append(texts, text, text+"\r\n", "a:"+text+"\r\n", text+":b\r\n", "a: "+text+"\t\r\nb:c\r\n")
	}
	for _, list := range manyHeads(3000) {
		text := ""
		for i, line := range list {
			text += line.Name + []string{":", ": ", ":\t ", ": ", ": "}[i%5] + line.Value + []string{"", " ", "\t", "", ""}[len(line.Value)%5] + "\r\n"
		}
		texts = append(texts, text)
	}
	return texts
}

func TestHeadersFault(t *testing.T) {
	if impl.MaxHeaders != 20 || impl.MaxValue != 200 {
		t.Error("bounds")
	}
	for _, list := range manyHeads(5000) {
		if got, want := impl.HeadersFault(list), headsWanted(list); got != want {
			t.Errorf("HeadersFault(%q) = %d, want %d", list, got, want)
		}
	}
	for i, name := range headNames {
		for j, value := range headValues {
			want := headsWanted([]impl.Header{head(name, value)})
			if (want == impl.OK) != (i < rightNames && j < rightValues) {
				t.Fatalf("%s and %s: the test itself is wrong", shown(name), shown(value))
			}
			if got := impl.HeadersFault([]impl.Header{head("a", "b"), head(name, value)}); got != want {
				t.Errorf("HeadersFault of %s and %s = %d, want %d", shown(name), shown(value), got, want)
			}
		}
	}
	long, wrong := head("a", strings.Repeat("v", 201)), head("a", "\n")
	rows := []struct {
		list []impl.Header
		want int64
	}{
		{nil, impl.OK}, {[]impl.Header{}, impl.OK}, {[]impl.Header{{}}, impl.ErrText}, {[]impl.Header{head("a", "")}, impl.OK}, {[]impl.Header{head("a", "b"), head("A", "b")}, impl.OK},
		{sameLines(head("a", "b"), 20), impl.OK}, {sameLines(head("a", "b"), 21), impl.ErrMany}, {sameLines(impl.Header{}, 21), impl.ErrMany}, {sameLines(impl.Header{}, 20), impl.ErrText}, {sameLines(wrong, 500), impl.ErrMany},
		{sameLines(head(strings.Repeat("n", 64), strings.Repeat("v", 200)), 20), impl.OK}, {append(sameLines(head("a", "b"), 19), wrong), impl.ErrText}, {append(sameLines(head("a", "b"), 19), long), impl.ErrMany},
		// One by one: what is wrong with the first one is told, whatever it is.
		{[]impl.Header{wrong, long}, impl.ErrText}, {[]impl.Header{long, wrong}, impl.ErrMany}, {[]impl.Header{long, {}}, impl.ErrMany}, {[]impl.Header{{}, long}, impl.ErrText},
		{[]impl.Header{head("", strings.Repeat("v", 201))}, impl.ErrText}, {[]impl.Header{head("a", strings.Repeat("\n", 201))}, impl.ErrMany}, {[]impl.Header{head("a", " "+strings.Repeat("v", 200))}, impl.ErrMany}, {[]impl.Header{head("a", " "+strings.Repeat("v", 199))}, impl.ErrText},
	}
	for i, row := range rows {
		if got := impl.HeadersFault(row.list); got != row.want {
			t.Errorf("%d: HeadersFault = %d, want %d", i, got, row.want)
		}
	}
	for b := range 256 {
		one := string([]byte{byte(b)})
		for _, line := range []impl.Header{head(one, "x"), head("n"+one, "x"), head("n", one), head("n", one+"x"), head("n", "x"+one), head("n", "x"+one+"x")} {
			if got, want := impl.HeadersFault([]impl.Header{line}), headsWanted([]impl.Header{line}); got != want {
				t.Errorf("HeadersFault(%q) = %d, want %d", line, got, want)
			}
		}
	}
}

func TestPackHeaders(t *testing.T) {
	for _, list := range manyHeads(5000) {
		if got, want := impl.PackHeaders(list), packWanted(list); got != want {
			t.Errorf("PackHeaders(%q) = %d %s, want %d %s", list, got.Code, shown(got.Text), want.Code, shown(want.Text))
		}
	}
	name, value := strings.Repeat("n", 64), strings.Repeat("v", 200)
	rows := []struct {
		list []impl.Header
		want impl.TextResult
	}{
		{nil, impl.TextResult{}}, {[]impl.Header{}, impl.TextResult{}}, {[]impl.Header{head("a", "")}, impl.TextResult{Text: "a: \r\n"}}, {[]impl.Header{head("a", ""), head("A", "")}, impl.TextResult{Text: "a: \r\nA: \r\n"}},
		{[]impl.Header{head("A", "b"), head("c", "d e"), head("a", "f:g")}, impl.TextResult{Text: "A: b\r\nc: d e\r\na: f:g\r\n"}},
		{sameLines(head(name, value), 20), impl.TextResult{Text: strings.Repeat(name+": "+value+"\r\n", 20)}}, {sameLines(head(name, value), 21), longText}, {[]impl.Header{head(name, value+"v")}, longText}, {[]impl.Header{head(name+"n", value)}, wrongText},
		{[]impl.Header{head("a", "b"), {}}, wrongText}, {[]impl.Header{head("a", "b\r\nc: d")}, wrongText}, {[]impl.Header{head("a", " b")}, wrongText}, {[]impl.Header{head("a:", "b")}, wrongText},
	}
	for i, row := range rows {
		if got := impl.PackHeaders(row.list); got != row.want {
			t.Errorf("%d: PackHeaders = %d %s, want %d %s", i, got.Code, shown(got.Text), row.want.Code, shown(row.want.Text))
		}
	}
}

func checkRead(t *testing.T, text string, want impl.HeadersResult) {
	t.Helper()
	if got := impl.ReadHeaders(text); !sameHeads(got, want) {
		t.Errorf("ReadHeaders(%s) = %d %q, want %d %q", shown(text), got.Code, got.Headers, want.Code, want.Headers)
	}
}

func TestReadHeaders(t *testing.T) {
	right := 0
	for _, text := range headTexts() {
		want := readWanted(text)
		checkRead(t, text, want)
		if want.Code == impl.OK && len(want.Headers) > 1 {
			right++
		}
	}
	if right < 1000 {
		t.Errorf("no more than %d texts were right", right)
	}
	wrong, many := impl.HeadersResult{Code: impl.ErrText}, impl.HeadersResult{Code: impl.ErrMany}
	told := func(list ...impl.Header) impl.HeadersResult { return impl.HeadersResult{Headers: list} }
	rows := []struct {
		text string
		want impl.HeadersResult
	}{
		{"", told()}, {"a: b\r\n", told(head("a", "b"))}, {"a:b\r\n", told(head("a", "b"))}, {"a: \t b c\t \r\n", told(head("a", "b c"))}, {"A: b\r\nc: d\r\na: e\r\n", told(head("A", "b"), head("c", "d"), head("a", "e"))},
		{"a:\r\n", told(head("a", ""))}, {"a: \r\n", told(head("a", ""))}, {"a: \t \r\nb:\r\n", told(head("a", ""), head("b", ""))}, {"a:b:c\r\n", told(head("a", "b:c"))}, {"a::\r\n", told(head("a", ":"))}, {"a: : \r\n", told(head("a", ":"))},
		{"a", wrong}, {"a: b", wrong}, {"a: b\n", wrong}, {"a: b\r", wrong}, {"a: b\n\r", wrong}, {"a: b\r\nc: d", wrong}, {"x\r\n", wrong}, {"a: b\r\nx\r\n", wrong}, {"\r\n", wrong}, {"\n", wrong}, {"\r", wrong}, {"\r\n\r\n", wrong},
		{"a: b\r\n\r\n", wrong}, {"\r\na: b\r\n", wrong}, {"a: b\r\n \r\n", wrong}, {" a: b\r\n", wrong}, {"a : b\r\n", wrong}, {"a\t: b\r\n", wrong}, {": b\r\n", wrong}, {":\r\n", wrong}, {"a b: c\r\n", wrong}, {"a\r\n: b\r\n", wrong},
		{"a: b\nc: d\r\n", wrong}, {"a: b\rc: d\r\n", wrong}, {"a: b\r\r\n", wrong}, {"a: b\n\r\n", wrong}, {"a: \n b\r\n", wrong}, {"a: \vb\r\n", wrong}, {"a: b\u00a0\r\n", wrong}, {"a: b\x00\r\n", wrong}, {"ä: b\r\n", wrong}, {"a: ä\r\n", wrong},
		{strings.Repeat("n", 64) + ": b\r\n", told(head(strings.Repeat("n", 64), "b"))}, {strings.Repeat("n", 65) + ": b\r\n", wrong},
		{"a:" + strings.Repeat("v", 200) + "\r\n", told(head("a", strings.Repeat("v", 200)))}, {"a:" + strings.Repeat("v", 201) + "\r\n", many}, {"a:" + strings.Repeat("\n", 201) + "\r\n", many}, {"a: " + strings.Repeat("v", 200) + "\t\r\n", told(head("a", strings.Repeat("v", 200)))},
		{strings.Repeat("a:\r\n", 20), told(sameLines(head("a", ""), 20)...)}, {strings.Repeat("a:\r\n", 21), many}, {strings.Repeat("a:\r\n", 1500), many}, {strings.Repeat("a:\r\n", 1501), many},
		// The fault of all of them is asked last: a line without a colon is told ahead of it.
		{strings.Repeat("a:\r\n", 21) + "b\r\n", wrong}, {strings.Repeat(":\r\n", 21), many}, {"a:" + strings.Repeat("v", 201) + "\r\nb\r\n", wrong}, {"a:" + strings.Repeat("v", 201) + "\r\n:\r\n", many}, {":\r\na:" + strings.Repeat("v", 201) + "\r\n", wrong},
		// So is a text that is not ended.
		{strings.Repeat("a:\r\n", 21) + "a:", wrong}, {strings.Repeat("a:\r\n", 21) + "a:\n", wrong}, {"a:" + strings.Repeat("v", 201), wrong}, {"a:" + strings.Repeat("v", 201) + "\n", wrong}, {"a:" + strings.Repeat("v", 201) + "\r", wrong},
		// Blanks at both ends do not count in a Value, as many as they are, but count in the text.
		{"a:" + strings.Repeat(" ", 1001) + "\r\n", told(head("a", ""))}, {"a:" + strings.Repeat(" ", 5995) + "b\r\n", told(head("a", "b"))}, {"a:b" + strings.Repeat("\t", 5995) + "\r\n", told(head("a", "b"))}, {"a:" + strings.Repeat(" ", 5996) + "b\r\n", many},
		{strings.Repeat("a", 5998) + "\r\n", wrong}, {strings.Repeat("a", 5999) + "\r\n", many}, {strings.Repeat("a", 6000), wrong}, {strings.Repeat("a", 6001), many}, {strings.Repeat("\r\n", 3000), wrong}, {strings.Repeat("\r\n", 3001), many},
	}
	for _, row := range rows {
		checkRead(t, row.text, row.want)
	}
}

func TestJoinHeader(t *testing.T) {
	for _, list := range manyHeads(1500) {
		for _, name := range headNames {
			if got, want := impl.JoinHeader(list, name), joinWanted(list, name); got != want {
				t.Errorf("JoinHeader(%q, %s) = %d %s, want %d %s", list, shown(name), got.Code, shown(got.Text), want.Code, shown(want.Text))
			}
		}
	}
	list := []impl.Header{head("A", "b"), head("c", "d"), head("a", "e"), head("Empty", ""), head("C", ""), head("~", "t"), head("^", "u")}
	none := impl.TextResult{Code: impl.ErrNone}
	rows := []struct {
		list []impl.Header
		name string
		want impl.TextResult
	}{
		{list, "a", impl.TextResult{Text: "b, e"}}, {list, "A", impl.TextResult{Text: "b, e"}}, {list, "c", impl.TextResult{Text: "d, "}}, {list, "EMPTY", impl.TextResult{}}, {list, "empt", none}, {list, "emptyy", none}, {list, "~", impl.TextResult{Text: "t"}}, {list, "^", impl.TextResult{Text: "u"}},
		{[]impl.Header{head("a", ""), head("A", "")}, "a", impl.TextResult{Text: ", "}}, {[]impl.Header{head("a", "b, c"), head("a", "d")}, "a", impl.TextResult{Text: "b, c, d"}}, {nil, "a", none}, {[]impl.Header{}, "a", none}, {[]impl.Header{head("k", "b")}, "\u212a", wrongText},
		{list, "", wrongText}, {list, "a ", wrongText}, {list, "a:", wrongText}, {nil, "", wrongText}, {list, strings.Repeat("a", 64), none}, {list, strings.Repeat("a", 65), wrongText}, {list, strings.Repeat("a", 1001), wrongText},
		{sameLines(head("a", strings.Repeat("v", 200)), 20), "A", impl.TextResult{Text: strings.Repeat(strings.Repeat("v", 200)+", ", 19) + strings.Repeat("v", 200)}}, {sameLines(head("a", "b"), 21), "a", longText}, {sameLines(head("a", "b"), 21), "", longText},
		{[]impl.Header{head("a", "b"), {}}, "a", wrongText}, {[]impl.Header{head("a", strings.Repeat("v", 201))}, "", longText}, {[]impl.Header{head("a", "b"), head("b", strings.Repeat("v", 201))}, "a", longText},
	}
	for i, row := range rows {
		if got := impl.JoinHeader(row.list, row.name); got != row.want {
			t.Errorf("%d: JoinHeader(%s) = %d %s, want %d %s", i, shown(row.name), got.Code, shown(got.Text), row.want.Code, shown(row.want.Text))
		}
	}
}

func TestSetHeader(t *testing.T) {
	source := rand.New(rand.NewSource(7))
	for _, list := range manyHeads(5000) {
		for range 5 {
			line := chosenHead(source, 3)
			if got, want := impl.SetHeader(list, line.Name, line.Value), setWanted(list, line.Name, line.Value); !sameHeads(got, want) {
				t.Errorf("SetHeader(%q, %q) = %d %q, want %d %q", list, line, got.Code, got.Headers, want.Code, want.Headers)
			}
		}
	}
	list := []impl.Header{head("x", "1"), head("A", "b"), head("c", "d"), head("a", "e"), head("y", "2")}
	full := append(sameLines(head("b", "c"), 19), head("D", "e"))
	long := strings.Repeat("v", 201)
	wrong, many := impl.HeadersResult{Code: impl.ErrText}, impl.HeadersResult{Code: impl.ErrMany}
	told := func(list ...impl.Header) impl.HeadersResult { return impl.HeadersResult{Headers: list} }
	rows := []struct {
		list        []impl.Header
		name, value string
		want        impl.HeadersResult
	}{
		// The line stands where the first one stood, with the name as it was given now.
		{list, "a", "z", told(head("x", "1"), head("a", "z"), head("c", "d"), head("y", "2"))}, {list, "C", "", told(head("x", "1"), head("A", "b"), head("C", ""), head("a", "e"), head("y", "2"))}, {list, "X", "3", told(head("X", "3"), head("A", "b"), head("c", "d"), head("a", "e"), head("y", "2"))},
		{list, "q", "z", told(append(slices.Clone(list), head("q", "z"))...)}, {nil, "q", "", told(head("q", ""))}, {[]impl.Header{}, "q", "z", told(head("q", "z"))}, {[]impl.Header{head("q", "z")}, "q", "z", told(head("q", "z"))},
		{full[:19], "q", "z", told(append(sameLines(head("b", "c"), 19), head("q", "z"))...)}, {full, "q", "z", many}, {full, "d", "z", told(append(sameLines(head("b", "c"), 19), head("d", "z"))...)}, {full, "B", "z", told(head("B", "z"), head("D", "e"))}, {sameLines(head("b", "c"), 20), "B", "", told(head("B", ""))},
		{list, "", "z", wrong}, {list, "a b", "z", wrong}, {list, strings.Repeat("n", 65), "z", wrong}, {list, "a", " z", wrong}, {list, "a", "z\t", wrong}, {list, "a", "\n", wrong}, {list, "q", " z", wrong}, {list, "a", long, many}, {list, "q", long[:200], told(append(slices.Clone(list), head("q", long[:200]))...)},
		// The fault of the list is told ahead of that of the name, that of the value behind both, and that there is no room last.
		{[]impl.Header{head("a", long)}, "", "z", many}, {[]impl.Header{head("a", long)}, "b", " ", many}, {[]impl.Header{{}}, "b", long, wrong}, {list, "", long, wrong}, {full, "", "z", wrong}, {full, "q", " z", wrong}, {append(slices.Clone(full), head("a", "b")), "", " z", many}, {append(slices.Clone(full), head("a", "b")), "a", "z", many},
	}
	for i, row := range rows {
		if got := impl.SetHeader(row.list, row.name, row.value); !sameHeads(got, row.want) {
			t.Errorf("%d: SetHeader(%s, %s) = %d %q, want %d %q", i, shown(row.name), shown(row.value), got.Code, got.Headers, row.want.Code, row.want.Headers)
		}
	}
}

func TestDropHeader(t *testing.T) {
	for _, list := range manyHeads(1500) {
		for _, name := range headNames {
			if got, want := impl.DropHeader(list, name), dropWanted(list, name); !sameHeads(got, want) {
				t.Errorf("DropHeader(%q, %s) = %d %q, want %d %q", list, shown(name), got.Code, got.Headers, want.Code, want.Headers)
			}
		}
	}
	list := []impl.Header{head("A", "b"), head("c", ""), head("a", "e"), head("C", "d"), head("A", "b")}
	wrong, many := impl.HeadersResult{Code: impl.ErrText}, impl.HeadersResult{Code: impl.ErrMany}
	rows := []struct {
		list []impl.Header
		name string
		want impl.HeadersResult
	}{
		{list, "a", impl.HeadersResult{Headers: []impl.Header{head("c", ""), head("C", "d")}}}, {list, "C", impl.HeadersResult{Headers: []impl.Header{head("A", "b"), head("a", "e"), head("A", "b")}}}, {list, "x", impl.HeadersResult{Headers: list}}, {list[:1], "A", impl.HeadersResult{}}, {nil, "a", impl.HeadersResult{}}, {[]impl.Header{}, "a", impl.HeadersResult{}},
		{sameLines(head("a", "b"), 20), "A", impl.HeadersResult{}}, {sameLines(head("a", "b"), 20), "b", impl.HeadersResult{Headers: sameLines(head("a", "b"), 20)}}, {sameLines(head("a", "b"), 21), "a", many}, {sameLines(head("a", "b"), 21), "", many}, {list, "", wrong}, {nil, "", wrong}, {list, "a:", wrong}, {list, strings.Repeat("n", 65), wrong},
		// What is wrong is told, even if it would go.
		{[]impl.Header{head("a", " b")}, "a", wrong}, {[]impl.Header{head("a", strings.Repeat("v", 201))}, "", many}, {[]impl.Header{head("a", "b"), {}}, "a", wrong},
	}
	for i, row := range rows {
		if got := impl.DropHeader(row.list, row.name); !sameHeads(got, row.want) {
			t.Errorf("%d: DropHeader(%s) = %d %q, want %d %q", i, shown(row.name), got.Code, got.Headers, row.want.Code, row.want.Headers)
		}
	}
}

func TestSameHeaders(t *testing.T) {
	a, b := head("a", "1"), head("b", "")
	rows := []struct {
		a, b []impl.Header
		want bool
	}{
		{nil, nil, true}, {nil, []impl.Header{}, true}, {[]impl.Header{}, []impl.Header{}, true}, {nil, []impl.Header{a}, false}, {nil, []impl.Header{{}}, false},
		{[]impl.Header{a, b}, []impl.Header{a, b}, true}, {[]impl.Header{a, b}, []impl.Header{b, a}, false}, {[]impl.Header{a, b}, []impl.Header{a}, false}, {[]impl.Header{a, a}, []impl.Header{a}, false},
		{[]impl.Header{head("A", "1")}, []impl.Header{a}, false}, {[]impl.Header{head("a", "B")}, []impl.Header{head("a", "b")}, false}, {[]impl.Header{head("a", "")}, []impl.Header{a}, false},
		// Asked of any: lines with faults and long lists, too.
		{[]impl.Header{head("", "\n")}, []impl.Header{head("", "\n")}, true}, {[]impl.Header{head("", "\n")}, []impl.Header{head("", "\r")}, false}, {[]impl.Header{head("a", "b ")}, []impl.Header{head("a", "b")}, false},
		{sameLines(a, 100), sameLines(a, 100), true}, {sameLines(a, 100), sameLines(a, 101), false}, {sameLines(a, 30), append(sameLines(a, 29), b), false},
	}
	for i, row := range rows {
		if impl.SameHeaders(row.a, row.b) != row.want || impl.SameHeaders(row.b, row.a) != row.want {
			t.Errorf("%d: SameHeaders(%q, %q) is not %v", i, row.a, row.b, row.want)
		}
	}
}

// Promise 5: head lines are read back from their text, and a text that was read is told the same from then on.
func TestPromise5HeadLinesAreReadBack(t *testing.T) {
	lists := append(manyHeads(5000), sameLines(head(strings.Repeat("n", 64), strings.Repeat("v", 200)), 20))
	read := 0
	for _, list := range lists {
		text := impl.PackHeaders(list)
		if text.Code != impl.OK {
			continue
		}
		read++
		if got := impl.ReadHeaders(text.Text); got.Code != impl.OK || !impl.SameHeaders(got.Headers, list) {
			t.Errorf("%q is read back from %s as %d %q", list, shown(text.Text), got.Code, got.Headers)
		}
	}
	if read < 2500 {
		t.Errorf("no more than %d lists had a text", read)
	}
	for _, text := range headTexts() {
		first := impl.ReadHeaders(text)
		if first.Code != impl.OK {
			continue
		}
		again := impl.PackHeaders(first.Headers)
		if second := impl.ReadHeaders(again.Text); again.Code != impl.OK || !sameHeads(first, second) {
			t.Errorf("%s: %q, and from %s: %d %q", shown(text), first.Headers, shown(again.Text), second.Code, second.Headers)
		}
	}
}

// checkOthers: each name that is not alike tells what it told ahead.
func checkOthers(t *testing.T, what string, before, after []impl.Header, name string) {
	t.Helper()
	for _, other := range headNames[:rightNames] {
		if strings.EqualFold(other, name) {
			continue
		}
		if got, want := impl.JoinHeader(after, other), impl.JoinHeader(before, other); got != want {
			t.Errorf("%s of %s in %q: %s tells %d %s, and told %d %s", what, shown(name), before, shown(other), got.Code, shown(got.Text), want.Code, shown(want.Text))
		}
	}
}

// Promise 5: what was set is found, however its name is written, and all else is as it was.
func TestPromise5WhatWasSetIsFound(t *testing.T) {
	source := rand.New(rand.NewSource(8))
	for range 3000 {
		list, line := chosenHeads(source, 19, 0), chosenHead(source, 0)
		set := impl.SetHeader(list, line.Name, line.Value)
		if set.Code != impl.OK || impl.HeadersFault(set.Headers) != impl.OK {
			t.Fatalf("SetHeader(%q, %q) = %d %q", list, line, set.Code, set.Headers)
		}
		for _, name := range []string{line.Name, strings.ToUpper(line.Name), strings.ToLower(line.Name)} {
			if got := impl.JoinHeader(set.Headers, name); got != (impl.TextResult{Text: line.Value}) {
				t.Errorf("%q was set in %q, and %s tells %d %s", line, list, shown(name), got.Code, shown(got.Text))
			}
		}
		if again := impl.SetHeader(set.Headers, line.Name, line.Value); !sameHeads(again, set) {
			t.Errorf("%q was set twice: %q, and then %d %q", line, set.Headers, again.Code, again.Headers)
		}
		checkOthers(t, "SetHeader", list, set.Headers, line.Name)
	}
}

// Promise 5: what was dropped is not found, however its name is written, and all else is as it was.
func TestPromise5WhatWasDroppedIsNotFound(t *testing.T) {
	source := rand.New(rand.NewSource(9))
	for range 3000 {
		list, line := chosenHeads(source, 20, 0), chosenHead(source, 0)
		dropped := impl.DropHeader(list, line.Name)
		if dropped.Code != impl.OK || impl.HeadersFault(dropped.Headers) != impl.OK {
			t.Fatalf("DropHeader(%q, %s) = %d %q", list, shown(line.Name), dropped.Code, dropped.Headers)
		}
		for _, name := range []string{line.Name, strings.ToUpper(line.Name), strings.ToLower(line.Name)} {
			if got := impl.JoinHeader(dropped.Headers, name); got != (impl.TextResult{Code: impl.ErrNone}) {
				t.Errorf("%s was dropped from %q, and %s tells %d %s", shown(line.Name), list, shown(name), got.Code, shown(got.Text))
			}
		}
		if again := impl.DropHeader(dropped.Headers, line.Name); !sameHeads(again, dropped) {
			t.Errorf("%s was dropped twice: %q, and then %d %q", shown(line.Name), dropped.Headers, again.Code, again.Headers)
		}
		if set := impl.SetHeader(dropped.Headers, line.Name, line.Value); set.Code == impl.OK && !sameHeads(impl.DropHeader(set.Headers, line.Name), dropped) {
			t.Errorf("%q was set and dropped again in %q", line, dropped.Headers)
		}
		checkOthers(t, "DropHeader", list, dropped.Headers, line.Name)
	}
}

type headAnswers struct {
	fault, again int64
	packed       impl.TextResult
	joined       impl.TextResult
	lists        [3]impl.HeadersResult
	same         bool
}

func askHeads(list []impl.Header, line impl.Header) headAnswers {
	packed := impl.PackHeaders(list)
	set, dropped := impl.SetHeader(list, line.Name, line.Value), impl.DropHeader(list, line.Name)
	return headAnswers{
		impl.HeadersFault(list), impl.HeadersFault([]impl.Header{line}), packed, impl.JoinHeader(list, line.Name),
		[3]impl.HeadersResult{impl.ReadHeaders(packed.Text + line.Value), set, dropped}, impl.SameHeaders(list, set.Headers),
	}
}

func (a headAnswers) equals(b headAnswers) bool {
	for i := range a.lists {
		if !sameHeads(a.lists[i], b.lists[i]) {
			return false
		}
	}
	return a.fault == b.fault && a.again == b.again && a.packed == b.packed && a.joined == b.joined && a.same == b.same
}

// Promise 1: asked again in another order the functions of chapter 4 tell the same, and beside a code nothing.
func TestPromise1HeadsHangOnArgumentsAlone(t *testing.T) {
	source := rand.New(rand.NewSource(10))
	lists := manyHeads(3000)
	lines := make([]impl.Header, len(lists))
	first := make([]headAnswers, len(lists))
	for i, list := range lists {
		lines[i] = chosenHead(source, 3)
		first[i] = askHeads(list, lines[i])
	}
	for i := len(lists) - 1; i >= 0; i-- {
		got := askHeads(slices.Clone(lists[i]), lines[i])
		if !got.equals(first[i]) {
			t.Errorf("%q and %q: %v, and then %v", lists[i], lines[i], first[i], got)
		}
		for _, r := range []impl.TextResult{got.packed, got.joined} {
			if r.Code != impl.OK && r.Text != "" {
				t.Errorf("%q and %q: the code %d and %s", lists[i], lines[i], r.Code, shown(r.Text))
			}
		}
		for _, r := range got.lists {
			if r.Code != impl.OK && len(r.Headers) != 0 {
				t.Errorf("%q and %q: the code %d and %q", lists[i], lines[i], r.Code, r.Headers)
			}
		}
	}
}

// Promise 1: lists that came in are left as they were, what stands behind them in memory, too.
func TestPromise1HeadListsAreLeftAsTheyWere(t *testing.T) {
	source := rand.New(rand.NewSource(11))
	for _, list := range manyHeads(3000) {
		line := chosenHead(source, 5)
		whole := append(slices.Clone(list), sameLines(head("behind", "kept"), 5)...)
		given, before := whole[:len(list)], slices.Clone(whole)
		answers := askHeads(given, line)
		if !slices.Equal(whole, before) {
			t.Fatalf("%q became %q", before, whole)
		}
		for i := range answers.lists {
			clear(answers.lists[i].Headers)
			_ = append(answers.lists[i].Headers, head("more", "told"))
		}
		if !slices.Equal(whole, before) {
			t.Fatalf("an answer shares its memory with %q", before)
		}
	}
}

// ownHead has a Name and a Value in memory of its own.
func ownHead(line impl.Header) impl.Header {
	return head(strings.Clone(line.Name), strings.Clone(line.Value))
}

// Promise 1: the texts that chapter 4 tells are new memory.
func TestPromise1HeadTextsAreNewMemory(t *testing.T) {
	source := rand.New(rand.NewSource(12))
	for range 500 {
		var list []impl.Header
		for _, line := range chosenHeads(source, 6, 0) {
			list = append(list, ownHead(line))
		}
		line, text := ownHead(chosenHead(source, 0)), impl.PackHeaders(list).Text
		given := []string{text, line.Name, line.Value}
		told := []string{impl.PackHeaders(list).Text, impl.JoinHeader(list, line.Name).Text, impl.JoinHeader(list, "age").Text}
		for _, answer := range [][]impl.Header{impl.ReadHeaders(text).Headers, impl.SetHeader(list, line.Name, line.Value).Headers, impl.DropHeader(list, line.Name).Headers} {
			for _, l := range answer {
				told = append(told, l.Name, l.Value)
			}
		}
		for _, l := range list {
			given = append(given, l.Name, l.Value)
		}
		for _, piece := range told {
			for _, argument := range given {
				if shareMemory(piece, argument) {
					t.Errorf("%s shares memory with %s", shown(piece), shown(argument))
				}
			}
		}
	}
}
