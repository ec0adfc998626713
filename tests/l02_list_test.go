package tests

import (
	"math/rand"
	"regexp"
	"slices"
	"strings"
	"testing"

	"loop.example/g00665/impl"
)

// The signatures and the types as the document tells them.
var (
	_ func(string) impl.TextResult             = impl.QuoteText
	_ func(string) impl.TextResult             = impl.UnquoteText
	_ func(impl.Item) int64                    = impl.ItemFault
	_ func(string) impl.ItemsResult            = impl.ParseItems
	_ func([]impl.Item) impl.TextResult        = impl.ItemsText
	_ func([]impl.Item, string) impl.IntResult = impl.FindItem
	_ func([]impl.Item, []impl.Item) bool      = impl.SameItems

	_ = impl.Item{Name: "", Has: false, Value: ""}
	_ = impl.ItemsResult{Code: int64(0), Items: []impl.Item(nil)}
)

var (
	longText  = impl.TextResult{Code: impl.ErrMany}
	wrongText = impl.TextResult{Code: impl.ErrText}
)

// The forms of chapter 2, told as patterns; a text that they are asked of has plain bytes alone.
const (
	wordForm   = "[a-zA-Z0-9!#$%&'*+.^_|~-]{1,64}"
	quotedForm = `"(?:[^"\\]|\\.)*"`
	itemForm   = wordForm + "(?:=(?:" + wordForm + "|" + quotedForm + "))?"
	pieceForm  = "[ \t]*(?:" + itemForm + ")?[ \t]*"
)

var (
	quotedPattern = regexp.MustCompile("^" + quotedForm + "$")
	itemsPattern  = regexp.MustCompile("^" + pieceForm + "(?:," + pieceForm + ")*$")
	itemPattern   = regexp.MustCompile(itemForm)
	escapePattern = regexp.MustCompile(`\\(.)`)
)

func plainText(text string) bool {
	for i := range len(text) {
		if text[i] != 9 && (text[i] < 32 || text[i] > 126) {
			return false
		}
	}
	return true
}

func innerOf(quoted string) string {
	return escapePattern.ReplaceAllString(quoted[1:len(quoted)-1], "$1")
}

func quoteWanted(text string) impl.TextResult {
	switch {
	case len(text) > 1000:
		return longText
	case !plainText(text):
		return wrongText
	}
	return impl.TextResult{Text: `"` + strings.NewReplacer(`\`, `\\`, `"`, `\"`).Replace(text) + `"`}
}

func unquoteWanted(text string) impl.TextResult {
	switch {
	case len(text) > 2002:
		return longText
	case !plainText(text) || !quotedPattern.MatchString(text):
		return wrongText
	}
	return impl.TextResult{Text: innerOf(text)}
}

func parseWanted(text string) impl.ItemsResult {
	if len(text) > 1000 {
		return impl.ItemsResult{Code: impl.ErrMany}
	}
	if !plainText(text) || !itemsPattern.MatchString(text) {
		return impl.ItemsResult{Code: impl.ErrText}
	}
	var items []impl.Item
	for _, piece := range itemPattern.FindAllString(text, -1) {
		name, value, has := strings.Cut(piece, "=")
		if strings.HasPrefix(value, `"`) {
			value = innerOf(value)
		}
		items = append(items, impl.Item{Name: name, Has: has, Value: value})
	}
	if len(items) > 20 {
		return impl.ItemsResult{Code: impl.ErrMany}
	}
	return impl.ItemsResult{Items: items}
}

// shortTexts are all texts of up to length bytes of the alphabet.
func shortTexts(alphabet string, length int) []string {
	texts := []string{""}
	for begin, n := 0, 0; n < length; n++ {
		end := len(texts)
		for _, text := range texts[begin:end] {
			for i := range len(alphabet) {
				texts = append(texts, text+alphabet[i:i+1])
			}
		}
		begin = end
	}
	return texts
}

// listTexts are texts of items, right ones and wrong ones, the same ones each time.
func listTexts(count int) []string {
	pieces := []string{
		"a", "max-age=5", "x=\"a,b\"", "e=\"\"", "Q=\"a\\\"b\"", "s=\"\\\\\"", "t=\"\\a\"", "n=\"=\"", "", " ", "\t", " \t b\t ", "c = d", "a=", "=a", "=", "a=b=c",
		"a==b", "a=\"b", "a=\"b\"c", "\"a\"", "a b", "\\", "a=\\\"", "a=b\"c\"", "a\"b\"", "a=\"b\\\"", "a=\"\n\"", "a\x00", "ä", "a=\"ä\"", "a=/", "~=|", "a=\"\t\"",
		strings.Repeat("w", 64), strings.Repeat("w", 65), "v=" + strings.Repeat("w", 64), "v=" + strings.Repeat("w", 65),
	}
	source := rand.New(rand.NewSource(3))
	texts := slices.Clone(pieces)
	for range count {
		var chosen []string
		// Most of the pieces ahead of the wrong ones, so that right lists are among them.
		reach := len(pieces)
		if source.Intn(2) == 0 {
			reach = 12
		}
		for range source.Intn(24) {
			chosen = append(chosen, pieces[source.Intn(reach)])
		}
		texts = append(texts, strings.Join(chosen, []string{",", ", ", " ,\t"}[source.Intn(3)]))
	}
	return texts
}

func itemTexts() []string {
	return slices.Concat(shortTexts("a=\"\\, \n", 6), shortTexts("a\"\\,", 8), listTexts(3000), allTexts())
}

func repeated(item impl.Item, count int) []impl.Item {
	list := make([]impl.Item, count)
	for i := range list {
		list[i] = item
	}
	return list
}

func valued(name, value string) impl.Item {
	return impl.Item{Name: name, Has: true, Value: value}
}

func checkParsed(t *testing.T, text string, want impl.ItemsResult) {
	t.Helper()
	if got := impl.ParseItems(text); got.Code != want.Code || !slices.Equal(got.Items, want.Items) {
		t.Errorf("ParseItems(%s) = %d %+v, want %d %+v", shown(text), got.Code, got.Items, want.Code, want.Items)
	}
}

func TestQuoteText(t *testing.T) {
	if impl.MaxItems != 20 {
		t.Error("MaxItems")
	}
	for _, text := range itemTexts() {
		if got, want := impl.QuoteText(text), quoteWanted(text); got != want {
			t.Errorf("QuoteText(%s) = %d %s, want %d %s", shown(text), got.Code, shown(got.Text), want.Code, shown(want.Text))
		}
	}
	rows := []struct {
		text string
		want impl.TextResult
	}{
		{"", impl.TextResult{Text: `""`}}, {"a b", impl.TextResult{Text: `"a b"`}}, {`"`, impl.TextResult{Text: `"\""`}}, {`\`, impl.TextResult{Text: `"\\"`}},
		{`a"b`, impl.TextResult{Text: `"a\"b"`}}, {`\"`, impl.TextResult{Text: `"\\\""`}}, {`"\`, impl.TextResult{Text: `"\"\\"`}}, {`a\\`, impl.TextResult{Text: `"a\\\\"`}},
		{"\t ~", impl.TextResult{Text: "\"\t ~\""}}, {"\b", wrongText}, {"\n", wrongText}, {"\x1f", wrongText}, {"\x7f", wrongText}, {"\x00", wrongText}, {"a\x80", wrongText}, {"ä", wrongText},
		{strings.Repeat("a", 1000), impl.TextResult{Text: `"` + strings.Repeat("a", 1000) + `"`}}, {strings.Repeat(`"`, 1000), impl.TextResult{Text: `"` + strings.Repeat(`\"`, 1000) + `"`}},
		{strings.Repeat("a", 1001), longText}, {strings.Repeat("\n", 1001), longText}, {strings.Repeat("a", 999) + "\n", wrongText},
	}
	for _, row := range rows {
		if got := impl.QuoteText(row.text); got != row.want {
			t.Errorf("QuoteText(%s) = %d %s", shown(row.text), got.Code, shown(got.Text))
		}
	}
}

func TestUnquoteText(t *testing.T) {
	for _, text := range itemTexts() {
		for _, quoted := range []string{text, `"` + text, `"` + text + `"`} {
			if got, want := impl.UnquoteText(quoted), unquoteWanted(quoted); got != want {
				t.Errorf("UnquoteText(%s) = %d %s, want %d %s", shown(quoted), got.Code, shown(got.Text), want.Code, shown(want.Text))
			}
		}
	}
	rows := []struct {
		text string
		want impl.TextResult
	}{
		{"", wrongText}, {`"`, wrongText}, {`""`, impl.TextResult{}}, {`"a"`, impl.TextResult{Text: "a"}}, {`"a`, wrongText}, {`a"`, wrongText}, {`a`, wrongText}, {` "a"`, wrongText},
		{`"a" `, wrongText}, {`"a"b`, wrongText}, {`"a"b"`, wrongText}, {`"""`, wrongText}, {`""""`, wrongText}, {`"a"\`, wrongText},
		{`"\"`, wrongText}, {`"\""`, impl.TextResult{Text: `"`}}, {`"\\"`, impl.TextResult{Text: `\`}}, {`"\\""`, wrongText}, {`"\\\"`, wrongText}, {`"\\\""`, impl.TextResult{Text: `\"`}}, {`"\`, wrongText},
		{`"\a\,\\b"`, impl.TextResult{Text: `a,\b`}}, {"\"\\\t\t\"", impl.TextResult{Text: "\t\t"}}, {"\"\\ ~\"", impl.TextResult{Text: " ~"}},
		{"\"\n\"", wrongText}, {"\"\\\n\"", wrongText}, {"\"\x08\"", wrongText}, {"\"\x1f\"", wrongText}, {"\"\x7f\"", wrongText}, {"\"\\\x7f\"", wrongText}, {"\"\x80\"", wrongText}, {"\"a\"\n", wrongText},
		{`"` + strings.Repeat("a", 2000) + `"`, impl.TextResult{Text: strings.Repeat("a", 2000)}}, {`"` + strings.Repeat("a", 2001) + `"`, longText},
		{`"` + strings.Repeat(`\"`, 1000) + `"`, impl.TextResult{Text: strings.Repeat(`"`, 1000)}}, {`"` + strings.Repeat(`\"`, 1000) + `a"`, longText},
		{strings.Repeat("a", 2002), wrongText}, {strings.Repeat("a", 2003), longText}, {`"` + strings.Repeat("\n", 2002), longText}, {`"` + strings.Repeat("a", 2001), wrongText},
	}
	for _, row := range rows {
		if got := impl.UnquoteText(row.text); got != row.want {
			t.Errorf("UnquoteText(%s) = %d %s", shown(row.text), got.Code, shown(got.Text))
		}
	}
}

func TestItemFault(t *testing.T) {
	rows := []struct {
		item impl.Item
		want int64
	}{
		{impl.Item{}, impl.ErrText}, {impl.Item{Name: "a"}, impl.OK}, {valued("a", ""), impl.OK}, {valued("a", "b"), impl.OK}, {valued("a", "b c\t\"\\,= ~"), impl.OK},
		{impl.Item{Name: "a", Value: "b"}, impl.ErrForm}, {impl.Item{Name: "a b", Value: "b"}, impl.ErrText}, {impl.Item{Has: true}, impl.ErrText}, {valued("a=", "b"), impl.ErrText}, {valued("ä", "b"), impl.ErrText},
		{impl.Item{Name: strings.Repeat("a", 64)}, impl.OK}, {impl.Item{Name: strings.Repeat("a", 65)}, impl.ErrText},
		{valued("a", strings.Repeat("b", 1000)), impl.OK}, {valued("a", strings.Repeat("b", 1001)), impl.ErrMany}, {valued("a", strings.Repeat("\n", 1001)), impl.ErrMany}, {valued("a", strings.Repeat("\n", 1000)), impl.ErrText},
		{impl.Item{Name: "a", Value: strings.Repeat("\n", 1001)}, impl.ErrForm}, {impl.Item{Name: "a", Value: "\n"}, impl.ErrForm}, {valued("", strings.Repeat("b", 1001)), impl.ErrText},
	}
	for _, row := range rows {
		if got := impl.ItemFault(row.item); got != row.want {
			t.Errorf("ItemFault(%s, %v, %s) = %d, want %d", shown(row.item.Name), row.item.Has, shown(row.item.Value), got, row.want)
		}
	}
	for b := range 256 {
		value := "a" + string([]byte{byte(b)})
		want := int64(impl.OK)
		if !plainText(value) {
			want = impl.ErrText
		}
		if got := impl.ItemFault(valued("n", value)); got != want {
			t.Errorf("ItemFault of the value %q = %d, want %d", value, got, want)
		}
		if got := impl.ItemFault(valued(value, "v")); (got == impl.OK) != impl.IsWord(value) {
			t.Errorf("ItemFault of the name %q = %d", value, got)
		}
	}
}

func TestParseItems(t *testing.T) {
	for _, text := range itemTexts() {
		checkParsed(t, text, parseWanted(text))
	}
	wrong := impl.ItemsResult{Code: impl.ErrText}
	many := impl.ItemsResult{Code: impl.ErrMany}
	rows := []struct {
		text string
		want impl.ItemsResult
	}{
		{"", impl.ItemsResult{}}, {" ", impl.ItemsResult{}}, {",", impl.ItemsResult{}}, {" ,\t, ,", impl.ItemsResult{}}, {strings.Repeat(",", 1000), impl.ItemsResult{}}, {strings.Repeat(",", 1001), many},
		{"a", impl.ItemsResult{Items: []impl.Item{{Name: "a"}}}}, {",a,", impl.ItemsResult{Items: []impl.Item{{Name: "a"}}}}, {"A , \t b=c\t", impl.ItemsResult{Items: []impl.Item{{Name: "A"}, valued("b", "c")}}},
		{`max-age=5, , x="a,b"`, impl.ItemsResult{Items: []impl.Item{valued("max-age", "5"), valued("x", "a,b")}}},
		{`a="",b`, impl.ItemsResult{Items: []impl.Item{valued("a", ""), {Name: "b"}}}}, {`a=" b\"c, d",e`, impl.ItemsResult{Items: []impl.Item{valued("a", ` b"c, d`), {Name: "e"}}}},
		{`a="\\",b="\,"`, impl.ItemsResult{Items: []impl.Item{valued("a", `\`), valued("b", ",")}}}, {`a="b=c"`, impl.ItemsResult{Items: []impl.Item{valued("a", "b=c")}}},
		{`a,a=1,a`, impl.ItemsResult{Items: []impl.Item{{Name: "a"}, valued("a", "1"), {Name: "a"}}}},
		{"a=", wrong}, {"=a", wrong}, {"=", wrong}, {"a=b=c", wrong}, {"a==", wrong}, {"a b", wrong}, {"a =b", wrong}, {"a= b", wrong}, {`a="b" c`, wrong}, {`a="b"c`, wrong}, {`"a"`, wrong}, {`"a"=b`, wrong},
		{`a="b`, wrong}, {`a="b,c`, wrong}, {`a="b\",c`, wrong}, {`a="b\"`, wrong}, {`a"b,c"`, wrong}, {"a=b\n", wrong}, {"\na", wrong}, {"a=\"\x7f\"", wrong}, {"a=/", wrong}, {"a=ä", wrong}, {"a;b", wrong},
		{strings.Repeat("a", 65), wrong}, {"a=" + strings.Repeat("b", 65), wrong}, {"a=\"" + strings.Repeat("b", 65) + "\"", impl.ItemsResult{Items: []impl.Item{valued("a", strings.Repeat("b", 65))}}},
		{"a=\"" + strings.Repeat("b", 996) + "\"", impl.ItemsResult{Items: []impl.Item{valued("a", strings.Repeat("b", 996))}}}, {"a=\"" + strings.Repeat("b", 997) + "\"", many}, {strings.Repeat("\n", 1001), many}, {strings.Repeat(" ", 1001), many},
		{strings.Repeat("a,", 20), impl.ItemsResult{Items: repeated(impl.Item{Name: "a"}, 20)}}, {strings.Repeat("a,,", 20), impl.ItemsResult{Items: repeated(impl.Item{Name: "a"}, 20)}},
		{strings.Repeat("a,", 21), many}, {strings.Repeat("a,", 500), many}, {strings.Repeat("a,", 21) + "b=", wrong}, {strings.Repeat("a,", 30) + "/", wrong}, {strings.Repeat("a,", 21) + "\"", wrong},
	}
	for _, row := range rows {
		checkParsed(t, row.text, row.want)
	}
}

func TestItemsText(t *testing.T) {
	item := impl.Item{Name: "a"}
	// Twelve items of 75 bytes and what stands between them are 922 bytes.
	wide := repeated(valued(strings.Repeat("n", 64), strings.Repeat("v", 10)), 12)
	rows := []struct {
		list []impl.Item
		want impl.TextResult
	}{
		{nil, impl.TextResult{}}, {[]impl.Item{}, impl.TextResult{}}, {[]impl.Item{item}, impl.TextResult{Text: "a"}}, {[]impl.Item{item, item}, impl.TextResult{Text: "a, a"}},
		{[]impl.Item{valued("max-age", "5"), valued("x", "a,b")}, impl.TextResult{Text: `max-age=5, x="a,b"`}}, {[]impl.Item{valued("a", ""), {Name: "B"}, valued("c", `"\`)}, impl.TextResult{Text: `a="", B, c="\"\\"`}},
		{[]impl.Item{valued("a", strings.Repeat("b", 64))}, impl.TextResult{Text: "a=" + strings.Repeat("b", 64)}}, {[]impl.Item{valued("a", strings.Repeat("b", 65))}, impl.TextResult{Text: `a="` + strings.Repeat("b", 65) + `"`}},
		{[]impl.Item{valued("a", "\t ")}, impl.TextResult{Text: "a=\"\t \""}},
		{repeated(item, 20), impl.TextResult{Text: strings.Repeat("a, ", 19) + "a"}}, {repeated(item, 21), longText}, {repeated(impl.Item{}, 21), longText}, {repeated(impl.Item{}, 20), wrongText},
		{[]impl.Item{item, {}}, wrongText}, {[]impl.Item{item, {Name: "b", Value: "c"}, {}}, impl.TextResult{Code: impl.ErrForm}}, {[]impl.Item{{}, {Name: "b", Value: "c"}}, wrongText},
		{[]impl.Item{valued("a", "\n"), valued("b", strings.Repeat("c", 1001))}, wrongText}, {[]impl.Item{valued("b", strings.Repeat("c", 1001)), valued("a", "\n")}, longText},
		{[]impl.Item{valued("a", strings.Repeat("b", 996))}, impl.TextResult{Text: `a="` + strings.Repeat("b", 996) + `"`}}, {[]impl.Item{valued("a", strings.Repeat("b", 997))}, longText},
		{[]impl.Item{valued("a", strings.Repeat(`\`, 498))}, impl.TextResult{Text: `a="` + strings.Repeat(`\\`, 498) + `"`}}, {[]impl.Item{valued("a", strings.Repeat(`\`, 498)+"b")}, longText},
		{append(slices.Clone(wide), valued("a", strings.Repeat("b", 72))), impl.TextResult{Text: strings.Repeat(strings.Repeat("n", 64)+"="+strings.Repeat("v", 10)+", ", 12) + `a="` + strings.Repeat("b", 72) + `"`}},
		{append(slices.Clone(wide), valued("a", strings.Repeat("b", 73))), longText},
		// Too long is asked when there is no fault: a fault behind is told all the same.
		{[]impl.Item{valued("a", strings.Repeat("b", 1000)), {Name: "b", Value: "c"}}, impl.TextResult{Code: impl.ErrForm}},
	}
	for i, row := range rows {
		given := slices.Clone(row.list)
		if got := impl.ItemsText(row.list); got != row.want {
			t.Errorf("%d: ItemsText = %d %s, want %d %s", i, got.Code, shown(got.Text), row.want.Code, shown(row.want.Text))
		}
		if !slices.Equal(given, row.list) {
			t.Errorf("%d: the list became %+v", i, row.list)
		}
	}
}

func TestFindItem(t *testing.T) {
	list := []impl.Item{{Name: "b"}, valued("Max-Age", "1"), valued("max-age", "2"), {Name: "k"}, {}, {Name: "a b"}, {Name: "[x"}, {Name: strings.Repeat("x", 2000)}, {Name: "{y"}, {Name: "last"}}
	full := append(repeated(impl.Item{Name: "b"}, 19), impl.Item{Name: "c"})
	rows := []struct {
		list []impl.Item
		name string
		want impl.IntResult
	}{
		{list, "b", impl.IntResult{}}, {list, "B", impl.IntResult{}}, {list, "max-age", impl.IntResult{Value: 1}}, {list, "MAX-AGE", impl.IntResult{Value: 1}}, {list[2:], "Max-Age", impl.IntResult{}}, {list, "LAST", impl.IntResult{Value: 9}},
		{list, "max", impl.IntResult{Code: impl.ErrNone}}, {list, "max-ages", impl.IntResult{Code: impl.ErrNone}}, {list, "x", impl.IntResult{Code: impl.ErrNone}}, {list, strings.Repeat("x", 64), impl.IntResult{Code: impl.ErrNone}},
		{list, "", impl.IntResult{Code: impl.ErrText}}, {list, "a b", impl.IntResult{Code: impl.ErrText}}, {list, "{x", impl.IntResult{Code: impl.ErrText}}, {list, strings.Repeat("x", 65), impl.IntResult{Code: impl.ErrText}}, {list, "\u212a", impl.IntResult{Code: impl.ErrText}},
		{nil, "a", impl.IntResult{Code: impl.ErrNone}}, {[]impl.Item{}, "a", impl.IntResult{Code: impl.ErrNone}}, {nil, "", impl.IntResult{Code: impl.ErrText}},
		{full, "C", impl.IntResult{Value: 19}}, {append(full, impl.Item{Name: "d"}), "b", impl.IntResult{Code: impl.ErrMany}}, {append(full, impl.Item{Name: "d"}), "", impl.IntResult{Code: impl.ErrMany}},
		{[]impl.Item{{Name: "\u212a"}, {Name: "~"}, {Name: "^"}}, "k", impl.IntResult{Code: impl.ErrNone}}, {[]impl.Item{{Name: "~"}, {Name: "^"}}, "^", impl.IntResult{Value: 1}}, {[]impl.Item{{Name: "@"}, {Name: "\x00"}}, "`", impl.IntResult{Code: impl.ErrText}},
	}
	for _, row := range rows {
		given := slices.Clone(row.list)
		if got := impl.FindItem(row.list, row.name); got != row.want {
			t.Errorf("FindItem(%s) = %v, want %v", shown(row.name), got, row.want)
		}
		if !slices.Equal(given, row.list) {
			t.Errorf("the list became %+v", row.list)
		}
	}
	for _, a := range shortTexts("aAzZ^~_.", 2)[1:] {
		for _, b := range shortTexts("aAzZ^~_.", 2)[1:] {
			want := impl.IntResult{Code: impl.ErrNone}
			if strings.EqualFold(a, b) {
				want = impl.IntResult{Value: 1}
			}
			if got := impl.FindItem([]impl.Item{{Name: "-"}, {Name: a}}, b); got != want {
				t.Errorf("FindItem(%s) in %s = %v, want %v", b, a, got, want)
			}
		}
	}
}

func TestSameItems(t *testing.T) {
	a, b := valued("a", "1"), impl.Item{Name: "b"}
	rows := []struct {
		a, b []impl.Item
		want bool
	}{
		{nil, nil, true}, {nil, []impl.Item{}, true}, {[]impl.Item{}, []impl.Item{}, true}, {nil, []impl.Item{a}, false}, {nil, []impl.Item{{}}, false},
		{[]impl.Item{a, b}, []impl.Item{a, b}, true}, {[]impl.Item{a, b}, []impl.Item{b, a}, false}, {[]impl.Item{a, b}, []impl.Item{a}, false}, {[]impl.Item{a, a}, []impl.Item{a}, false},
		{[]impl.Item{{Name: "A"}}, []impl.Item{{Name: "a"}}, false}, {[]impl.Item{{Name: "a"}}, []impl.Item{valued("a", "")}, false}, {[]impl.Item{valued("a", "1")}, []impl.Item{valued("a", "2")}, false}, {[]impl.Item{valued("a", "B")}, []impl.Item{valued("a", "b")}, false},
		// Asked of any: items with faults and long lists, too.
		{[]impl.Item{{Value: "\n"}}, []impl.Item{{Value: "\n"}}, true}, {[]impl.Item{{Value: "\n"}}, []impl.Item{{Value: "\r"}}, false},
		{repeated(a, 100), repeated(a, 100), true}, {repeated(a, 100), repeated(a, 101), false}, {repeated(a, 30), append(repeated(a, 29), b), false},
	}
	for i, row := range rows {
		if impl.SameItems(row.a, row.b) != row.want || impl.SameItems(row.b, row.a) != row.want {
			t.Errorf("%d: SameItems(%+v, %+v) is not %v", i, row.a, row.b, row.want)
		}
	}
}

// Promise 3: what was quoted is read back from its text.
func TestPromise3QuotedIsReadBack(t *testing.T) {
	for _, text := range itemTexts() {
		quoted := impl.QuoteText(text)
		if quoted.Code != impl.OK {
			continue
		}
		if got := impl.UnquoteText(quoted.Text); got != (impl.TextResult{Text: text}) {
			t.Errorf("%s is read back from %s as %d %s", shown(text), shown(quoted.Text), got.Code, shown(got.Text))
		}
	}
	greatest := impl.QuoteText(strings.Repeat(`\`, 1000))
	if got := impl.UnquoteText(greatest.Text); len(greatest.Text) != 2002 || got.Text != strings.Repeat(`\`, 1000) {
		t.Errorf("the longest one is read back as %d %s", got.Code, shown(got.Text))
	}
}

// randomItems are right items: words and others as values, none, and empty ones.
func randomItems(source *rand.Rand) []impl.Item {
	values := []string{"", "5", "a,b", `"`, `\`, `\"`, `",`, " ", "\t x ", "=", "a=b", `,\`, strings.Repeat("w", 64), strings.Repeat("w", 65), "~", "/"}
	list := make([]impl.Item, source.Intn(22))
	for i := range list {
		list[i].Name = []string{"a", "A", "max-age", wordBytes[:64], "~"}[source.Intn(5)]
		if source.Intn(3) > 0 {
			list[i].Has, list[i].Value = true, values[source.Intn(len(values))]
		}
	}
	return list
}

// Promise 3: items are read back from their text, and texts of items are told the same again.
func TestPromise3ItemsAreReadBack(t *testing.T) {
	source := rand.New(rand.NewSource(4))
	read := 0
	for range 5000 {
		list := randomItems(source)
		text := impl.ItemsText(list)
		if text.Code != impl.OK {
			continue
		}
		read++
		if got := impl.ParseItems(text.Text); got.Code != impl.OK || !impl.SameItems(got.Items, list) {
			t.Errorf("%+v is read back from %s as %d %+v", list, shown(text.Text), got.Code, got.Items)
		}
	}
	if read < 2000 {
		t.Errorf("no more than %d lists had a text", read)
	}
	for _, text := range itemTexts() {
		first := impl.ParseItems(text)
		again := impl.ItemsText(first.Items)
		if first.Code != impl.OK || again.Code != impl.OK {
			continue
		}
		if second := impl.ParseItems(again.Text); second.Code != impl.OK || !impl.SameItems(first.Items, second.Items) {
			t.Errorf("%s: %+v, and from %s: %d %+v", shown(text), first.Items, shown(again.Text), second.Code, second.Items)
		}
	}
}

type listAnswers struct {
	quoted, unquoted, text impl.TextResult
	parsed                 impl.ItemsResult
	found                  impl.IntResult
	fault                  int64
}

func askList(text string) listAnswers {
	parsed := impl.ParseItems(text)
	item := impl.Item{Name: text, Has: true, Value: text}
	return listAnswers{impl.QuoteText(text), impl.UnquoteText(text), impl.ItemsText(parsed.Items), parsed, impl.FindItem(parsed.Items, text), impl.ItemFault(item)}
}

func (a listAnswers) same(b listAnswers) bool {
	return a.quoted == b.quoted && a.unquoted == b.unquoted && a.text == b.text && a.found == b.found && a.fault == b.fault &&
		a.parsed.Code == b.parsed.Code && slices.Equal(a.parsed.Items, b.parsed.Items)
}

// Promise 1: asked again in another order the functions of chapter 2 tell the same, and beside a code nothing.
func TestPromise1ListsHangOnArgumentsAlone(t *testing.T) {
	texts := append(listTexts(1000), allTexts()...)
	first := make([]listAnswers, len(texts))
	for i, text := range texts {
		first[i] = askList(text)
	}
	for i := len(texts) - 1; i >= 0; i-- {
		got := askList(strings.Clone(texts[i]))
		if !got.same(first[i]) {
			t.Errorf("%s: %v, and then %v", shown(texts[i]), first[i], got)
		}
		for _, r := range []impl.TextResult{got.quoted, got.unquoted, got.text} {
			if r.Code != impl.OK && r.Text != "" {
				t.Errorf("%s: the code %d and %s", shown(texts[i]), r.Code, shown(r.Text))
			}
		}
		if got.parsed.Code != impl.OK && len(got.parsed.Items) != 0 || got.found.Code != impl.OK && got.found.Value != 0 {
			t.Errorf("%s: %v, %v", shown(texts[i]), got.parsed, got.found)
		}
	}
}

// Promise 1: what chapter 2 tells is new memory, and the arguments are as they were.
func TestPromise1ListsAreNewMemory(t *testing.T) {
	// Texts of one byte stand once in the runtime, whoever makes them.
	for _, text := range append(listTexts(1000), allTexts()...) {
		given := string([]byte(text))
		told := []string{impl.QuoteText(given).Text, impl.UnquoteText(given).Text}
		for _, item := range impl.ParseItems(given).Items {
			told = append(told, item.Name, item.Value)
		}
		for _, piece := range told {
			if len(piece) > 1 && shareMemory(piece, given) {
				t.Errorf("%s shares memory with %s", shown(piece), shown(given))
			}
		}
		if given != text {
			t.Errorf("%s became %s", shown(text), shown(given))
		}
	}
	for _, list := range [][]impl.Item{{{Name: "name"}}, {valued("name", "value")}, {valued("name", "a value")}, {{Name: "name"}, {Name: "other"}}} {
		text := impl.ItemsText(list).Text
		for _, item := range list {
			if shareMemory(text, item.Name) || shareMemory(text, item.Value) {
				t.Errorf("%s shares memory with an item", text)
			}
		}
	}
	first, second := impl.ParseItems("one, two=2"), impl.ParseItems("one, two=2")
	first.Items[0].Name = "gone"
	if second.Items[0].Name != "one" || impl.ParseItems("one, two=2").Items[0].Name != "one" {
		t.Error("two answers share their items")
	}
}
