package tests

import (
	"fmt"
	"math"
	"math/big"
	"math/rand"
	"regexp"
	"slices"
	"strings"
	"testing"

	"loop.example/g00665/impl"
)

// The signatures and the types as the document tells them.
var (
	_ func([]impl.Header) impl.PolicyResult          = impl.PolicyOf
	_ func(impl.Policy) int64                        = impl.PolicyFault
	_ func(impl.Policy, int64, int64) impl.IntResult = impl.StoreLife
	_ func([]impl.Header) impl.TextResult            = impl.EtagOf
	_ func([]impl.Header, []string) bool             = impl.VaryFits
	_ func([]impl.Header) impl.NamesResult           = impl.TagsOf
	_ func([]string, string) bool                    = impl.IsTagged

	_ = impl.Policy{NoStore: false, NoCache: false, Must: false, Life: int64(0), Swr: int64(0), Sie: int64(0), Age: int64(0)}
	_ = impl.PolicyResult{Code: int64(0), Policy: impl.Policy{}}
	_ = impl.NamesResult{Code: int64(0), Names: []string(nil)}
)

var (
	digitsPattern = regexp.MustCompile(`\A[0-9]{1,64}\z`)
	tagPattern    = regexp.MustCompile(`[^ ]+`)
	noneFound     = impl.IntResult{Code: impl.ErrNone}
)

const (
	greatestDelta = 2147483648000
	dateAt5       = "Thu, 01 Jan 1970 00:00:05 GMT"
	dateAt9       = "Thu, 01 Jan 1970 00:00:09 GMT"
	firstDate     = "Thu, 01 Jan 1970 00:00:00 GMT"
	lastDate      = "Fri, 31 Dec 9999 23:59:59 GMT"
)

func cache(text string) []impl.Header {
	return []impl.Header{head("Cache-Control", text)}
}

// untold is a policy whose Life is not told.
func untold() impl.Policy {
	return impl.Policy{Life: impl.NotTold}
}

func spanWanted(text string) int64 {
	if !digitsPattern.MatchString(text) {
		return 0
	}
	number, _ := new(big.Int).SetString(text, 10)
	if number.Cmp(big.NewInt(2147483648)) > 0 {
		return greatestDelta
	}
	return number.Int64() * 1000
}

// itemWanted tells whether there is an item of one of the names, and the span of the first item of the first such name.
func itemWanted(items []impl.Item, names ...string) (bool, int64) {
	for _, name := range names {
		for _, item := range items {
			if strings.EqualFold(item.Name, name) {
				return true, spanWanted(item.Value)
			}
		}
	}
	return false, 0
}

func datesWanted(list []impl.Header) int64 {
	expires, dates := valuesOf(list, "expires"), valuesOf(list, "date")
	if len(expires) == 0 {
		return -1
	}
	if len(dates) == 0 {
		return 0
	}
	begin, end := calendarParsed(dates[0]), calendarParsed(expires[0])
	if begin.Code != impl.OK || end.Code != impl.OK {
		return 0
	}
	return max(0, end.Value-begin.Value) * 1000
}

func policyWanted(list []impl.Header) impl.PolicyResult {
	if code := headsWanted(list); code != impl.OK {
		return impl.PolicyResult{Code: code}
	}
	var p impl.Policy
	if ages := valuesOf(list, "age"); len(ages) > 0 {
		p.Age = spanWanted(ages[0])
	}
	read := parseWanted(strings.Join(valuesOf(list, "cache-control"), ", "))
	if read.Code != impl.OK {
		p.NoStore = true
		return impl.PolicyResult{Policy: p}
	}
	p.NoStore, _ = itemWanted(read.Items, "no-store", "private")
	p.NoCache, _ = itemWanted(read.Items, "no-cache")
	p.Must, _ = itemWanted(read.Items, "must-revalidate", "proxy-revalidate", "s-maxage")
	if told, life := itemWanted(read.Items, "s-maxage", "max-age"); told {
		p.Life = life
	} else {
		p.Life = datesWanted(list)
	}
	if !p.Must {
		_, p.Swr = itemWanted(read.Items, "stale-while-revalidate")
		_, p.Sie = itemWanted(read.Items, "stale-if-error")
	}
	return impl.PolicyResult{Policy: p}
}

func policyFaultWanted(p impl.Policy) int64 {
	if !isTime(p.Life) && p.Life != -1 || !isTime(p.Swr) || !isTime(p.Sie) || !isTime(p.Age) {
		return impl.ErrRange
	}
	return impl.OK
}

func storeCodeWanted(p impl.Policy, status int64, neg int64) int64 {
	kept := slices.Contains([]int64{200, 404, 410}, status)
	switch {
	case policyFaultWanted(p) != impl.OK, status < 200, status > 599, !isTime(neg):
		return impl.ErrRange
	case p.NoStore, !kept, status == 200 && p.Life == -1:
		return impl.ErrNone
	}
	return impl.OK
}

func storeLifeWanted(p impl.Policy, status int64, neg int64) impl.IntResult {
	code := storeCodeWanted(p, status, neg)
	switch {
	case code != impl.OK:
		return impl.IntResult{Code: code}
	case p.Life == -1:
		return impl.IntResult{Value: neg}
	}
	return impl.IntResult{Value: p.Life}
}

func etagWanted(list []impl.Header) impl.TextResult {
	if code := headsWanted(list); code != impl.OK {
		return impl.TextResult{Code: code}
	}
	values := valuesOf(list, "etag")
	if len(values) == 0 || values[0] == "" {
		return impl.TextResult{Code: impl.ErrNone}
	}
	return impl.TextResult{Text: values[0]}
}

func varyWanted(list []impl.Header, names []string) bool {
	if headsWanted(list) != impl.OK || len(names) > 4 {
		return false
	}
	if slices.ContainsFunc(names, func(name string) bool { return !namePattern.MatchString(name) }) {
		return false
	}
	read := parseWanted(strings.Join(valuesOf(list, "vary"), ", "))
	fits := read.Code == impl.OK
	for _, item := range read.Items {
		alike := func(name string) bool { return strings.EqualFold(name, item.Name) }
		fits = fits && !item.Has && item.Name != "*" && slices.ContainsFunc(names, alike)
	}
	return fits
}

func tagsWanted(list []impl.Header) impl.NamesResult {
	if code := headsWanted(list); code != impl.OK {
		return impl.NamesResult{Code: code}
	}
	tags := tagPattern.FindAllString(strings.Join(valuesOf(list, "surrogate-key"), ", "), -1)
	if len(tags) > 10 {
		return impl.NamesResult{Code: impl.ErrMany}
	}
	return impl.NamesResult{Names: tags}
}

func sameNames(a, b impl.NamesResult) bool {
	return a.Code == b.Code && slices.Equal(a.Names, b.Names)
}

// The words of a cache line: such that tell yes or no, such that tell spans or nothing, and such that cannot be read.
var (
	flagWords = []string{"no-store", "private", "no-cache", "must-revalidate", "proxy-revalidate", "NO-Store", "Private=x", "no-cache=\"a, b\"", "Must-Revalidate=1"}
	spanWords = []string{
		"s-maxage=7", "S-MaxAge=8", "s-maxage", "s-maxage=x", "max-age=5", "Max-Age=0", "max-age", "max-age=\"6\"", "max-age=\" 6\"", "max-age=-1", "max-age=1.5", "max-age=\"\"",
		"stale-while-revalidate=3", "Stale-While-Revalidate=4", "stale-while-revalidate", "stale-if-error=9", "STALE-IF-ERROR=1", "stale-if-error=soon",
		"max-age=2147483647", "max-age=2147483648", "max-age=2147483649", "stale-if-error=" + strings.Repeat("9", 64), "max-age=\"" + strings.Repeat("0", 64) + "1\"", "max-age=007",
		"public", "x", "x=1", "max-ages=1", "no-stores", "ages", "", " ",
	}
	unreadWords = []string{"a b", "max-age =5", "max-age= 5", "max-age=", "=", "\"", "x=\"", "no-store;private", "max-age=5;", "(", "x=" + strings.Repeat("9", 65)}
)

var (
	policyNames = []string{"Cache-Control", "cache-control", "CACHE-CONTROL", "Expires", "EXPIRES", "Date", "date", "Age", "aGE", "ETag", "etag", "Vary", "vary", "Surrogate-Key", "surrogate-KEY", "Cache-Contro", "Surrogate", "Other"}
	otherValues = []string{
		"", "5", "0", "007", "2147483649", "-1", "5 ,6", firstDate, dateAt5, dateAt9, lastDate, "Wed, 01 Jan 1970 00:00:09 GMT", "0", "Thu, 01 Jan 1970 00:00:09",
		"\"v1\"", "W/\"v\"", "accept", "Accept, age", "a, A", "*", "accept=1", "accept, *", "a b", "a  b   c", "a\tb", "a,b c", "a b c d e f g h i j", "a b c d e f g h i j k", "accept,", ",", "x=\"",
	}
)

func chosenCacheLine(source *rand.Rand, wrong int) string {
	words := spanWords
	// Lines that let nothing be kept hide all else: most have none of these.
	if source.Intn(3) == 0 {
		words = slices.Concat(words, flagWords)
	}
	if wrong > 0 && source.Intn(wrong) == 0 {
		words = slices.Concat(words, unreadWords)
	}
	text := ""
	for range source.Intn(5) {
		word := words[source.Intn(len(words))]
		if len(text)+len(word) < 190 {
			text += word + []string{",", ", ", " ,\t"}[source.Intn(3)]
		}
	}
	return strings.Trim(text, " \t")
}

// chosenPolicyHeads have something wrong in them once in about so many times; never, where that is 0.
func chosenPolicyHeads(source *rand.Rand, most, wrong int) []impl.Header {
	list := make([]impl.Header, source.Intn(most+1))
	for i := range list {
		name := policyNames[source.Intn(len(policyNames))]
		value := otherValues[source.Intn(len(otherValues))]
		if strings.EqualFold(name, "cache-control") {
			value = chosenCacheLine(source, wrong)
		}
		list[i] = head(name, value)
		if wrong > 0 && source.Intn(10*wrong) == 0 {
			list[i] = chosenHead(source, 1)
		}
	}
	return list
}

// manyPolicyHeads are lists of all lengths, right ones and wrong ones, the same ones each time.
func manyPolicyHeads(count int) [][]impl.Header {
	source := rand.New(rand.NewSource(21))
	lists := [][]impl.Header{nil, {}}
	for i := range count {
		lists = append(lists, chosenPolicyHeads(source, []int{3, 6, 6, 20, 22}[i%5], []int{0, 0, 2, 6, 6}[i%5]))
	}
	return lists
}

func checkPolicy(t *testing.T, list []impl.Header, want impl.Policy) {
	t.Helper()
	if got := impl.PolicyOf(list); got != (impl.PolicyResult{Policy: want}) {
		t.Errorf("PolicyOf(%q) = %+v, want %+v", list, got, want)
	}
}

type policyRow struct {
	text string
	want impl.Policy
}

func checkPolicyRows(t *testing.T, rows []policyRow) {
	t.Helper()
	for _, row := range rows {
		checkPolicy(t, cache(row.text), row.want)
		checkPolicy(t, []impl.Header{head("a", "b"), head("cache-CONTROL", row.text), head("c", "d")}, row.want)
	}
}

func TestNotTold(t *testing.T) {
	if impl.NotTold != -1 {
		t.Errorf("NotTold is %d", impl.NotTold)
	}
	checkPolicy(t, nil, untold())
	checkPolicy(t, []impl.Header{}, untold())
	checkPolicy(t, []impl.Header{head("Date", dateAt5), head("Other", "max-age=5"), head("Cache-Contro", "no-store")}, untold())
}

func TestPolicyOfFlags(t *testing.T) {
	checkPolicyRows(t, []policyRow{
		{"", untold()},
		{", ,", untold()},
		{"public, x=1", untold()},
		{"no-store", impl.Policy{NoStore: true, Life: -1}},
		{"private", impl.Policy{NoStore: true, Life: -1}},
		{"private=\"x\", max-age=5", impl.Policy{NoStore: true, Life: 5000}},
		{"no-cache", impl.Policy{NoCache: true, Life: -1}},
		{"no-cache=\"a, b\"", impl.Policy{NoCache: true, Life: -1}},
		{"must-revalidate", impl.Policy{Must: true, Life: -1}},
		{"proxy-revalidate", impl.Policy{Must: true, Life: -1}},
		{"NO-STORE, No-Cache, MUST-revalidate", impl.Policy{NoStore: true, NoCache: true, Must: true, Life: -1}},
		{"no-stores, privat, no-cach, must-revalidat, xno-store", untold()},
		{"x=no-store, y=\"private\"", untold()},
		{"x=\"a, no-store\"", untold()},
		{"no-cache, no-store", impl.Policy{NoStore: true, NoCache: true, Life: -1}},
	})
}

func TestPolicyOfLife(t *testing.T) {
	checkPolicyRows(t, []policyRow{
		{"max-age=5", impl.Policy{Life: 5000}},
		{"Max-AGE=5", impl.Policy{Life: 5000}},
		{"max-age=\"5\"", impl.Policy{Life: 5000}},
		{"max-age=005", impl.Policy{Life: 5000}},
		{"max-age=0", impl.Policy{}},
		{"max-age", impl.Policy{}},
		{"max-age=x", impl.Policy{}},
		{"max-age=\"\"", impl.Policy{}},
		{"max-age=-5", impl.Policy{}},
		{"max-age=+5", impl.Policy{}},
		{"max-age=5.0", impl.Policy{}},
		{"max-age=\" 5\"", impl.Policy{}},
		{"max-age=2147483647", impl.Policy{Life: 2147483647000}},
		{"max-age=2147483648", impl.Policy{Life: greatestDelta}},
		{"max-age=2147483649", impl.Policy{Life: greatestDelta}},
		{"max-age=" + strings.Repeat("9", 64), impl.Policy{Life: greatestDelta}},
		{"max-age=\"" + strings.Repeat("9", 65) + "\"", impl.Policy{}},
		{"max-age=5, max-age=6", impl.Policy{Life: 5000}},
		{"MAX-AGE=6, max-age=5", impl.Policy{Life: 6000}},
		{"max-age, max-age=5", impl.Policy{}},
		{"max-ages=1, xmax-age=2", untold()},
		{"max-age=5, no-store", impl.Policy{NoStore: true, Life: 5000}},
	})
}

func TestPolicyOfSharedLife(t *testing.T) {
	checkPolicyRows(t, []policyRow{
		{"s-maxage=7, max-age=5, stale-if-error=9", impl.Policy{Must: true, Life: 7000}},
		{"max-age=5, s-maxage=7", impl.Policy{Must: true, Life: 7000}},
		{"max-age=9, S-MAXAGE=7", impl.Policy{Must: true, Life: 7000}},
		{"s-maxage=7", impl.Policy{Must: true, Life: 7000}},
		{"s-maxage=0, max-age=5", impl.Policy{Must: true}},
		{"s-maxage, max-age=5", impl.Policy{Must: true}},
		{"s-maxage=x, max-age=5", impl.Policy{Must: true}},
		{"s-maxage=7, s-maxage=8", impl.Policy{Must: true, Life: 7000}},
		{"s-maxage, s-maxage=8", impl.Policy{Must: true}},
		{"s-maxage=2147483649", impl.Policy{Must: true, Life: greatestDelta}},
		{"s-max-age=7, max-age=5", impl.Policy{Life: 5000}},
	})
}

func TestPolicyOfStale(t *testing.T) {
	checkPolicyRows(t, []policyRow{
		{"max-age=5, stale-while-revalidate=3", impl.Policy{Life: 5000, Swr: 3000}},
		{"stale-if-error=9", impl.Policy{Life: -1, Sie: 9000}},
		{"Stale-If-Error=9, STALE-while-revalidate=3", impl.Policy{Life: -1, Swr: 3000, Sie: 9000}},
		{"stale-while-revalidate, stale-if-error", untold()},
		{"stale-while-revalidate=x, stale-if-error=\"1 \"", untold()},
		{"stale-while-revalidate=1, stale-while-revalidate=2, stale-if-error=3, stale-if-error=4", impl.Policy{Life: -1, Swr: 1000, Sie: 3000}},
		{"stale-while-revalidate=2147483648, stale-if-error=99999999999", impl.Policy{Life: -1, Swr: greatestDelta, Sie: greatestDelta}},
		{"stale-while-revalidate=1, stale-if-error=2, must-revalidate", impl.Policy{Must: true, Life: -1}},
		{"proxy-revalidate, stale-while-revalidate=1, stale-if-error=2", impl.Policy{Must: true, Life: -1}},
		{"stale-while-revalidate=1, s-maxage, stale-if-error=2", impl.Policy{Must: true}},
		{"no-cache, stale-while-revalidate=1, stale-if-error=2", impl.Policy{NoCache: true, Life: -1, Swr: 1000, Sie: 2000}},
	})
}

func TestPolicyOfDates(t *testing.T) {
	rows := []struct {
		list []impl.Header
		life int64
	}{
		{[]impl.Header{head("Date", dateAt5), head("Expires", dateAt9)}, 4000},
		{[]impl.Header{head("EXPIRES", dateAt9), head("date", dateAt5)}, 4000},
		{[]impl.Header{head("Date", firstDate), head("Expires", lastDate)}, 253402300799000},
		{[]impl.Header{head("Date", dateAt5), head("Expires", "Thu, 01 Jan 1970 00:00:06 GMT")}, 1000},
		{[]impl.Header{head("Date", dateAt5), head("Expires", dateAt5)}, 0},
		{[]impl.Header{head("Date", dateAt9), head("Expires", dateAt5)}, 0},
		{[]impl.Header{head("Date", lastDate), head("Expires", firstDate)}, 0},
		{[]impl.Header{head("Expires", dateAt9)}, 0},
		{[]impl.Header{head("Expires", "")}, 0},
		{[]impl.Header{head("Expires", "0"), head("Date", dateAt5)}, 0},
		{[]impl.Header{head("Expires", "-1"), head("Date", dateAt5)}, 0},
		{[]impl.Header{head("Expires", dateAt9), head("Date", "")}, 0},
		{[]impl.Header{head("Expires", dateAt9), head("Date", "5")}, 0},
		{[]impl.Header{head("Expires", dateAt9), head("Date", "Fri, 01 Jan 1970 00:00:05 GMT")}, 0},
		{[]impl.Header{head("Date", dateAt5)}, impl.NotTold},
		{[]impl.Header{head("Date", dateAt5), head("Expire", dateAt9)}, impl.NotTold},
		// Only the first line of each name counts.
		{[]impl.Header{head("Expires", dateAt9), head("Expires", lastDate), head("Date", dateAt5), head("Date", firstDate)}, 4000},
		{[]impl.Header{head("Expires", "0"), head("Expires", dateAt9), head("Date", dateAt5)}, 0},
		{[]impl.Header{head("Expires", dateAt9), head("Date", "0"), head("Date", dateAt5)}, 0},
		// A cache line that tells no life leaves it to the dates, one that does is ahead of them.
		{[]impl.Header{head("Expires", dateAt9), head("Date", dateAt5), head("Cache-Control", "public")}, 4000},
		{[]impl.Header{head("Expires", dateAt9), head("Date", dateAt5), head("Cache-Control", "max-age=1")}, 1000},
		{[]impl.Header{head("Expires", dateAt9), head("Date", dateAt5), head("Cache-Control", "max-age")}, 0},
		{[]impl.Header{head("Expires", dateAt9), head("Date", dateAt5), head("Cache-Control", "max-age=x")}, 0},
	}
	for _, row := range rows {
		checkPolicy(t, row.list, impl.Policy{Life: row.life})
	}
	shared := []impl.Header{head("Expires", dateAt9), head("Date", dateAt5), head("Cache-Control", "s-maxage=2")}
	checkPolicy(t, shared, impl.Policy{Must: true, Life: 2000})
}

func TestPolicyOfAge(t *testing.T) {
	rows := []struct {
		value string
		age   int64
	}{
		{"", 0}, {"0", 0}, {"2", 2000}, {"007", 7000}, {"x", 0}, {"-1", 0}, {"1.5", 0}, {"2, 3", 0}, {"\"2\"", 0}, {"2 2", 0},
		{"2147483647", 2147483647000}, {"2147483648", greatestDelta}, {"2147483649", greatestDelta},
		{strings.Repeat("9", 64), greatestDelta}, {strings.Repeat("9", 65), 0}, {strings.Repeat("0", 64), 0},
	}
	for _, row := range rows {
		want := impl.Policy{Life: impl.NotTold, Age: row.age}
		checkPolicy(t, []impl.Header{head("Age", row.value)}, want)
		checkPolicy(t, []impl.Header{head("a", "9"), head("aGE", row.value), head("Age", "8")}, want)
		checkPolicy(t, []impl.Header{head("Ages", "9"), head("age", row.value), head("Cache-Control", "must-revalidate, age=4")}, impl.Policy{Must: true, Life: impl.NotTold, Age: row.age})
	}
}

// fullCache is a cache line of so many bytes, parted into five head lines, without an item.
func fullCache(length int) []impl.Header {
	line := head("Cache-Control", strings.Repeat(",", 200))
	return append(sameLines(line, 4), head("cache-control", strings.Repeat(",", length-4*200-4*2)))
}

// A cache line that cannot be read: nothing is kept, whatever else the heads tell, but the Age is told.
func TestPolicyOfUnreadCacheLine(t *testing.T) {
	lists := [][]impl.Header{
		cache("a b"), cache("max-age=5, a b"), cache("max-age =5"), cache("max-age= 5"), cache("max-age="), cache("=5"), cache("max-age=5;"), cache("no-cache="),
		cache("\"no-cache\""), cache("no-cache=\"x"), cache("must-revalidate, stale-if-error=9, s-maxage=7, ("), cache(strings.Repeat("w", 65)), cache("max-age=" + strings.Repeat("9", 65)),
		cache(strings.Repeat("a,", 20) + "b"), fullCache(1001),
		{head("Cache-Control", "max-age=5"), head("cache-control", "a b")},
		{head("Cache-Control", "a b"), head("cache-control", "max-age=5")},
		{head("Cache-Control", "a,b,c,d,e,f,g,h,i,j"), head("x", "y"), head("Cache-Control", "a,b,c,d,e,f,g,h,i,j,k")},
	}
	for _, list := range lists {
		checkPolicy(t, list, impl.Policy{NoStore: true})
		more := append(slices.Clone(list), head("Age", "3"), head("Date", dateAt5), head("Expires", dateAt9))
		checkPolicy(t, more, impl.Policy{NoStore: true, Age: 3000})
	}
	// One less of each can be read.
	checkPolicy(t, cache(strings.Repeat("a,", 20)), untold())
	checkPolicy(t, fullCache(1000), untold())
	checkPolicy(t, cache(strings.Repeat("w", 64)), untold())
	checkPolicy(t, cache("max-age="+strings.Repeat("9", 64)), impl.Policy{Life: greatestDelta})
}

// Several cache lines are one: the items of all of them count, in order.
func TestPolicyOfSeveralCacheLines(t *testing.T) {
	checkPolicy(t, []impl.Header{head("Cache-Control", "max-age=5"), head("Age", "1"), head("cache-control", "no-cache, max-age=6")}, impl.Policy{NoCache: true, Life: 5000, Age: 1000})
	checkPolicy(t, []impl.Header{head("Cache-Control", "max-age=5, stale-if-error=2"), head("CACHE-CONTROL", "s-maxage=6")}, impl.Policy{Must: true, Life: 6000})
	checkPolicy(t, []impl.Header{head("Cache-Control", "no-cache=\"a"), head("Cache-Control", "max-age=5\"")}, impl.Policy{NoCache: true, Life: impl.NotTold})
}

// faultyHeads are lists with a fault beside lines that chapter 6 looks for, each with its code.
func faultyHeads() map[int64][][]impl.Header {
	lines := []impl.Header{head("Cache-Control", "max-age=5"), head("ETag", "v"), head("Vary", "a"), head("Surrogate-Key", "a"), head("Age", "1")}
	with := func(line impl.Header) []impl.Header { return append(slices.Clone(lines), line) }
	return map[int64][][]impl.Header{
		impl.ErrText: {with(head("", "x")), with(head("a b", "x")), with(head("Age", " 1")), with(head("Age", "1\t")), with(head("a", "\n")), with(head(strings.Repeat("n", 65), "")), append([]impl.Header{head("a:", "")}, lines...)},
		impl.ErrMany: {with(head("a", strings.Repeat("v", 201))), append(sameLines(head("a", "b"), 16), lines...), sameLines(head("ETag", "v"), 21), sameLines(head("", ""), 21)},
	}
}

func TestPolicyHeadsWithAFault(t *testing.T) {
	for code, lists := range faultyHeads() {
		for _, list := range lists {
			if got := impl.PolicyOf(list); got != (impl.PolicyResult{Code: code}) {
				t.Errorf("PolicyOf(%q) = %+v, want the code %d", list, got, code)
			}
			if got := impl.EtagOf(list); got != (impl.TextResult{Code: code}) {
				t.Errorf("EtagOf(%q) = %+v, want the code %d", list, got, code)
			}
			if got := impl.TagsOf(list); got.Code != code || len(got.Names) > 0 {
				t.Errorf("TagsOf(%q) = %+v, want the code %d", list, got, code)
			}
			if impl.VaryFits(list, []string{"a"}) {
				t.Errorf("VaryFits(%q) is true", list)
			}
		}
	}
}

func TestPolicyOfManyHeads(t *testing.T) {
	for _, list := range manyPolicyHeads(20000) {
		if got, want := impl.PolicyOf(list), policyWanted(list); got != want {
			t.Fatalf("PolicyOf(%q) = %+v, want %+v", list, got, want)
		}
	}
}

// spans are at their bounds and beyond them.
var spans = []int64{0, 1, 999, 1000, impl.MaxTime - 1, impl.MaxTime, -1, -2, impl.MaxTime + 1, math.MaxInt64, math.MinInt64, math.MinInt64 + 1}

func TestPolicyFault(t *testing.T) {
	for _, n := range spans {
		wrong := int64(impl.ErrRange)
		if n >= 0 && n <= impl.MaxTime {
			wrong = impl.OK
		}
		life := wrong
		if n == -1 {
			life = impl.OK
		}
		for _, flag := range []bool{false, true} {
			rows := []struct {
				policy impl.Policy
				want   int64
			}{
				{impl.Policy{Life: n, NoStore: flag}, life},
				{impl.Policy{Swr: n, NoCache: flag}, wrong},
				{impl.Policy{Sie: n, Must: flag}, wrong},
				{impl.Policy{Age: n, Must: flag}, wrong},
				{impl.Policy{Life: impl.NotTold, Swr: n, Sie: n, Age: n, NoStore: flag}, wrong},
			}
			for _, row := range rows {
				if got := impl.PolicyFault(row.policy); got != row.want {
					t.Errorf("PolicyFault(%+v) = %d, want %d", row.policy, got, row.want)
				}
			}
		}
	}
}

func checkStoreLife(t *testing.T, p impl.Policy, status, neg int64, want impl.IntResult) {
	t.Helper()
	if got := impl.StoreLife(p, status, neg); got != want {
		t.Errorf("StoreLife(%+v, %d, %d) = %+v, want %+v", p, status, neg, got, want)
	}
}

func TestStoreLifeStatuses(t *testing.T) {
	for status := int64(-10); status <= 1010; status++ {
		var told, silent, forbidden impl.IntResult
		switch {
		case status < 200 || status > 599:
			told, silent, forbidden = wrongNumber, wrongNumber, wrongNumber
		case status == 200:
			told, silent, forbidden = impl.IntResult{Value: 5000}, noneFound, noneFound
		case status == 404 || status == 410:
			told, silent, forbidden = impl.IntResult{Value: 5000}, impl.IntResult{Value: 700}, noneFound
		default:
			told, silent, forbidden = noneFound, noneFound, noneFound
		}
		checkStoreLife(t, impl.Policy{Life: 5000, Swr: 1, Sie: 2, Age: 3}, status, 700, told)
		checkStoreLife(t, impl.Policy{Life: 5000, NoCache: true, Must: true}, status, 0, told)
		checkStoreLife(t, untold(), status, 700, silent)
		checkStoreLife(t, impl.Policy{Life: 5000, NoStore: true}, status, 700, forbidden)
		checkStoreLife(t, impl.Policy{Life: impl.NotTold, NoStore: true}, status, 700, forbidden)
		checkStoreLife(t, impl.Policy{Life: -2}, status, 700, wrongNumber)
		checkStoreLife(t, untold(), status, -1, wrongNumber)
	}
}

func TestStoreLifeBounds(t *testing.T) {
	checkStoreLife(t, impl.Policy{}, 200, 700, impl.IntResult{})
	checkStoreLife(t, impl.Policy{}, 404, 700, impl.IntResult{})
	checkStoreLife(t, untold(), 404, 0, impl.IntResult{})
	checkStoreLife(t, impl.Policy{Life: impl.MaxTime}, 410, impl.MaxTime, impl.IntResult{Value: impl.MaxTime})
	statuses := append(slices.Clone(toldStatuses), 200, 404, 410, 203, 403, 409, 411)
	for _, a := range spans {
		for _, b := range spans {
			for _, status := range statuses {
				for i, p := range []impl.Policy{{Life: a}, {Life: a, NoStore: true}, {Life: impl.NotTold, Swr: a}, {Life: 1, Sie: a}, {Life: 1, Age: a}, {Life: impl.NotTold, NoStore: true, Age: a}} {
					if got, want := impl.StoreLife(p, status, b), storeLifeWanted(p, status, b); got != want {
						t.Errorf("%d: StoreLife(%+v, %d, %d) = %+v, want %+v", i, p, status, b, got, want)
					}
				}
			}
		}
	}
}

func TestEtagOf(t *testing.T) {
	rows := []struct {
		list []impl.Header
		want impl.TextResult
	}{
		{nil, impl.TextResult{Code: impl.ErrNone}},
		{[]impl.Header{head("ETags", "v"), head("Tag", "v"), head("E-Tag", "v")}, impl.TextResult{Code: impl.ErrNone}},
		{[]impl.Header{head("ETag", "")}, impl.TextResult{Code: impl.ErrNone}},
		{[]impl.Header{head("ETag", ""), head("ETag", "v")}, impl.TextResult{Code: impl.ErrNone}},
		{[]impl.Header{head("ETag", "v"), head("etag", "")}, impl.TextResult{Text: "v"}},
		{[]impl.Header{head("a", "b"), head("eTAG", "w"), head("ETag", "v")}, impl.TextResult{Text: "w"}},
		{[]impl.Header{head("ETag", `W/"a, b"`)}, impl.TextResult{Text: `W/"a, b"`}},
		{[]impl.Header{head("ETag", strings.Repeat("v", 200))}, impl.TextResult{Text: strings.Repeat("v", 200)}},
	}
	for _, row := range rows {
		if got := impl.EtagOf(row.list); got != row.want {
			t.Errorf("EtagOf(%q) = %+v, want %+v", row.list, got, row.want)
		}
	}
	for _, list := range manyPolicyHeads(5000) {
		if got, want := impl.EtagOf(list), etagWanted(list); got != want {
			t.Fatalf("EtagOf(%q) = %+v, want %+v", list, got, want)
		}
	}
}

type varyRow struct {
	values []string
	names  []string
	want   bool
}

func varyRows() []varyRow {
	word := strings.Repeat("N", 64)
	return []varyRow{
		{nil, nil, true},
		{nil, []string{"a", "b", "c", "d"}, true},
		{nil, []string{"*"}, true},
		{nil, []string{"a", "b", "c", "d", "e"}, false},
		{nil, make([]string, 5), false},
		{nil, []string{""}, false},
		{nil, []string{"a", "b c"}, false},
		{nil, []string{word + "n"}, false},
		{[]string{""}, nil, true},
		{[]string{", ,"}, nil, true},
		{[]string{"accept"}, []string{"Accept"}, true},
		{[]string{"ACCEPT"}, []string{"x", "accept"}, true},
		{[]string{"accept"}, nil, false},
		{[]string{"accept"}, []string{"accep", "accepts"}, false},
		{[]string{"a, b,C , d"}, []string{"D", "c", "B", "A"}, true},
		{[]string{"a, b, c, d, a, A"}, []string{"a", "b", "c", "d"}, true},
		{[]string{"a, b, c, d, e"}, []string{"a", "b", "c", "d"}, false},
		{[]string{"a", "b"}, []string{"b", "a"}, true},
		{[]string{"a", "b"}, []string{"a"}, false},
		{[]string{"a", "b"}, []string{"b"}, false},
		{[]string{"a"}, []string{"a", "a", "a", "a"}, true},
		{[]string{"a"}, []string{"a", "a", "a", "a", "a"}, false},
		{[]string{"a"}, []string{"a", "\u212a"}, false},
		{[]string{word}, []string{strings.ToLower(word)}, true},
		{[]string{"*"}, []string{"*"}, false},
		{[]string{"*"}, nil, false},
		{[]string{"a, *"}, []string{"a", "*"}, false},
		{[]string{"*, a"}, []string{"a", "*"}, false},
		{[]string{"**"}, []string{"**"}, true},
		{[]string{"a=1"}, []string{"a"}, false},
		{[]string{`a=""`}, []string{"a"}, false},
		{[]string{"a, a=b"}, []string{"a", "b"}, false},
		{[]string{"a b"}, []string{"a", "b"}, false},
		{[]string{"a;b"}, []string{"a", "b"}, false},
		{[]string{`"a"`}, []string{"a"}, false},
		{[]string{"a="}, []string{"a"}, false},
		{[]string{strings.Repeat("a,", 20)}, []string{"a"}, true},
		{[]string{strings.Repeat("a,", 21)}, []string{"a"}, false},
		{slices.Repeat([]string{strings.Repeat(",", 200)}, 5), []string{"a"}, false},
	}
}

func TestVaryFits(t *testing.T) {
	for _, row := range varyRows() {
		list := []impl.Header{head("Other", "x, *")}
		for i, value := range row.values {
			list = append(list, head([]string{"Vary", "vary", "VARY"}[i%3], value), head("Varys", "*"))
		}
		if got := impl.VaryFits(list, row.names); got != row.want {
			t.Errorf("VaryFits(%q, %q) = %v", list, row.names, got)
		}
	}
	source := rand.New(rand.NewSource(22))
	right := []string{"accept", "ACCEPT", "Age", "age", "*", "a", "A", "b", "c"}
	for _, list := range manyPolicyHeads(10000) {
		names := make([]string, source.Intn(6))
		for i := range names {
			names[i] = right[source.Intn(len(right))]
			if source.Intn(20) == 0 {
				names[i] = keyNames[source.Intn(len(keyNames))]
			}
		}
		if got, want := impl.VaryFits(list, names), varyWanted(list, names); got != want {
			t.Fatalf("VaryFits(%q, %q) = %v", list, names, got)
		}
	}
}

func TestTagsOf(t *testing.T) {
	ten := strings.Split("a b c d e f g h i j", " ")
	rows := []struct {
		values []string
		want   impl.NamesResult
	}{
		{nil, impl.NamesResult{}},
		{[]string{""}, impl.NamesResult{}},
		{[]string{"a"}, impl.NamesResult{Names: []string{"a"}}},
		{[]string{"a  b"}, impl.NamesResult{Names: []string{"a", "b"}}},
		{[]string{"b     a b"}, impl.NamesResult{Names: []string{"b", "a", "b"}}},
		{[]string{"A a"}, impl.NamesResult{Names: []string{"A", "a"}}},
		{[]string{"a\tb c"}, impl.NamesResult{Names: []string{"a\tb", "c"}}},
		{[]string{"a,b c"}, impl.NamesResult{Names: []string{"a,b", "c"}}},
		{[]string{`"a b"`}, impl.NamesResult{Names: []string{`"a`, `b"`}}},
		// Between the values of two lines stand a comma and a blank: they are pieces as they come.
		{[]string{"a b", "c"}, impl.NamesResult{Names: []string{"a", "b,", "c"}}},
		{[]string{"", ""}, impl.NamesResult{Names: []string{","}}},
		{[]string{strings.Repeat("t", 200)}, impl.NamesResult{Names: []string{strings.Repeat("t", 200)}}},
		{[]string{strings.Join(ten, " ")}, impl.NamesResult{Names: ten}},
		{[]string{strings.Join(ten, "    ")}, impl.NamesResult{Names: ten}},
		{[]string{strings.Join(ten, " ") + " a"}, impl.NamesResult{Code: impl.ErrMany}},
		{[]string{"a b c d e", "f g h i j"}, impl.NamesResult{Names: strings.Split("a b c d e, f g h i j", " ")}},
		{[]string{"a b c d e", "f g h i j k"}, impl.NamesResult{Code: impl.ErrMany}},
		{[]string{strings.Repeat("a ", 99) + "a"}, impl.NamesResult{Code: impl.ErrMany}},
	}
	for _, row := range rows {
		list := []impl.Header{head("Surrogate-Keys", "x"), head("Surrogate", "y")}
		for i, value := range row.values {
			list = append(list, head([]string{"Surrogate-Key", "surrogate-KEY"}[i%2], value))
		}
		if got := impl.TagsOf(list); !sameNames(got, row.want) {
			t.Errorf("TagsOf(%q) = %d %q, want %d %q", list, got.Code, got.Names, row.want.Code, row.want.Names)
		}
	}
	for _, list := range manyPolicyHeads(5000) {
		if got, want := impl.TagsOf(list), tagsWanted(list); !sameNames(got, want) {
			t.Fatalf("TagsOf(%q) = %d %q, want %d %q", list, got.Code, got.Names, want.Code, want.Names)
		}
	}
}

func TestIsTagged(t *testing.T) {
	long := strings.Repeat("t", 3000)
	rows := []struct {
		tags []string
		tag  string
		want bool
	}{
		{nil, "", false}, {nil, "a", false}, {[]string{}, "", false}, {[]string{""}, "", true}, {[]string{"a"}, "", false}, {[]string{""}, "a", false},
		{[]string{"a", "b"}, "a", true}, {[]string{"a", "b"}, "b", true}, {[]string{"a", "b"}, "c", false}, {[]string{"a", "b"}, "A", false}, {[]string{"A"}, "a", false},
		{[]string{"ab"}, "a", false}, {[]string{"a"}, "ab", false}, {[]string{"a b"}, "a b", true}, {[]string{"a b"}, "a", false}, {[]string{"a "}, "a", false},
		{[]string{"\xff"}, "\xff", true}, {[]string{"\xff"}, "\xfe", false}, {[]string{"\u212a"}, "k", false}, {[]string{"\ufffd"}, "\xff", false},
		{[]string{long}, long, true}, {[]string{long}, long + "t", false}, {append(slices.Repeat([]string{"a"}, 5000), "z"), "z", true}, {slices.Repeat([]string{"a"}, 5000), "z", false},
	}
	for _, row := range rows {
		if got := impl.IsTagged(row.tags, row.tag); got != row.want {
			t.Errorf("IsTagged of %d tags, %s = %v", len(row.tags), shown(row.tag), got)
		}
	}
}

// Promise 7: what heads allow is told in times, in whole seconds, and a policy of heads has no fault.
func TestPromise7HeadsAreToldInTimes(t *testing.T) {
	kept := 0
	for _, list := range manyPolicyHeads(10000) {
		told := impl.PolicyOf(list)
		if told.Code != impl.OK {
			continue
		}
		p := told.Policy
		if impl.PolicyFault(p) != impl.OK {
			t.Fatalf("PolicyOf(%q) has a fault: %+v", list, p)
		}
		for _, n := range []int64{p.Life, p.Swr, p.Sie, p.Age} {
			if n != impl.NotTold && (!isTime(n) || n%1000 != 0) {
				t.Fatalf("PolicyOf(%q) tells %d", list, n)
			}
		}
		if p.Swr == impl.NotTold || p.Sie == impl.NotTold || p.Age == impl.NotTold || p.Must && (p.Swr != 0 || p.Sie != 0) {
			t.Fatalf("PolicyOf(%q) = %+v", list, p)
		}
		for _, status := range []int64{200, 404, 410} {
			life := impl.StoreLife(p, status, 1500)
			if life.Code == impl.OK && p.Life > 0 {
				kept++
			}
			if life.Code == impl.OK && (!isTime(life.Value) || p.NoStore || p.Life != impl.NotTold && life.Value != p.Life) {
				t.Fatalf("%q at %d: %+v of %+v", list, status, life, p)
			}
		}
	}
	if kept < 1000 {
		t.Errorf("only %d times something was kept: the lists tell too little", kept)
	}
}

// Promise 7: who must not keep does not, whatever else is told, and wherever it is told.
func TestPromise7WhoMustNotKeepDoesNot(t *testing.T) {
	source := rand.New(rand.NewSource(23))
	words := []string{"no-store", "private", "NO-STORE", "Private", "no-store=1", "private=\"a, b\"", "a b", "\"", "max-age="}
	for range 5000 {
		// Right lists alone: a quote that another line leaves open could hide the word.
		list := chosenPolicyHeads(source, 19, 0)
		line := head("cache-Control", words[source.Intn(len(words))])
		list = slices.Insert(list, source.Intn(len(list)+1), line)
		p := impl.PolicyOf(list)
		if p.Code != impl.OK || !p.Policy.NoStore {
			t.Fatalf("PolicyOf(%q) = %+v", list, p)
		}
		for _, status := range []int64{200, 203, 304, 404, 410, 500} {
			checkStoreLife(t, p.Policy, status, 1000, noneFound)
		}
	}
}

// Promise 7: the order of the items tells nothing, where no two have names that are alike.
func TestPromise7OrderOfItems(t *testing.T) {
	source := rand.New(rand.NewSource(24))
	words := []string{"max-age=5", "s-maxage=7", "stale-while-revalidate=3", "stale-if-error=9", "must-revalidate", "proxy-revalidate", "no-cache", "no-store", "private", "public"}
	for range 3000 {
		source.Shuffle(len(words), func(i, j int) { words[i], words[j] = words[j], words[i] })
		chosen := slices.Clone(words[:source.Intn(len(words)+1)])
		got := impl.PolicyOf(cache(strings.Join(chosen, ", ")))
		slices.Sort(chosen)
		want := impl.PolicyOf(cache(strings.Join(chosen, ",")))
		if got.Code != impl.OK || got != want {
			t.Fatalf("%q: %+v in one order, %+v in the other", chosen, got, want)
		}
	}
}

type policyAnswers struct {
	policy impl.PolicyResult
	fault  int64
	life   impl.IntResult
	etag   impl.TextResult
	fits   bool
	tags   impl.NamesResult
	tagged bool
}

func askPolicy(list []impl.Header, names []string, status, neg int64) policyAnswers {
	a := policyAnswers{policy: impl.PolicyOf(list), etag: impl.EtagOf(list), fits: impl.VaryFits(list, names), tags: impl.TagsOf(list)}
	a.fault, a.life = impl.PolicyFault(a.policy.Policy), impl.StoreLife(a.policy.Policy, status, neg)
	a.tagged = impl.IsTagged(names, "accept") || impl.IsTagged(a.tags.Names, "b")
	return a
}

func (a policyAnswers) equals(b policyAnswers) bool {
	return a.policy == b.policy && a.fault == b.fault && a.life == b.life && a.etag == b.etag && a.fits == b.fits && sameNames(a.tags, b.tags) && a.tagged == b.tagged
}

// bare: beside a code there is nothing.
func (a policyAnswers) bare() bool {
	return (a.policy.Code == impl.OK || a.policy.Policy == impl.Policy{}) &&
		(a.life.Code == impl.OK || a.life.Value == 0) &&
		(a.etag.Code == impl.OK || a.etag.Text == "") &&
		(a.tags.Code == impl.OK || len(a.tags.Names) == 0)
}

func policyArguments(i int) ([]string, int64, int64) {
	names := [][]string{nil, {"accept"}, {"Accept", "AGE", "a"}, {"a", "b", "c", "d"}, {"a", "b", "c", "d", "accept"}, {"a b"}}
	return names[i%len(names)], toldStatuses[i%len(toldStatuses)], spans[i%len(spans)]
}

// Promise 1: asked again in another order the functions of chapter 6 tell the same, and beside a code nothing.
func TestPromise1PoliciesHangOnArgumentsAlone(t *testing.T) {
	lists := manyPolicyHeads(4000)
	first := make([]policyAnswers, len(lists))
	for i, list := range lists {
		names, status, neg := policyArguments(i)
		first[i] = askPolicy(list, names, status, neg)
		if !first[i].bare() {
			t.Errorf("%q: something stands beside a code: %+v", list, first[i])
		}
	}
	for i := len(lists) - 1; i >= 0; i-- {
		names, status, neg := policyArguments(i)
		if got := askPolicy(slices.Clone(lists[i]), slices.Clone(names), status, neg); !got.equals(first[i]) {
			t.Errorf("%q: %+v, and then %+v", lists[i], first[i], got)
		}
	}
}

// Promise 1: what came in is left as it was, what stands behind it in memory, too, and no answer shares its memory.
func TestPromise1PolicyArgumentsAreLeftAsTheyWere(t *testing.T) {
	for i, list := range manyPolicyHeads(4000) {
		names, status, neg := policyArguments(i)
		lines, words := append(slices.Clone(list), sameLines(head("behind", "kept"), 3)...), append(slices.Clone(names), "behind", "kept")
		keptLines, keptWords := slices.Clone(lines), slices.Clone(words)
		answers := askPolicy(lines[:len(list)], words[:len(names)], status, neg)
		again := impl.TagsOf(lines[:len(list)])
		clear(answers.tags.Names[:cap(answers.tags.Names)])
		if !slices.Equal(lines, keptLines) || !slices.Equal(words, keptWords) {
			t.Fatalf("%q and %q became %q and %q", keptLines, keptWords, lines, words)
		}
		if !sameNames(again, tagsWanted(list)) {
			t.Fatalf("two answers of TagsOf(%q) share their memory", list)
		}
	}
}

// Promise 1: the texts that chapter 6 tells are new memory.
func TestPromise1PolicyTextsAreNewMemory(t *testing.T) {
	for i := range 200 {
		list := []impl.Header{ownHead(head("ETag", fmt.Sprintf("mark-%d", i))), ownHead(head("Surrogate-Key", fmt.Sprintf("tag-%d  more-%d", i, i)))}
		if i%2 == 0 {
			list = append(list, ownHead(head("surrogate-key", "last-one")))
		}
		told := append(slices.Clone(impl.TagsOf(list).Names), impl.EtagOf(list).Text)
		if len(told) < 3 {
			t.Fatalf("%q tells only %q", list, told)
		}
		for _, piece := range told {
			for _, line := range list {
				if shareMemory(piece, line.Value) || shareMemory(piece, line.Name) {
					t.Errorf("%s shares memory with %q", shown(piece), line)
				}
			}
		}
	}
}
