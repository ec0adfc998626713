package tests

import (
	"fmt"
	"math"
	"math/rand"
	"slices"
	"strconv"
	"strings"
	"testing"

	"loop.example/g00665/impl"
)

// The signatures and the types as the document tells them.
var (
	_ func(impl.Request, impl.Entry, bool) impl.RequestResult    = impl.FetchFor
	_ func(string, impl.Response, impl.Ask) impl.EntryResult     = impl.EntryFrom
	_ func(impl.Entry, impl.Response, impl.Ask) impl.EntryResult = impl.MergeEntry
	_ func(impl.Entry, int64, string, bool) impl.ResponseResult  = impl.AnswerOf
	_ func(impl.Response, bool) impl.ResponseResult              = impl.RelayOf
	_ func(int64) impl.ResponseResult                            = impl.ErrorOf

	_ = impl.Ask{Names: []string{}, Neg: int64(0), Now: int64(0)}
)

// youngHead lets an answer be kept for five seconds.
var youngHead = head("Cache-Control", "max-age=5")

// apartLines have names of their own, so that one set is one more or another Value.
func apartLines(count int) []impl.Header {
	var list []impl.Header
	for i := range count {
		list = append(list, head(fmt.Sprint("n", i), fmt.Sprint("v", i)))
	}
	return list
}

// with is a new list of the lines of list, and more behind them.
func with(list []impl.Header, more ...impl.Header) []impl.Header {
	return slices.Concat(list, more)
}

func headed(e impl.Entry, list ...impl.Header) impl.Entry {
	e.Headers = list
	return e
}

func sameFetch(a, b impl.RequestResult) bool {
	return a.Code == b.Code && sameAsked(a.Request, b.Request)
}

func sameAnswer(a, b impl.ResponseResult) bool {
	return a.Code == b.Code && sameTold(a.Response, b.Response)
}

func fetchWanted(r impl.Request, e impl.Entry, has bool) impl.RequestResult {
	if code := requestWanted(r); code != impl.OK {
		return impl.RequestResult{Code: code}
	}
	var mark []impl.Header
	if has {
		if code := entryWanted(e); code != impl.OK {
			return impl.RequestResult{Code: code}
		}
		if tag := etagWanted(e.Headers); tag.Code == impl.OK {
			mark = []impl.Header{head("If-None-Match", tag.Text)}
		}
	}
	lines := othersOf(othersOf(r.Headers, "if-modified-since"), "if-none-match")
	if len(lines) <= 18 {
		lines = with(lines, mark...)
	}
	return impl.RequestResult{Request: request("GET", r.Host, r.Path, lines...)}
}

func namesWanted(names []string) int64 {
	if len(names) >= 5 {
		return impl.ErrMany
	}
	return codeWhere(!slices.ContainsFunc(names, func(name string) bool { return !namePattern.MatchString(name) }), impl.ErrText)
}

// keptWanted is what is asked from the code of MetaOf on.
func keptWanted(key string, r impl.Response, a impl.Ask) impl.EntryResult {
	meta := metaOfWanted(policyWanted(r.Headers).Policy, r.Status, a.Neg, a.Now)
	if meta.Code != impl.OK {
		return impl.EntryResult{Code: meta.Code}
	}
	tags := tagsWanted(r.Headers)
	if len(r.Headers) >= 18 || tags.Code != impl.OK || !varyWanted(r.Headers, a.Names) {
		return impl.EntryResult{Code: impl.ErrNone}
	}
	return impl.EntryResult{Entry: impl.Entry{Key: key, Status: r.Status, Headers: r.Headers, Body: r.Body, Meta: meta.Meta, Tags: tags.Names}}
}

func entryFromWanted(key string, r impl.Response, a impl.Ask) impl.EntryResult {
	if !within(int64(len(key)), 1, 500) {
		return impl.EntryResult{Code: impl.ErrMany}
	}
	if code := responseWanted(r); code != impl.OK {
		return impl.EntryResult{Code: code}
	}
	if code := namesWanted(a.Names); code != impl.OK {
		return impl.EntryResult{Code: code}
	}
	return keptWanted(key, r, a)
}

func mergeWanted(e impl.Entry, r impl.Response, a impl.Ask) impl.EntryResult {
	if code := entryWanted(e); code != impl.OK {
		return impl.EntryResult{Code: code}
	}
	if code := responseWanted(r); code != impl.OK {
		return impl.EntryResult{Code: code}
	}
	if r.Status != 304 {
		return impl.EntryResult{Code: impl.ErrState}
	}
	if code := namesWanted(a.Names); code != impl.OK {
		return impl.EntryResult{Code: code}
	}
	lines := e.Headers
	for _, line := range r.Headers {
		lines = setAmong(lines, line)
	}
	if len(lines) > 17 {
		return impl.EntryResult{Code: impl.ErrNone}
	}
	told := keptWanted(e.Key, response(e.Status, string(e.Body), lines...), a)
	if told.Code == impl.OK {
		told.Entry.Pins = e.Pins
	}
	return told
}

func answerWanted(e impl.Entry, now int64, source string, only bool) impl.ResponseResult {
	if code := entryWanted(e); code != impl.OK {
		return impl.ResponseResult{Code: code}
	}
	age := ageWanted(e.Meta, now)
	if age.Code != impl.OK {
		return impl.ResponseResult{Code: age.Code}
	}
	if !namePattern.MatchString(source) {
		return impl.ResponseResult{Code: impl.ErrText}
	}
	seconds := strconv.FormatInt((age.Value-age.Value%1000)/1000, 10)
	lines := setAmong(setAmong(e.Headers, head("Age", seconds)), head("X-Cache", source))
	if len(lines) > 20 {
		return impl.ResponseResult{Code: impl.ErrMany}
	}
	return impl.ResponseResult{Response: response(e.Status, bodyWanted(e.Body, only), lines...)}
}

func bodyWanted(body []byte, only bool) string {
	if only {
		return ""
	}
	return string(body)
}

func relayWanted(r impl.Response, only bool) impl.ResponseResult {
	if code := responseWanted(r); code != impl.OK {
		return impl.ResponseResult{Code: code}
	}
	lines := r.Headers
	if len(lines) < 20 || len(valuesOf(lines, "x-cache")) > 0 {
		lines = setWanted(lines, "X-Cache", "miss").Headers
	}
	return impl.ResponseResult{Response: response(r.Status, bodyWanted(r.Body, only), lines...)}
}

func errorWanted(status int64) impl.ResponseResult {
	if !within(status, 400, 599) {
		return impl.ResponseResult{Code: impl.ErrRange}
	}
	return impl.ResponseResult{Response: response(status, "", head("X-Cache", "error"))}
}

func checkFetch(t *testing.T, what string, r impl.Request, e impl.Entry, has bool, want impl.RequestResult) {
	t.Helper()
	if got := impl.FetchFor(r, e, has); !sameFetch(got, want) {
		t.Errorf("%s: FetchFor(%q, %s, %v) = %d %q, want %d %q", what, r, shownEntry(e), has, got.Code, got.Request, want.Code, want.Request)
	}
}

func checkFrom(t *testing.T, what string, key string, r impl.Response, a impl.Ask, want impl.EntryResult) {
	t.Helper()
	if got := impl.EntryFrom(key, r, a); !samePeek(got, want) {
		t.Errorf("%s: EntryFrom(%s, %s, %+v) = %d %s, want %d %s", what, shown(key), shownResponse(r), a, got.Code, shownEntry(got.Entry), want.Code, shownEntry(want.Entry))
	}
}

func checkMerge(t *testing.T, what string, e impl.Entry, r impl.Response, a impl.Ask, want impl.EntryResult) {
	t.Helper()
	if got := impl.MergeEntry(e, r, a); !samePeek(got, want) {
		t.Errorf("%s: MergeEntry(%s, %s, %+v) = %d %s, want %d %s", what, shownEntry(e), shownResponse(r), a, got.Code, shownEntry(got.Entry), want.Code, shownEntry(want.Entry))
	}
}

func checkAnswer(t *testing.T, what string, e impl.Entry, now int64, source string, only bool, want impl.ResponseResult) {
	t.Helper()
	if got := impl.AnswerOf(e, now, source, only); !sameAnswer(got, want) {
		t.Errorf("%s: AnswerOf(%s, %d, %s, %v) = %d %s, want %d %s", what, shownEntry(e), now, shown(source), only, got.Code, shownResponse(got.Response), want.Code, shownResponse(want.Response))
	}
}

func checkRelay(t *testing.T, what string, r impl.Response, only bool, want impl.ResponseResult) {
	t.Helper()
	if got := impl.RelayOf(r, only); !sameAnswer(got, want) {
		t.Errorf("%s: RelayOf(%s, %v) = %d %s, want %d %s", what, shownResponse(r), only, got.Code, shownResponse(got.Response), want.Code, shownResponse(want.Response))
	}
}

func TestMergeBounds(t *testing.T) {
	if impl.MaxOwn != 17 {
		t.Errorf("MaxOwn is %d", impl.MaxOwn)
	}
}

func TestFetchForRequestFaults(t *testing.T) {
	marked, wrong := headed(plain("k"), head("ETag", "v1")), impl.Entry{Key: "k", Status: 304}
	for _, row := range getRows() {
		for _, has := range []bool{false, true} {
			want := impl.RequestResult{Code: row.want}
			if row.want == impl.OK {
				want = fetchWanted(row.get, marked, has)
			}
			checkFetch(t, row.what, row.get, marked, has, want)
			// What is wrong with the request is told ahead of what is wrong with the entry.
			switch {
			case row.want != impl.OK:
				checkFetch(t, row.what+", and a wrong entry", row.get, wrong, has, want)
			case has:
				checkFetch(t, row.what+", but a wrong entry", row.get, wrong, has, impl.RequestResult{Code: impl.ErrRange})
			default:
				checkFetch(t, row.what+", and a wrong entry that is not there", row.get, wrong, has, want)
			}
		}
	}
}

func TestFetchForEntryFaults(t *testing.T) {
	r := request("HEAD", "a.com", "/y", head("accept", "q"))
	bare := request("GET", "a.com", "/y", head("accept", "q"))
	for _, from := range []impl.Entry{plain("k"), fullEntry("k")} {
		for _, row := range entryRows() {
			e := headed(from, slices.Clone(from.Headers)...)
			row.turn(&e)
			want := impl.RequestResult{Code: row.want}
			if row.want == impl.OK {
				want.Request = bare
			}
			checkFetch(t, row.what, r, e, true, want)
			checkFetch(t, row.what+", not there", r, e, false, impl.RequestResult{Request: bare})
			// Its mark is not looked at, either, where it is not there.
			e.Headers = append(e.Headers, head("ETag", "v1"))
			checkFetch(t, row.what+", not there, with a mark", r, e, false, impl.RequestResult{Request: bare})
		}
	}
}

func TestFetchForMethodHostAndPath(t *testing.T) {
	for _, method := range askMethods[:rightMethods] {
		for _, host := range askHosts[:rightHosts] {
			for _, path := range askPaths[:rightPaths] {
				checkFetch(t, "as they are written", request(method, host, path), impl.Entry{}, false, impl.RequestResult{Request: request("GET", host, path)})
				checkFetch(t, "as they are written, with a mark", request(method, host, path), headed(plain("k"), head("ETag", "v")), true, impl.RequestResult{Request: request("GET", host, path, head("If-None-Match", "v"))})
			}
		}
	}
}

// droppedNames are those that go, in any letters; nearNames only seem so.
var (
	droppedNames = []string{"If-None-Match", "if-none-match", "IF-NONE-MATCH", "iF-nOnE-mAtCh", "If-Modified-Since", "if-modified-since", "IF-MODIFIED-SINCE", "If-modified-Since"}
	nearNames    = []string{"If-None-Matc", "If-None-Matches", "f-None-Match", "If_None_Match", "If-Match", "If-Modified", "If-Unmodified-Since", "If-Modified-Sinc", "If-Modified-Since-", "IfNoneMatch", "ETag", "Age", "X-Cache"}
)

func TestFetchForDropsMarks(t *testing.T) {
	e, mark := headed(plain("k"), head("a", "b"), head("etag", "W/\"v 1\"")), head("If-None-Match", "W/\"v 1\"")
	check := func(what string, given, left []impl.Header) {
		t.Helper()
		checkFetch(t, what, request("GET", "a", "/", given...), e, false, impl.RequestResult{Request: request("GET", "a", "/", left...)})
		checkFetch(t, what+", with a mark", request("HEAD", "a", "/", given...), e, true, impl.RequestResult{Request: request("GET", "a", "/", with(left, mark)...)})
	}
	check("no lines", nil, nil)
	others := []impl.Header{head("accept", "q"), head("x", ""), head("Accept", "r")}
	check("none", others, others)
	for i, name := range droppedNames {
		line := head(name, headValues[i])
		check("alone", []impl.Header{line}, nil)
		for place := range 4 {
			check("at a place", slices.Insert(slices.Clone(others), place, line), others)
			check("twice at a place", slices.Insert(slices.Clone(others), place, line, line), others)
		}
		for _, name := range droppedNames {
			other := head(name, "q")
			check("the first and the last", with([]impl.Header{line}, with(others, other)...), others)
			check("two side by side", []impl.Header{others[0], line, other, others[1], others[2]}, others)
			check("in turn", []impl.Header{line, others[0], other, others[1], line, others[2], other}, others)
		}
	}
	for _, name := range nearNames {
		check("a name that is near", []impl.Header{head(name, "q"), head("x", "y")}, []impl.Header{head(name, "q"), head("x", "y")})
	}
	var all []impl.Header
	for _, name := range droppedNames {
		all = append(all, head(name, "q"), head("x", name))
	}
	check("all of them", all, othersOf(othersOf(all, droppedNames[0]), droppedNames[4]))
}

func TestFetchForMarks(t *testing.T) {
	long := strings.Repeat("v", 200)
	for _, row := range []struct {
		what string
		list []impl.Header
		mark string
	}{
		{"no lines", nil, ""}, {"no mark", []impl.Header{head("a", "b"), head("Etags", "v"), head("If-None-Match", "v")}, ""},
		{"a mark", []impl.Header{head("ETag", "v1")}, "v1"}, {"small letters", []impl.Header{head("a", "b"), head("etag", "\"v1\"")}, "\"v1\""}, {"large letters", []impl.Header{head("ETAG", "W/\"v1\""), head("a", "b")}, "W/\"v1\""}, {"a long one", []impl.Header{head("ETag", long)}, long},
		{"two marks", []impl.Header{head("eTAG", "v1"), head("ETag", "v2")}, "v1"}, {"an empty mark", []impl.Header{head("ETag", "")}, ""}, {"an empty one ahead", []impl.Header{head("ETag", ""), head("ETag", "v2")}, ""}, {"an empty one behind", []impl.Header{head("ETag", "v1"), head("ETag", "")}, "v1"},
		{"as many lines as may be", with(sameLines(head("a", "b"), 19), head("ETag", "v1")), "v1"}, {"blanks inside", []impl.Header{head("ETag", "a, b\tc")}, "a, b\tc"},
	} {
		lines := []impl.Header{head("accept", "q")}
		if row.mark != "" {
			lines = append(lines, head("If-None-Match", row.mark))
		}
		r := request("GET", "A.com", "/y?b&a", head("if-none-match", "own"), head("accept", "q"))
		for _, status := range []int64{200, 404, 410} {
			e := headed(fullEntry("k"), row.list...)
			e.Status = status
			checkFetch(t, row.what, r, e, true, impl.RequestResult{Request: request("GET", "A.com", "/y?b&a", lines...)})
			checkFetch(t, row.what+", not there", r, e, false, impl.RequestResult{Request: request("GET", "A.com", "/y?b&a", lines[:1]...)})
		}
	}
}

// No room for the mark: that of the Host has to find room, too.
func TestFetchForRoom(t *testing.T) {
	e, mark := headed(plain("k"), head("ETag", "v1")), head("If-None-Match", "v1")
	for count := range 20 {
		lines := apartLines(count)
		left := lines
		if count <= 18 {
			left = with(lines, mark)
		}
		checkFetch(t, fmt.Sprint(count, " lines"), request("GET", "a", "/", lines...), e, true, impl.RequestResult{Request: request("GET", "a", "/", left...)})
		checkFetch(t, fmt.Sprint(count, " lines, no mark"), request("GET", "a", "/", lines...), plain("k"), true, impl.RequestResult{Request: request("GET", "a", "/", lines...)})
		checkFetch(t, fmt.Sprint(count, " lines, no entry"), request("GET", "a", "/", lines...), e, false, impl.RequestResult{Request: request("GET", "a", "/", lines...)})
		if count == 19 {
			continue
		}
		// One that goes makes room.
		for _, name := range droppedNames {
			checkFetch(t, fmt.Sprint(count, " lines, and one that goes"), request("GET", "a", "/", with(lines, head(name, "q"))...), e, true, impl.RequestResult{Request: request("GET", "a", "/", with(lines, mark)...)})
		}
	}
	told := impl.FetchFor(request("GET", "a", "/", apartLines(18)...), e, true).Request
	if impl.RequestFault(told) != impl.OK || impl.PackRequest(told).Code != impl.OK {
		t.Errorf("the fullest fetch has a fault: %q", told)
	}
	checkFetch(t, "20 lines", request("GET", "a", "/", apartLines(20)...), e, true, impl.RequestResult{Code: impl.ErrMany})
	checkFetch(t, "20 lines, one of which would go", request("GET", "a", "/", with(apartLines(19), head("If-None-Match", "q"))...), e, true, impl.RequestResult{Code: impl.ErrMany})
}

func TestEntryFrom(t *testing.T) {
	lines := []impl.Header{head("cache-control", "max-age=5, stale-while-revalidate=3, stale-if-error=2"), head("Age", "1"), head("Vary", "accept"), head("surrogate-key", "news  home news")}
	want := impl.Entry{
		Key: "a.com/y accept=q", Status: 200, Headers: lines, Body: []byte("x\x00\xff"), Meta: impl.Meta{At: 70, Age: 1000, Life: 5000, Swr: 3000, Sie: 2000}, Tags: []string{"news", "home", "news"},
	}
	checkFrom(t, "all told", want.Key, response(200, "x\x00\xff", lines...), impl.Ask{Names: []string{"Accept"}, Neg: 9, Now: 70}, impl.EntryResult{Entry: want})
	want.Status = 410
	checkFrom(t, "gone, all told", want.Key, response(410, "x\x00\xff", lines...), impl.Ask{Names: []string{"a", "ACCEPT"}, Neg: 9, Now: 70}, impl.EntryResult{Entry: want})
	for _, status := range []int64{404, 410} {
		checkFrom(t, "nothing told", "k", response(status, ""), impl.Ask{Neg: 9, Now: 70}, impl.EntryResult{Entry: impl.Entry{Key: "k", Status: status, Meta: impl.Meta{At: 70, Life: 9}}})
		checkFrom(t, "the greatest times", "k", response(status, ""), impl.Ask{Neg: impl.MaxTime, Now: impl.MaxTime}, impl.EntryResult{Entry: impl.Entry{Key: "k", Status: status, Meta: impl.Meta{At: impl.MaxTime, Life: impl.MaxTime}}})
		checkFrom(t, "the least times", "k", response(status, ""), impl.Ask{}, impl.EntryResult{Entry: impl.Entry{Key: "k", Status: status}})
	}
	for _, row := range []struct {
		text string
		meta impl.Meta
	}{
		{"max-age=0", impl.Meta{At: 3}}, {"no-cache, max-age=7", impl.Meta{At: 3, Life: 7000, NoCache: true}}, {"s-maxage=7, max-age=5, stale-if-error=9", impl.Meta{At: 3, Life: 7000}}, {"max-age=99999999999", impl.Meta{At: 3, Life: greatestDelta}},
	} {
		checkFrom(t, row.text, "k", response(200, "b", cache(row.text)...), impl.Ask{Now: 3}, impl.EntryResult{Entry: impl.Entry{Key: "k", Status: 200, Headers: cache(row.text), Body: []byte("b"), Meta: row.meta}})
	}
}

func TestEntryFromKeys(t *testing.T) {
	for _, count := range []int{0, 1, 2, 256, 499, 500, 501, 502, 1000, 100000} {
		for _, letter := range []string{"k", "\xff", "\x00", " "} {
			key, want := strings.Repeat(letter, count), impl.EntryResult{Code: impl.ErrMany}
			if count >= 1 && count <= 500 {
				want = impl.EntryResult{Entry: impl.Entry{Key: key, Status: 404}}
			} else {
				checkFrom(t, "a key, and all else is wrong", key, response(0, ""), impl.Ask{Names: []string{""}, Neg: -1, Now: -1}, want)
			}
			checkFrom(t, "a key", key, response(404, ""), impl.Ask{}, want)
		}
	}
	// It is counted in bytes.
	checkFrom(t, "251 letters of two bytes", strings.Repeat("\u00e4", 251), response(404, ""), impl.Ask{}, impl.EntryResult{Code: impl.ErrMany})
}

func TestEntryFromResponseFaults(t *testing.T) {
	for i, r := range manyResponses(4000) {
		a := impl.Ask{Names: []string{"accept"}, Neg: int64(i), Now: 5}
		want := entryFromWanted("k", r, a)
		if code := responseWanted(r); code != impl.OK {
			want = impl.EntryResult{Code: code}
			checkFrom(t, "a wrong response, and all behind it", "k", r, impl.Ask{Names: make([]string, 5), Neg: -1, Now: -1}, want)
		}
		checkFrom(t, "a response", "k", r, a, want)
	}
	for i, status := range toldStatuses {
		want := impl.EntryResult{Code: impl.ErrNone}
		switch {
		case i >= rightStatuses:
			want.Code = impl.ErrRange
		case status == 200 || status == 404 || status == 410:
			want = impl.EntryResult{Entry: impl.Entry{Key: "k", Status: status, Headers: []impl.Header{youngHead}, Meta: impl.Meta{Life: 5000}}}
		}
		checkFrom(t, "a Status", "k", response(status, "", youngHead), impl.Ask{}, want)
	}
	for i, body := range toldBodies {
		want := impl.EntryResult{Code: impl.ErrMany}
		if i < rightBodies {
			want = impl.EntryResult{Entry: impl.Entry{Key: "k", Status: 404, Body: []byte(body)}}
		}
		checkFrom(t, "a Body", "k", response(404, body), impl.Ask{}, want)
	}
}

// namesRow are Names of an Ask, with the code that is told of them.
type namesRow struct {
	names []string
	want  int64
}

func namesRows() []namesRow {
	word := strings.Repeat("N", 64)
	rows := []namesRow{
		{nil, impl.OK}, {[]string{}, impl.OK}, {[]string{"a"}, impl.OK}, {[]string{"a", "b", "c", "d"}, impl.OK}, {[]string{"a", "a", "A", "a"}, impl.OK}, {[]string{"*"}, impl.OK}, {[]string{word}, impl.OK}, {[]string{"Host"}, impl.OK},
		{[]string{"a", "b", "c", "d", "e"}, impl.ErrMany}, {make([]string, 5), impl.ErrMany}, {[]string{"", "b", "c", "d", "e"}, impl.ErrMany}, {make([]string, 1000), impl.ErrMany},
		{[]string{word + "n"}, impl.ErrText}, {make([]string, 4), impl.ErrText},
	}
	for _, name := range keyNames[rightKeyNames:] {
		for place := range 4 {
			names := []string{"a", "b", "c", "d"}
			names[place] = name
			rows = append(rows, namesRow{names, impl.ErrText})
		}
	}
	return rows
}

func TestEntryFromNames(t *testing.T) {
	for _, row := range namesRows() {
		want := impl.EntryResult{Code: row.want}
		if row.want == impl.OK {
			want = impl.EntryResult{Entry: impl.Entry{Key: "k", Status: 404, Meta: impl.Meta{Life: 1}}}
		}
		checkFrom(t, "Names", "k", response(404, ""), impl.Ask{Names: row.names, Neg: 1}, want)
		if row.want != impl.OK {
			checkFrom(t, "Names, and no time", "k", response(404, ""), impl.Ask{Names: row.names, Neg: -1, Now: -1}, want)
			checkFrom(t, "Names, and nothing may be kept", "k", response(500, "", apartLines(20)...), impl.Ask{Names: row.names}, want)
		}
	}
}

func TestEntryFromMetaCodes(t *testing.T) {
	none, beyond := impl.EntryResult{Code: impl.ErrNone}, impl.EntryResult{Code: impl.ErrRange}
	for _, n := range slices.Concat(spans, edgeNumbers) {
		for _, status := range []int64{200, 404, 410} {
			lines := []impl.Header{youngHead, head("Age", "2")}
			e := impl.Entry{Key: "k", Status: status, Headers: lines, Meta: impl.Meta{At: n, Age: 2000, Life: 5000}}
			wantNow, wantNeg := impl.EntryResult{Entry: e}, impl.EntryResult{Entry: e}
			wantNeg.Entry.Meta.At = 4
			if !isTime(n) {
				wantNow, wantNeg = beyond, beyond
				// These codes stand ahead of what else lets nothing be kept, but a Now behind what MetaOf asks of Life.
				for _, line := range []impl.Header{head("Vary", "x"), head("Surrogate-Key", "a b c d e f g h i j k")} {
					checkFrom(t, "Now, and "+line.Name, "k", response(status, "", with(lines, line)...), impl.Ask{Now: n}, beyond)
					checkFrom(t, "Neg, and "+line.Name, "k", response(status, "", with(lines, line)...), impl.Ask{Neg: n}, beyond)
				}
				checkFrom(t, "Now, and 18 lines", "k", response(status, "", with(lines, apartLines(16)...)...), impl.Ask{Now: n}, beyond)
				checkFrom(t, "Now, and no-store", "k", response(status, "", cache("no-store")...), impl.Ask{Now: n}, none)
				checkFrom(t, "Neg, and no-store", "k", response(status, "", cache("no-store")...), impl.Ask{Neg: n, Now: n}, beyond)
			}
			checkFrom(t, "Now", "k", response(status, "", lines...), impl.Ask{Now: n}, wantNow)
			checkFrom(t, "Neg", "k", response(status, "", lines...), impl.Ask{Neg: n, Now: 4}, wantNeg)
		}
	}
	for _, text := range []string{"no-store", "private, max-age=5", "max-age=5, no-store", "a b", "max-age=5, x=\"", strings.Repeat("x,", 21)} {
		for _, status := range []int64{200, 404, 410} {
			checkFrom(t, text, "k", response(status, "b", cache(text)...), impl.Ask{Neg: 5}, none)
		}
	}
	for _, list := range [][]impl.Header{nil, cache("public"), {head("Date", dateAt5)}, {head("Age", "5")}} {
		checkFrom(t, "no Life", "k", response(200, "b", list...), impl.Ask{Neg: 5}, none)
	}
	for status := int64(200); status < 600; status++ {
		if status != 200 && status != 404 && status != 410 {
			checkFrom(t, "a Status that is not kept", "k", response(status, "b", youngHead), impl.Ask{Neg: 5}, none)
		}
	}
}

func TestEntryFromVary(t *testing.T) {
	for _, row := range varyRows() {
		lines := []impl.Header{youngHead}
		for i, value := range row.values {
			lines = append(lines, head([]string{"Vary", "vary", "VARY"}[i%3], value), head("Varys", "*"))
		}
		want := impl.EntryResult{Code: impl.ErrNone}
		switch code := namesWanted(row.names); {
		case code != impl.OK:
			want.Code = code
		case row.want:
			want = impl.EntryResult{Entry: impl.Entry{Key: "k", Status: 200, Headers: lines, Meta: impl.Meta{At: 8, Life: 5000}}}
		}
		checkFrom(t, "Vary", "k", response(200, "", lines...), impl.Ask{Names: row.names, Now: 8}, want)
	}
}

func TestEntryFromLinesAndTags(t *testing.T) {
	for count := range 22 {
		lines := with([]impl.Header{youngHead}, apartLines(count)...)
		want := impl.EntryResult{Code: impl.ErrNone}
		if count+1 <= 17 {
			want = impl.EntryResult{Entry: impl.Entry{Key: "k", Status: 200, Headers: lines, Meta: impl.Meta{Life: 5000}}}
		} else if count+1 > 20 {
			want.Code = impl.ErrMany
		}
		checkFrom(t, fmt.Sprint(count+1, " lines"), "k", response(200, "", lines...), impl.Ask{}, want)
		// Lines that are alike are counted each.
		alike := sameLines(youngHead, count+1)
		if want.Code == impl.OK {
			want.Entry.Headers = alike
		}
		checkFrom(t, fmt.Sprint(count+1, " lines that are alike"), "k", response(200, "", alike...), impl.Ask{}, want)
	}
	for count := range 14 {
		tags := slices.Repeat([]string{"t"}, count)
		text := strings.Join(tags, "  ")
		lines := []impl.Header{youngHead, head("Surrogate-Key", text)}
		want := impl.EntryResult{Code: impl.ErrNone}
		if count <= 10 {
			want = impl.EntryResult{Entry: tagged(headed(plain("k"), lines...), tags...)}
			want.Entry.Meta = impl.Meta{Life: 5000}
		}
		checkFrom(t, fmt.Sprint(count, " tags"), "k", response(200, "", lines...), impl.Ask{}, want)
	}
	lines := []impl.Header{youngHead, head("Surrogate-Key", "a b"), head("SURROGATE-key", "c")}
	want := tagged(headed(plain("k"), lines...), "a", "b,", "c")
	want.Meta.Life = 5000
	checkFrom(t, "tags in two lines", "k", response(200, "", lines...), impl.Ask{}, impl.EntryResult{Entry: want})
	long := head("Surrogate-Key", "a b c d e f")
	checkFrom(t, "too many tags in two lines", "k", response(200, "", youngHead, long, long), impl.Ask{}, impl.EntryResult{Code: impl.ErrNone})
}

// mergeFault gives what a renewal is asked of a fault.
type mergeFault struct {
	what  string
	field string
	turn  func(e *impl.Entry, r *impl.Response, a *impl.Ask)
	want  int64
}

// mergeFaults stand in the order in which they are asked; those of one field undo one another.
func mergeFaults() []mergeFault {
	return []mergeFault{
		{"no key", "key", func(e *impl.Entry, r *impl.Response, a *impl.Ask) { e.Key = "" }, impl.ErrMany},
		{"a long key", "key", func(e *impl.Entry, r *impl.Response, a *impl.Ask) { e.Key = strings.Repeat("k", 501) }, impl.ErrMany},
		{"the entry's Status", "status of e", func(e *impl.Entry, r *impl.Response, a *impl.Ask) { e.Status = 304 }, impl.ErrRange},
		{"the entry's Pins", "pins", func(e *impl.Entry, r *impl.Response, a *impl.Ask) { e.Pins = 21 }, impl.ErrRange},
		{"the entry's lines", "lines of e", func(e *impl.Entry, r *impl.Response, a *impl.Ask) { e.Headers = []impl.Header{head("a", " b")} }, impl.ErrText},
		{"the entry's Tags", "tags", func(e *impl.Entry, r *impl.Response, a *impl.Ask) { e.Tags = make([]string, 11) }, impl.ErrMany},
		{"the entry's Body", "body of e", func(e *impl.Entry, r *impl.Response, a *impl.Ask) { e.Body = make([]byte, 2001) }, impl.ErrMany},
		{"the entry's Meta", "meta", func(e *impl.Entry, r *impl.Response, a *impl.Ask) { e.Meta.Age = -1 }, impl.ErrRange},
		{"a Status below", "status of r", func(e *impl.Entry, r *impl.Response, a *impl.Ask) { r.Status = 199 }, impl.ErrRange},
		{"a wrong line", "lines of r", func(e *impl.Entry, r *impl.Response, a *impl.Ask) { r.Headers = []impl.Header{head("a b", "")} }, impl.ErrText},
		{"a long line", "lines of r", func(e *impl.Entry, r *impl.Response, a *impl.Ask) {
			r.Headers = []impl.Header{head("a", strings.Repeat("v", 201))}
		}, impl.ErrMany},
		{"a long Body", "body of r", func(e *impl.Entry, r *impl.Response, a *impl.Ask) { r.Body = make([]byte, 2001) }, impl.ErrMany},
		{"another Status", "status of r", func(e *impl.Entry, r *impl.Response, a *impl.Ask) { r.Status = 200 }, impl.ErrState},
		{"many Names", "names", func(e *impl.Entry, r *impl.Response, a *impl.Ask) { a.Names = make([]string, 5) }, impl.ErrMany},
		{"a wrong Name", "names", func(e *impl.Entry, r *impl.Response, a *impl.Ask) { a.Names = []string{"a", "b c"} }, impl.ErrText},
		{"many lines", "lines of r", func(e *impl.Entry, r *impl.Response, a *impl.Ask) { r.Headers = apartLines(17) }, impl.ErrNone},
		{"Neg", "neg", func(e *impl.Entry, r *impl.Response, a *impl.Ask) { a.Neg = -1 }, impl.ErrRange},
		{"no-store", "lines of r", func(e *impl.Entry, r *impl.Response, a *impl.Ask) { r.Headers = cache("no-store") }, impl.ErrNone},
		{"Now", "now", func(e *impl.Entry, r *impl.Response, a *impl.Ask) { a.Now = impl.MaxTime + 1 }, impl.ErrRange},
		{"Vary", "lines of r", func(e *impl.Entry, r *impl.Response, a *impl.Ask) { r.Headers = []impl.Header{head("Vary", "other")} }, impl.ErrNone},
		{"tags that are many", "lines of r", func(e *impl.Entry, r *impl.Response, a *impl.Ask) {
			r.Headers = []impl.Header{head("Surrogate-Key", "a b c d e f g h i j k")}
		}, impl.ErrNone},
	}
}

func TestMergeCodesInOrder(t *testing.T) {
	faults := mergeFaults()
	for first := range faults {
		for later := first; later < len(faults); later++ {
			if later != first && faults[first].field == faults[later].field {
				continue
			}
			e, r, a := headed(fullEntry("k"), youngHead, head("ETag", "v1")), response(304, "", head("X", "y")), impl.Ask{Names: []string{"accept"}, Neg: 5, Now: 9}
			checkMerge(t, "right", e, r, a, mergeWanted(e, r, a))
			faults[later].turn(&e, &r, &a)
			faults[first].turn(&e, &r, &a)
			checkMerge(t, faults[first].what+" ahead of "+faults[later].what, e, r, a, impl.EntryResult{Code: faults[first].want})
		}
	}
}

func TestMergeEntryFaults(t *testing.T) {
	for _, from := range []impl.Entry{headed(plain("k"), youngHead), headed(fullEntry("k"), youngHead)} {
		for _, row := range entryRows() {
			e := headed(from, slices.Clone(from.Headers)...)
			row.turn(&e)
			want := impl.EntryResult{Code: row.want}
			if row.want == impl.OK {
				want = mergeWanted(e, response(304, "", head("Age", "1")), impl.Ask{Now: 6})
			} else {
				checkMerge(t, row.what+", and all behind it", e, response(0, ""), impl.Ask{Names: make([]string, 5), Now: -1}, want)
			}
			checkMerge(t, row.what, e, response(304, "", head("Age", "1")), impl.Ask{Now: 6}, want)
		}
	}
}

func TestMergeStatus(t *testing.T) {
	e := headed(plain("k"), youngHead)
	for status := int64(190); status < 610; status++ {
		want := impl.EntryResult{Code: impl.ErrState}
		switch {
		case status < 200 || status > 599:
			want.Code = impl.ErrRange
		case status == 304:
			want = impl.EntryResult{Entry: impl.Entry{Key: "k", Status: 200, Headers: e.Headers, Meta: impl.Meta{At: 6, Life: 5000}}}
		}
		checkMerge(t, "a Status", e, response(status, ""), impl.Ask{Now: 6}, want)
		if status != 304 {
			checkMerge(t, "a Status, and wrong Names", e, response(status, ""), impl.Ask{Names: []string{""}, Now: -1}, want)
		}
	}
	for _, row := range namesRows() {
		want := impl.EntryResult{Code: row.want}
		if row.want == impl.OK {
			want = impl.EntryResult{Entry: impl.Entry{Key: "k", Status: 200, Headers: e.Headers, Meta: impl.Meta{At: 6, Life: 5000}}}
		}
		checkMerge(t, "Names", e, response(304, ""), impl.Ask{Names: row.names, Now: 6}, want)
		if row.want != impl.OK {
			checkMerge(t, "Names, and many lines", e, response(304, "", apartLines(18)...), impl.Ask{Names: row.names, Now: -1}, want)
		}
	}
}

// mergedOf is the renewal at 60 of an entry that stays as long as youngHead tells.
func mergedOf(e impl.Entry, lines ...impl.Header) impl.EntryResult {
	e.Headers, e.Tags, e.Meta = lines, nil, impl.Meta{At: 60, Life: 5000}
	return impl.EntryResult{Entry: e}
}

func TestMergeLines(t *testing.T) {
	own := []impl.Header{youngHead, head("A", "1"), head("b", "2"), head("a", "3"), head("C", "4"), head("B", "5")}
	e := headed(impl.Entry{Key: "k", Status: 404, Body: []byte("body"), Tags: []string{"old"}}, own...)
	for _, row := range []struct {
		what string
		told []impl.Header
		want []impl.Header
	}{
		{"no lines", nil, own},
		{"one that replaces", []impl.Header{head("c", "9")}, []impl.Header{youngHead, own[1], own[2], own[3], head("c", "9"), own[5]}},
		{"one that replaces two", []impl.Header{head("a", "9")}, []impl.Header{youngHead, head("a", "9"), own[2], own[4], own[5]}},
		{"one that is added", []impl.Header{head("D", "")}, with(own, head("D", ""))},
		{"two that are added", []impl.Header{head("Z", "1"), head("D", "2")}, with(own, head("Z", "1"), head("D", "2"))},
		{"one that is added twice", []impl.Header{head("D", "1"), head("d", "2")}, with(own, head("d", "2"))},
		{"one that replaces twice", []impl.Header{head("C", "8"), head("c", "9")}, []impl.Header{youngHead, own[1], own[2], own[3], head("c", "9"), own[5]}},
		{"the last of three holds", []impl.Header{head("b", "7"), head("D", "0"), head("B", "8"), head("E", "1"), head("b", "9")}, []impl.Header{youngHead, own[1], head("b", "9"), own[3], own[4], head("D", "0"), head("E", "1")}},
		{"the same lines", own, []impl.Header{youngHead, head("a", "3"), head("B", "5"), head("C", "4")}},
		{"some of each", []impl.Header{head("E", "1"), head("A", "8"), head("C", ""), head("e", "2")}, []impl.Header{youngHead, head("A", "8"), own[2], head("C", ""), own[5], head("e", "2")}},
	} {
		checkMerge(t, row.what, e, response(304, "not this", row.told...), impl.Ask{Now: 60}, mergedOf(e, row.want...))
		for pins := range int64(21) {
			checkMerge(t, row.what+", pinned", pinned(e, pins), response(304, "", row.told...), impl.Ask{Now: 60}, mergedOf(pinned(e, pins), row.want...))
		}
	}
}

// Merged lines at their bound and beyond it, at the end.
func TestMergeBoundAtTheEnd(t *testing.T) {
	none := impl.EntryResult{Code: impl.ErrNone}
	for count := 1; count <= 20; count++ {
		own := with([]impl.Header{youngHead}, apartLines(count-1)...)
		e := headed(plain("k"), own...)
		for more := 0; more <= 20; more++ {
			var told, lines []impl.Header
			for i := range more {
				told = append(told, head(fmt.Sprint("more", i), "x"))
			}
			lines = with(own, told...)
			want := none
			if len(lines) <= 17 {
				want = mergedOf(e, lines...)
			}
			checkMerge(t, fmt.Sprint(more, " more lines than ", count), e, response(304, "", told...), impl.Ask{Now: 60}, want)
			if len(lines) > 17 {
				// That they are too many is asked ahead of times, even where none is set.
				checkMerge(t, "too many lines, and no time", e, response(304, "", told...), impl.Ask{Neg: -1, Now: -1}, none)
			}
		}
		want := none
		if count <= 17 {
			want = mergedOf(e, with([]impl.Header{head("cache-control", "max-age=5")}, own[1:]...)...)
		}
		checkMerge(t, fmt.Sprint("one that replaces among ", count), e, response(304, "", head("cache-control", "max-age=5")), impl.Ask{Now: 60}, want)
	}
}

// Merged lines beyond their bound on the way: only those in which each line is set are counted.
func TestMergeBoundOnTheWay(t *testing.T) {
	for alike := 1; alike <= 19; alike++ {
		for others := 0; 1+others+alike <= 20; others++ {
			own := with(with([]impl.Header{youngHead}, apartLines(others)...), sameLines(head("A", "1"), alike)...)
			e, left := headed(plain("k"), own...), own[:1+others]
			back := head("a", "2")
			for more := 0; more <= 19; more++ {
				var told []impl.Header
				for i := range more {
					told = append(told, head(fmt.Sprint("more", i), "x"))
				}
				want := impl.EntryResult{Code: impl.ErrNone}
				if lines := with(with(left, back), told...); len(lines) <= 17 {
					want = mergedOf(e, lines...)
				}
				// Where the one stands that sends those away that are alike does not tell.
				for _, place := range []int{0, more / 2, more} {
					what := fmt.Sprint(more, " more and one for ", alike, " of ", len(own), ", at ", place)
					r := response(304, "", slices.Insert(slices.Clone(told), place, back)...)
					checkMerge(t, what, e, r, impl.Ask{Now: 60}, want)
					if want.Code != impl.OK {
						checkMerge(t, what+", and no time", e, r, impl.Ask{Neg: -1, Now: -1}, want)
					} else {
						checkMerge(t, what+", and no time", e, r, impl.Ask{Now: -1}, impl.EntryResult{Code: impl.ErrRange})
					}
				}
			}
		}
	}
}

// The lines of a response send away those of the entry, and those that stand ahead of them in the response, whatever the order.
func TestMergeBoundInAnyOrder(t *testing.T) {
	own := with([]impl.Header{youngHead}, apartLines(16)...)
	own[3], own[9], own[16] = head("Link", "1"), head("link", "2"), head("LINK", "3")
	e, told := headed(plain("k"), own...), []impl.Header{head("Server", "s"), head("Link", "a"), head("Date", "d"), head("server", "t")}
	for i, order := range [][]int{{0, 1, 2, 3}, {1, 0, 2, 3}, {2, 3, 0, 1}, {3, 2, 1, 0}, {0, 2, 3, 1}, {2, 0, 1, 3}} {
		var r []impl.Header
		lines := own
		for _, at := range order {
			r, lines = append(r, told[at]), setAmong(lines, told[at])
		}
		if len(lines) != 17 {
			t.Fatalf("%d lines are left", len(lines))
		}
		checkMerge(t, fmt.Sprint("order ", i), e, response(304, "", r...), impl.Ask{Now: 60}, mergedOf(e, lines...))
		r = append(r, head("Via", "w"))
		checkMerge(t, fmt.Sprint("order ", i, ", and one more"), e, response(304, "", r...), impl.Ask{Now: 60}, impl.EntryResult{Code: impl.ErrNone})
	}
	full := headed(plain("k"), with([]impl.Header{youngHead}, sameLines(head("Link", "a"), 19)...)...)
	checkMerge(t, "21 on the way, 3 at the end", full, response(304, "", head("Server", "s"), head("Link", "a")), impl.Ask{Now: 60}, mergedOf(full, youngHead, head("Link", "a"), head("Server", "s")))
}

// What is renewed is told by the merged lines: its Meta, what it varies by, and its Tags.
func TestMergeRenews(t *testing.T) {
	old := impl.Meta{At: 900, Age: 8, Life: 7, Swr: 6, Sie: 5, Soft: true, NoCache: true}
	none := impl.EntryResult{Code: impl.ErrNone}
	for _, row := range []struct {
		what      string
		own, told []impl.Header
		names     []string
		meta      impl.Meta
		tags      []string
		code      int64
	}{
		{"Life of the entry", cache("max-age=4"), nil, nil, impl.Meta{At: 60, Life: 4000}, nil, impl.OK},
		{"Life of the response", cache("max-age=4"), cache("max-age=9, stale-while-revalidate=2, stale-if-error=3"), nil, impl.Meta{At: 60, Life: 9000, Swr: 2000, Sie: 3000}, nil, impl.OK},
		{"Age of the entry", with(cache("max-age=4"), head("Age", "3")), nil, nil, impl.Meta{At: 60, Age: 3000, Life: 4000}, nil, impl.OK},
		{"Age of the response", with(cache("max-age=4"), head("age", "3")), []impl.Header{head("AGE", "1")}, nil, impl.Meta{At: 60, Age: 1000, Life: 4000}, nil, impl.OK},
		{"asked for anew each time", cache("max-age=4"), cache("no-cache, max-age=4"), nil, impl.Meta{At: 60, Life: 4000, NoCache: true}, nil, impl.OK},
		{"no more asked for anew each time", cache("no-cache, max-age=4"), cache("max-age=4"), nil, impl.Meta{At: 60, Life: 4000}, nil, impl.OK},
		{"dates of both", []impl.Header{head("Expires", dateAt9), head("Date", firstDate)}, []impl.Header{head("date", dateAt5)}, nil, impl.Meta{At: 60, Life: 4000}, nil, impl.OK},
		{"no more kept", cache("max-age=4"), cache("no-store"), nil, impl.Meta{}, nil, impl.ErrNone},
		{"kept again", cache("no-store"), cache("max-age=4"), nil, impl.Meta{At: 60, Life: 4000}, nil, impl.OK},
		{"one of two lines is not kept", with(cache("max-age=4"), cache("no-store")...), cache("max-age=6"), nil, impl.Meta{At: 60, Life: 6000}, nil, impl.OK},
		{"it varies", cache("max-age=4"), []impl.Header{head("Vary", "accept")}, nil, impl.Meta{}, nil, impl.ErrNone},
		{"it varies by a name", cache("max-age=4"), []impl.Header{head("Vary", "accept")}, []string{"Accept"}, impl.Meta{At: 60, Life: 4000}, nil, impl.OK},
		{"it varies no more", with(cache("max-age=4"), head("Vary", "*")), []impl.Header{head("vary", "")}, nil, impl.Meta{At: 60, Life: 4000}, nil, impl.OK},
		{"it varied by what is no name any more", with(cache("max-age=4"), head("Vary", "accept")), nil, []string{"other"}, impl.Meta{}, nil, impl.ErrNone},
		{"tags of the entry", with(cache("max-age=4"), head("Surrogate-Key", "a b")), nil, nil, impl.Meta{At: 60, Life: 4000}, []string{"a", "b"}, impl.OK},
		{"tags of the response", with(cache("max-age=4"), head("Surrogate-Key", "a b")), []impl.Header{head("surrogate-key", "c")}, nil, impl.Meta{At: 60, Life: 4000}, []string{"c"}, impl.OK},
		{"tags are gone", with(cache("max-age=4"), head("Surrogate-Key", "a b")), []impl.Header{head("surrogate-key", "")}, nil, impl.Meta{At: 60, Life: 4000}, nil, impl.OK},
		{"too many tags", cache("max-age=4"), []impl.Header{head("Surrogate-Key", "a b c d e f g h i j k")}, nil, impl.Meta{}, nil, impl.ErrNone},
		{"too many tags ahead", with(cache("max-age=4"), head("Surrogate-Key", "a b c d e f g h i j k")), []impl.Header{head("Surrogate-Key", "a")}, nil, impl.Meta{At: 60, Life: 4000}, []string{"a"}, impl.OK},
	} {
		e := impl.Entry{Key: "k", Status: 200, Headers: row.own, Body: []byte("body"), Meta: old, Tags: []string{"old", "older"}, Pins: 7}
		lines, want := row.own, none
		for _, line := range row.told {
			lines = setWanted(lines, line.Name, line.Value).Headers
		}
		if row.code == impl.OK {
			want = impl.EntryResult{Entry: impl.Entry{Key: "k", Status: 200, Headers: lines, Body: e.Body, Meta: row.meta, Tags: row.tags, Pins: 7}}
		}
		checkMerge(t, row.what, e, response(304, "not this", row.told...), impl.Ask{Names: row.names, Neg: 77, Now: 60}, want)
	}
}

// The Status of the entry tells whether Neg counts, not that of the response; a Now ahead of At is none of its codes.
func TestMergeByTheEntrysStatus(t *testing.T) {
	for _, n := range slices.Concat(spans, edgeNumbers) {
		for _, status := range []int64{200, 404, 410} {
			e := fullEntry("k")
			e.Headers, e.Status = nil, status
			byNeg, byNow := impl.EntryResult{Code: impl.ErrRange}, impl.EntryResult{Code: impl.ErrRange}
			if status == 200 {
				byNow = impl.EntryResult{Code: impl.ErrNone}
			}
			if isTime(n) {
				byNeg = impl.EntryResult{Entry: impl.Entry{Key: "k", Status: status, Body: e.Body, Meta: impl.Meta{At: 60, Life: n}, Pins: 3}}
				byNow = impl.EntryResult{Entry: impl.Entry{Key: "k", Status: status, Body: e.Body, Meta: impl.Meta{At: n, Life: 8}, Pins: 3}}
				if status == 200 {
					byNeg, byNow = impl.EntryResult{Code: impl.ErrNone}, impl.EntryResult{Code: impl.ErrNone}
				}
			}
			checkMerge(t, "Neg", e, response(304, ""), impl.Ask{Neg: n, Now: 60}, byNeg)
			checkMerge(t, "Now", e, response(304, ""), impl.Ask{Neg: 8, Now: n}, byNow)
		}
	}
	e := headed(plain("k"), youngHead)
	e.Meta.At = 500
	checkMerge(t, "ahead of At", e, response(304, ""), impl.Ask{Now: 60}, mergedOf(e, youngHead))
}

func TestAnswerCodesInOrder(t *testing.T) {
	wrongSources := []string{"", "a b", "hit ", "a:", "\u212a", "\xff", "hit\n", strings.Repeat("s", 65), strings.Repeat("s", 5000)}
	full := headed(plain("k"), apartLines(20)...)
	for _, from := range []impl.Entry{plain("k"), fullEntry("k")} {
		for _, row := range entryRows() {
			e := headed(from, slices.Clone(from.Headers)...)
			row.turn(&e)
			want := impl.ResponseResult{Code: row.want}
			if row.want == impl.OK {
				want = answerWanted(e, impl.MaxTime, "hit", false)
			} else {
				checkAnswer(t, row.what+", and all behind it", e, -1, "", true, want)
			}
			checkAnswer(t, row.what, e, impl.MaxTime, "hit", false, want)
		}
	}
	for _, n := range slices.Concat(spans, edgeNumbers) {
		for _, e := range []impl.Entry{plain("k"), fullEntry("k"), full} {
			e.Meta.At = 1000
			if !isTime(n) || n < 1000 {
				for _, source := range append(wrongSources, "hit") {
					checkAnswer(t, "Now", e, n, source, false, impl.ResponseResult{Code: impl.ErrRange})
				}
				continue
			}
			for _, source := range wrongSources {
				checkAnswer(t, "a source", e, n, source, n%2 == 0, impl.ResponseResult{Code: impl.ErrText})
			}
		}
	}
	checkAnswer(t, "no room", full, 0, "hit", false, impl.ResponseResult{Code: impl.ErrMany})
	for _, source := range []string{"h", "hit", "stale", "RENEWED", "~!#", strings.Repeat("s", 64)} {
		checkAnswer(t, "a source", plain("k"), 0, source, false, impl.ResponseResult{Response: response(200, "", head("Age", "0"), head("X-Cache", source))})
	}
}

func TestAnswerAges(t *testing.T) {
	for _, row := range []struct {
		at, age, now int64
		want         string
	}{
		{0, 0, 0, "0"}, {0, 0, 999, "0"}, {0, 0, 1000, "1"}, {0, 0, 1001, "1"}, {0, 0, 1999, "1"}, {0, 0, 2000, "2"}, {5, 0, 1004, "0"}, {5, 0, 1005, "1"},
		{0, 999, 0, "0"}, {0, 999, 1, "1"}, {0, 1000, 0, "1"}, {500, 1500, 999, "1"}, {500, 1500, 1000, "2"}, {1000, 0, 1000, "0"}, {1000, 0, 1999, "0"}, {1000, 0, 2000, "1"}, {0, 0, 9999, "9"}, {0, 0, 10000, "10"}, {7, 993, 99999013, "99999"}, {7, 993, 99999014, "100000"},
		{0, 0, impl.MaxTime, "1000000000000"}, {0, 0, impl.MaxTime - 1, "999999999999"}, {0, impl.MaxTime, 0, "1000000000000"}, {0, impl.MaxTime, impl.MaxTime, "1000000000000"}, {1, impl.MaxTime - 1, 1, "999999999999"}, {impl.MaxTime, 0, impl.MaxTime, "0"}, {1, 1, impl.MaxTime, "1000000000000"}, {2, 1, impl.MaxTime, "999999999999"},
	} {
		// Neither its Life nor its marks tell of its age: it is told however old it is.
		for _, m := range markings(impl.Meta{At: row.at, Age: row.age, Life: 3, Swr: 4, Sie: 5}) {
			e := impl.Entry{Key: "k", Status: 410, Body: []byte("body"), Meta: m}
			lines := []impl.Header{head("Age", row.want), head("X-Cache", "hit")}
			checkAnswer(t, "an age", e, row.now, "hit", false, impl.ResponseResult{Response: response(410, "body", lines...)})
			checkAnswer(t, "an age, only the head", e, row.now, "hit", true, impl.ResponseResult{Response: response(410, "", lines...)})
		}
	}
}

func TestAnswerLines(t *testing.T) {
	age, from := head("Age", "2"), head("X-Cache", "stale")
	a, b := head("A", "1"), head("b", "2")
	for _, row := range []struct {
		what string
		own  []impl.Header
		want []impl.Header
	}{
		{"none", nil, []impl.Header{age, from}}, {"others", []impl.Header{a, b, a}, []impl.Header{a, b, a, age, from}},
		{"an age", []impl.Header{head("Age", "77"), a}, []impl.Header{age, a, from}}, {"an age in small letters", []impl.Header{a, head("age", "77"), b}, []impl.Header{a, age, b, from}}, {"an age in large letters", []impl.Header{a, head("AGE", "")}, []impl.Header{a, age, from}},
		{"a source", []impl.Header{head("X-Cache", "hit"), a}, []impl.Header{from, a, age}}, {"a source in small letters", []impl.Header{a, head("x-cache", "hit"), b}, []impl.Header{a, from, b, age}}, {"a source in large letters", []impl.Header{a, head("X-CACHE", "hit")}, []impl.Header{a, from, age}},
		{"both", []impl.Header{head("x-Cache", "hit"), a, head("aGe", "77")}, []impl.Header{from, a, age}}, {"both, often", []impl.Header{head("age", "1"), head("x-cache", "2"), a, head("AGE", "3"), head("Age", "4"), head("X-Cache", "5"), b}, []impl.Header{age, from, a, b}},
		{"names that are near", []impl.Header{head("Ages", "1"), head("X-Cached", "2"), head("Cache", "3"), head("X_Cache", "4")}, []impl.Header{head("Ages", "1"), head("X-Cached", "2"), head("Cache", "3"), head("X_Cache", "4"), age, from}},
	} {
		for _, status := range []int64{200, 404, 410} {
			for _, only := range []bool{false, true} {
				e := impl.Entry{Key: "k", Status: status, Headers: row.own, Body: []byte("\x00body"), Meta: impl.Meta{At: 10, Age: 500}, Tags: []string{"t"}, Pins: 2}
				checkAnswer(t, row.what, e, 1510, "stale", only, impl.ResponseResult{Response: response(status, bodyWanted(e.Body, only), row.want...)})
			}
		}
	}
}

// Room for both lines, for one of them and for none.
func TestAnswerRoom(t *testing.T) {
	age, from := head("Age", "0"), head("X-Cache", "hit")
	many := impl.ResponseResult{Code: impl.ErrMany}
	for count := range 21 {
		own := apartLines(count)
		both, oneAge, oneFrom := many, many, many
		if count <= 18 {
			both = impl.ResponseResult{Response: response(200, "", with(own, age, from)...)}
			oneAge, oneFrom = impl.ResponseResult{Response: response(200, "", with(with([]impl.Header{age}, own...), from)...)}, impl.ResponseResult{Response: response(200, "", with(with([]impl.Header{from}, own...), age)...)}
		}
		checkAnswer(t, fmt.Sprint(count, " lines"), headed(plain("k"), own...), 0, "hit", false, both)
		if count == 20 {
			continue
		}
		checkAnswer(t, fmt.Sprint(count, " lines and an age"), headed(plain("k"), with([]impl.Header{head("age", "9")}, own...)...), 0, "hit", false, oneAge)
		checkAnswer(t, fmt.Sprint(count, " lines and a source"), headed(plain("k"), with([]impl.Header{head("x-cache", "9")}, own...)...), 0, "hit", false, oneFrom)
		if count <= 18 {
			checkAnswer(t, fmt.Sprint(count, " lines and both"), headed(plain("k"), with(own, head("x-cache", "9"), head("age", "9"))...), 0, "hit", false, impl.ResponseResult{Response: response(200, "", with(own, from, age)...)})
		}
	}
}

// Lines that are there twice make room, each of both for the other one: only those in which both are set are counted.
func TestAnswerRoomOnTheWay(t *testing.T) {
	age, from := head("Age", "2"), head("X-Cache", "hit")
	many := impl.ResponseResult{Code: impl.ErrMany}
	for others := range 21 {
		for ages := 0; others+ages <= 20; ages++ {
			for sources := 0; others+ages+sources <= 20; sources++ {
				left := apartLines(others)
				own := with(with(left, sameLines(head("age", "9"), ages)...), sameLines(head("x-cache", "a"), sources)...)
				want := many
				if others <= 18 {
					want = impl.ResponseResult{Response: response(200, "", with(left, age, from)...)}
				}
				if others <= 18 && sources > 0 && ages == 0 {
					want.Response.Headers = with(left, from, age)
				}
				what := fmt.Sprint(others, " lines, ", ages, " ages, ", sources, " sources")
				e := headed(plain("k"), own...)
				checkAnswer(t, what, e, 2000, "hit", false, want)
				// Who stands first does not tell whether there is room.
				e.Headers = with(with(sameLines(head("X-CACHE", "a"), sources), sameLines(head("AGE", "9"), ages)...), left...)
				if got := impl.AnswerOf(e, 2999, "hit", false); !sameAnswer(got, answerWanted(e, 2000, "hit", false)) || got.Code != want.Code {
					t.Errorf("%s, turned round: %d %s", what, got.Code, shownResponse(got.Response))
				}
			}
		}
	}
	twice := headed(plain("k"), with(sameLines(head("X-Cache", "a"), 2), apartLines(18)...)...)
	checkAnswer(t, "21 on the way, 20 at the end", twice, 2000, "hit", false, impl.ResponseResult{Response: response(200, "", with(with([]impl.Header{from}, apartLines(18)...), age)...)})
	twice.Headers = with(apartLines(18), head("AGE", "8"), head("age", "9"))
	checkAnswer(t, "two ages among 20", twice, 2000, "hit", false, impl.ResponseResult{Response: response(200, "", with(apartLines(18), age, from)...)})
	twice.Headers = with(apartLines(19), head("x-cache", "9"))
	checkAnswer(t, "one source among 20", twice, 2000, "hit", false, many)
	checkAnswer(t, "one source among 20, and no word", twice, 2000, "a b", false, impl.ResponseResult{Code: impl.ErrText})
}

func TestRelayOf(t *testing.T) {
	from := head("X-Cache", "miss")
	for _, r := range manyResponses(4000) {
		for _, only := range []bool{false, true} {
			checkRelay(t, "a response", r, only, relayWanted(r, only))
		}
	}
	for status := int64(190); status < 610; status++ {
		want := impl.ResponseResult{Code: impl.ErrRange}
		if status >= 200 && status <= 599 {
			want = impl.ResponseResult{Response: response(status, "b", from)}
		}
		checkRelay(t, "a Status", response(status, "b"), false, want)
	}
	for count := range 23 {
		for _, only := range []bool{false, true} {
			lines := apartLines(count)
			body := bodyWanted([]byte("body"), only)
			want := impl.ResponseResult{Code: impl.ErrMany}
			if count < 20 {
				want = impl.ResponseResult{Response: response(200, body, with(lines, from)...)}
			} else if count == 20 {
				want = impl.ResponseResult{Response: response(200, body, lines...)}
			}
			checkRelay(t, fmt.Sprint(count, " lines"), response(200, "body", lines...), only, want)
			// Where there is such a line, there is always room.
			for _, name := range []string{"X-Cache", "x-cache", "X-CACHE"} {
				for _, place := range []int{0, count / 2, count} {
					own, left := slices.Insert(slices.Clone(lines), place, head(name, "hit")), slices.Insert(slices.Clone(lines), place, from)
					want := impl.ResponseResult{Code: impl.ErrMany}
					if len(own) <= 20 {
						want = impl.ResponseResult{Response: response(500, body, left...)}
					}
					checkRelay(t, fmt.Sprint(count, " lines and a source"), response(500, "body", own...), only, want)
				}
			}
		}
	}
	checkRelay(t, "three sources among 20", response(304, "", with(apartLines(17), head("x-cache", "1"), head("X-Cache", "2"), head("X-CACHE", "3"))...), false, impl.ResponseResult{Response: response(304, "", with(apartLines(17), from)...)})
	checkRelay(t, "a name that is near among 20", response(200, "", with(apartLines(19), head("X-Cached", "1"))...), false, impl.ResponseResult{Response: response(200, "", with(apartLines(19), head("X-Cached", "1"))...)})
	checkRelay(t, "the head of one with a wrong Body", response(200, strings.Repeat("b", 2001)), true, impl.ResponseResult{Code: impl.ErrMany})
}

func TestErrorOf(t *testing.T) {
	statuses := slices.Concat(edgeNumbers, toldStatuses)
	for status := int64(-10); status < 1010; status++ {
		statuses = append(statuses, status)
	}
	for _, status := range statuses {
		want := impl.ResponseResult{Code: impl.ErrRange}
		if status >= 400 && status <= 599 {
			want = impl.ResponseResult{Response: impl.Response{Status: status, Headers: []impl.Header{head("X-Cache", "error")}}}
		}
		if got := impl.ErrorOf(status); !sameAnswer(got, want) {
			t.Errorf("ErrorOf(%d) = %d %s", status, got.Code, shownResponse(got.Response))
		}
	}
	for _, status := range []int64{400, 599} {
		if got := impl.ErrorOf(status); got.Code != impl.OK || impl.ResponseFault(got.Response) != impl.OK {
			t.Errorf("ErrorOf(%d) = %+v", status, got)
		}
	}
	for _, status := range []int64{399, 600, math.MinInt64, math.MaxInt64, 1<<32 + 404} {
		if got := impl.ErrorOf(status); !sameAnswer(got, impl.ResponseResult{Code: impl.ErrRange}) {
			t.Errorf("ErrorOf(%d) = %+v", status, got)
		}
	}
}

// mergeNames are those that chapter 13 looks for, and others, so that lines meet or stand apart.
var mergeNames = slices.Concat(droppedNames, nearNames, []string{"X-Cache", "x-cache", "AGE", "age", "A", "a", "B", "C", "D", "E", "F", "G", "H", "I", "J", "K", "L", "M", "N"})

// chosenLines have no fault, and most of them let an answer be kept.
func chosenLines(source *rand.Rand, most int) []impl.Header {
	count, names := source.Intn(most+1), mergeNames
	if source.Intn(6) == 0 {
		count = most
	}
	if source.Intn(2) == 0 {
		names = mergeNames[len(droppedNames):]
	}
	list := chosenPolicyHeads(source, count/3, 0)
	for len(list) < count {
		list = append(list, head(names[source.Intn(len(names))], headValues[source.Intn(rightValues)]))
	}
	if source.Intn(3) > 0 && count > 0 {
		list[0] = head("Cache-Control", []string{"max-age=5", "max-age=9, stale-while-revalidate=2", "s-maxage=3", "no-cache, max-age=1"}[source.Intn(4)])
	}
	source.Shuffle(len(list), func(i, j int) { list[i], list[j] = list[j], list[i] })
	return list
}

// mergeArguments stand for a call of each function of chapter 13.
type mergeArguments struct {
	request  impl.Request
	entry    impl.Entry
	has      bool
	key      string
	response impl.Response
	fresh    impl.Response
	ask      impl.Ask
	now      int64
	source   string
	only     bool
	status   int64
}

func chosenMergeArguments(source *rand.Rand) mergeArguments {
	a := mergeArguments{
		request: chosenRequest(source, 0), entry: chosenEntry(source, storeKeys[source.Intn(len(storeKeys))], 0), has: source.Intn(3) > 0, key: storeKeys[source.Intn(len(storeKeys))],
		source: []string{"hit", "stale", "renewed", "miss"}[source.Intn(4)], only: source.Intn(3) == 0, status: 390 + source.Int63n(220),
	}
	a.request.Headers = chosenLines(source, 19)
	a.entry.Headers = chosenLines(source, []int{4, 16, 18, 20}[source.Intn(4)])
	a.response = response(304, toldBodies[source.Intn(rightBodies)], chosenLines(source, []int{2, 5, 20}[source.Intn(3)])...)
	a.fresh = response([]int64{200, 200, 200, 404, 410, 304, 500}[source.Intn(7)], toldBodies[source.Intn(rightBodies)], chosenLines(source, []int{4, 16, 18, 20}[source.Intn(4)])...)
	a.ask = impl.Ask{Names: []string{"accept", "Age", "b", "C"}[:source.Intn(5)], Neg: chosenTime(source), Now: chosenTime(source)}
	a.now = min(impl.MaxTime, a.entry.Meta.At+[]int64{0, 1, 999, 1000, 1001, 5000, 123456}[source.Intn(7)])
	return a
}

// turnMergeWrongly gives one of the arguments a fault most of the time.
func turnMergeWrongly(source *rand.Rand, a *mergeArguments) {
	n := edgeNumbers[source.Intn(len(edgeNumbers))]
	switch source.Intn(10) {
	case 0:
		a.request = chosenRequest(source, 1)
	case 1, 2:
		a.entry = chosenEntry(source, a.entry.Key, 1)
	case 3:
		a.key = []string{"", strings.Repeat("k", 501)}[source.Intn(2)]
	case 4:
		a.response = chosenResponse(source, 1)
	case 5:
		a.fresh = chosenResponse(source, 1)
	case 6:
		a.ask.Names = chosenNames(source, 6)
	case 7:
		*[]*int64{&a.ask.Neg, &a.ask.Now, &a.now, &a.status}[source.Intn(4)] = n
	case 8:
		a.now = a.entry.Meta.At - 1
	case 9:
		a.source = headNames[source.Intn(len(headNames))]
	}
}

// manyMerged have a fault one time in so many (none, where that is 0).
func manyMerged(seed int64, count, wrong int) []mergeArguments {
	source := rand.New(rand.NewSource(seed))
	list := make([]mergeArguments, count)
	for i := range list {
		list[i] = chosenMergeArguments(source)
		if wrong > 0 && source.Intn(wrong) == 0 {
			turnMergeWrongly(source, &list[i])
		}
	}
	return list
}

type mergeAnswers struct {
	fetch   impl.RequestResult
	entries [2]impl.EntryResult
	told    [4]impl.ResponseResult
}

func askMerge(a mergeArguments) mergeAnswers {
	return mergeAnswers{
		fetch:   impl.FetchFor(a.request, a.entry, a.has),
		entries: [2]impl.EntryResult{impl.EntryFrom(a.key, a.fresh, a.ask), impl.MergeEntry(a.entry, a.response, a.ask)},
		told:    [4]impl.ResponseResult{impl.AnswerOf(a.entry, a.now, a.source, a.only), impl.RelayOf(a.fresh, a.only), impl.RelayOf(a.response, !a.only), impl.ErrorOf(a.status)},
	}
}

func mergesWanted(a mergeArguments) mergeAnswers {
	return mergeAnswers{
		fetch:   fetchWanted(a.request, a.entry, a.has),
		entries: [2]impl.EntryResult{entryFromWanted(a.key, a.fresh, a.ask), mergeWanted(a.entry, a.response, a.ask)},
		told:    [4]impl.ResponseResult{answerWanted(a.entry, a.now, a.source, a.only), relayWanted(a.fresh, a.only), relayWanted(a.response, !a.only), errorWanted(a.status)},
	}
}

func (a mergeAnswers) equals(b mergeAnswers) bool {
	for i, told := range a.told {
		if !sameAnswer(told, b.told[i]) {
			return false
		}
	}
	return sameFetch(a.fetch, b.fetch) && samePeek(a.entries[0], b.entries[0]) && samePeek(a.entries[1], b.entries[1])
}

// mostOnTheWay is how many lines there are at most while those of told are set.
func mostOnTheWay(own, told []impl.Header) int {
	most := len(own)
	for _, line := range told {
		own = setAmong(own, line)
		most = max(most, len(own))
	}
	return most
}

func TestManyMerges(t *testing.T) {
	codes, turns := map[string]map[int64]int{"fetch": {}, "from": {}, "merge": {}, "answer": {}, "relay": {}, "error": {}}, map[string]int{}
	for i, a := range manyMerged(101, 20000, 3) {
		got, want := askMerge(a), mergesWanted(a)
		if !got.equals(want) {
			t.Fatalf("%d: %+v:\n%+v\nwant\n%+v", i, a, got, want)
		}
		codes["fetch"][got.fetch.Code]++
		codes["from"][got.entries[0].Code]++
		codes["merge"][got.entries[1].Code]++
		codes["answer"][got.told[0].Code]++
		codes["relay"][got.told[1].Code]++
		codes["error"][got.told[3].Code]++
		if got.entries[0].Code == impl.OK && len(got.entries[0].Entry.Tags) > 0 {
			turns["kept with tags"]++
		}
		if lines := got.entries[1].Entry.Headers; got.entries[1].Code == impl.OK && len(lines) == 17 {
			turns["merged at the bound"]++
		}
		if got.entries[1].Code == impl.OK && mostOnTheWay(a.entry.Headers, a.response.Headers) > 17 {
			turns["merged beyond the bound on the way"]++
		}
		if got.told[0].Code == impl.OK && mostOnTheWay(a.entry.Headers, []impl.Header{head("Age", ""), head("X-Cache", "")}) > 20 {
			turns["answered beyond the bound on the way"]++
		}
		if got.fetch.Code == impl.OK && len(valuesOf(got.fetch.Request.Headers, "if-none-match")) > 0 {
			turns["marked"]++
		}
		if got.told[1].Code == impl.OK && len(valuesOf(got.told[1].Response.Headers, "x-cache")) == 0 {
			turns["relayed without room"]++
		}
	}
	for what, wanted := range map[string][]int64{
		"fetch": {impl.OK, impl.ErrMany, impl.ErrRange, impl.ErrText, impl.ErrTaken}, "from": {impl.OK, impl.ErrMany, impl.ErrRange, impl.ErrNone, impl.ErrText}, "merge": {impl.OK, impl.ErrMany, impl.ErrRange, impl.ErrNone, impl.ErrText, impl.ErrState},
		"answer": {impl.OK, impl.ErrMany, impl.ErrRange, impl.ErrText}, "relay": {impl.OK, impl.ErrMany, impl.ErrRange, impl.ErrText}, "error": {impl.OK, impl.ErrRange},
	} {
		for _, code := range wanted {
			if codes[what][code] < 20 {
				t.Errorf("only %d times %s told the code %d", codes[what][code], what, code)
			}
		}
	}
	for _, turn := range []string{"kept with tags", "merged at the bound", "merged beyond the bound on the way", "answered beyond the bound on the way", "marked", "relayed without room"} {
		if turns[turn] < 50 {
			t.Errorf("only %d times: %s", turns[turn], turn)
		}
	}
}

// Promise 14: an answer that is kept is told as it came: its Status, its Body, and all lines but the two that are set.
func TestPromise14WhatIsKeptIsToldAsItCame(t *testing.T) {
	kept, bodies := 0, 0
	for i, a := range manyMerged(102, 8000, 0) {
		from := impl.EntryFrom(a.key, a.fresh, a.ask)
		if from.Code != impl.OK {
			continue
		}
		if impl.EntryFault(from.Entry) != impl.OK || from.Entry.Key != a.key || from.Entry.Pins != 0 {
			t.Fatalf("%d: %s is kept under %s", i, shownEntry(from.Entry), shown(a.key))
		}
		for _, later := range []int64{0, 999, 1000, 50000} {
			now := min(impl.MaxTime, a.ask.Now+later)
			told := impl.AnswerOf(from.Entry, now, a.source, false)
			// What is kept by EntryFrom has always room for the two lines.
			if told.Code != impl.OK || told.Response.Status != a.fresh.Status || string(told.Response.Body) != string(a.fresh.Body) {
				t.Fatalf("%d: %s came, and %d %s is told", i, shownResponse(a.fresh), told.Code, shownResponse(told.Response))
			}
			others := func(list []impl.Header) []impl.Header { return othersOf(othersOf(list, "age"), "x-cache") }
			if !slices.Equal(others(told.Response.Headers), others(a.fresh.Headers)) {
				t.Fatalf("%d: %q came, and %q is told", i, a.fresh.Headers, told.Response.Headers)
			}
			age := strconv.FormatInt(impl.AgeAt(from.Entry.Meta, now).Value/1000, 10)
			if !slices.Equal(valuesOf(told.Response.Headers, "age"), []string{age}) || !slices.Equal(valuesOf(told.Response.Headers, "x-cache"), []string{a.source}) {
				t.Fatalf("%d: %q is told at %d, %s", i, told.Response.Headers, now, age)
			}
			only := impl.AnswerOf(from.Entry, now, a.source, true)
			if only.Code != impl.OK || len(only.Response.Body) != 0 || !sameTold(response(only.Response.Status, string(a.fresh.Body), only.Response.Headers...), told.Response) {
				t.Fatalf("%d: the head alone is %s", i, shownResponse(only.Response))
			}
		}
		kept++
		bodies += len(a.fresh.Body)
	}
	if kept < 1500 || bodies < 100000 {
		t.Errorf("only %d were kept, %d bytes", kept, bodies)
	}
}

// Promise 14: what is kept can be put, and is found, and told as it came, in a store, too.
func TestPromise14WhatIsKeptCanBePut(t *testing.T) {
	put := 0
	for i, a := range manyMerged(103, 3000, 0) {
		from := impl.EntryFrom(a.key, a.fresh, a.ask)
		if from.Code != impl.OK {
			continue
		}
		told := impl.PutEntry(impl.NewStore(100000, 50000).Store, from.Entry)
		peek := impl.PeekEntry(told.Store, a.key)
		if told.Code != impl.OK || !samePeek(peek, from) {
			t.Fatalf("%d: %s was put, and %d %s is there", i, shownEntry(from.Entry), peek.Code, shownEntry(peek.Entry))
		}
		put++
	}
	if put < 500 {
		t.Errorf("only %d were put", put)
	}
}

// Promise 14: one that is renewed keeps its body and is young again.
func TestPromise14WhatIsRenewedIsYoungAgain(t *testing.T) {
	renewed, fresh, older := 0, 0, 0
	for i, a := range manyMerged(104, 12000, 0) {
		a.entry.Meta.Soft = i%2 == 0
		told := impl.MergeEntry(a.entry, a.response, a.ask)
		if told.Code != impl.OK {
			continue
		}
		renewed++
		e, meta := told.Entry, told.Entry.Meta
		if e.Key != a.entry.Key || e.Status != a.entry.Status || string(e.Body) != string(a.entry.Body) || e.Pins != a.entry.Pins || impl.EntryFault(e) != impl.OK || len(e.Headers) > 17 {
			t.Fatalf("%d: %s is renewed to %s", i, shownEntry(a.entry), shownEntry(e))
		}
		// Its age is what the lines tell, whatever it was, and it counts as soft no more.
		ages, age := valuesOf(e.Headers, "age"), int64(0)
		if len(ages) > 0 {
			age = spanWanted(ages[0])
		}
		if got := impl.AgeAt(meta, a.ask.Now); meta.At != a.ask.Now || meta.Soft || got != (impl.IntResult{Value: age}) {
			t.Fatalf("%d: %+v at %d is %+v old", i, meta, a.ask.Now, got)
		}
		if phase := impl.PhaseOf(meta, a.ask.Now).Value; !meta.NoCache && age < meta.Life {
			fresh++
			if phase != impl.PhaseFresh {
				t.Fatalf("%d: %+v is in phase %d", i, meta, phase)
			}
			if impl.PhaseOf(a.entry.Meta, a.ask.Now).Value != impl.PhaseFresh {
				older++
			}
		}
		// What the response tells is in it, the last line of each name, and what it does not tell is as it was.
		rest := e.Headers
		for at, line := range a.response.Headers {
			if len(valuesOf(a.response.Headers[at+1:], line.Name)) == 0 && !slices.Equal(valuesOf(e.Headers, line.Name), []string{line.Value}) {
				t.Fatalf("%d: %q is told, and %q is there", i, line, e.Headers)
			}
			rest, a.entry.Headers = othersOf(rest, line.Name), othersOf(a.entry.Headers, line.Name)
		}
		if !slices.Equal(rest, a.entry.Headers) {
			t.Fatalf("%d: %q are left of %q", i, rest, a.entry.Headers)
		}
	}
	if renewed < 1500 || fresh < 800 || older < 300 {
		t.Errorf("only %d were renewed, %d fresh, %d of them older ahead", renewed, fresh, older)
	}
}

// Promise 14: an origin is asked with the mark of what is kept, and with none but that.
func TestPromise14AnOriginIsAskedWithTheMark(t *testing.T) {
	marked, without, full := 0, 0, 0
	for i, a := range manyMerged(105, 8000, 0) {
		told := impl.FetchFor(a.request, a.entry, a.has)
		if told.Code != impl.OK || impl.RequestFault(told.Request) != impl.OK || told.Request.Method != "GET" || told.Request.Host != a.request.Host || told.Request.Path != a.request.Path {
			t.Fatalf("%d: %q asks %d %q", i, a.request, told.Code, told.Request)
		}
		marks, others := valuesOf(told.Request.Headers, "If-None-Match"), othersOf(told.Request.Headers, "If-None-Match")
		if !slices.Equal(others, othersOf(othersOf(a.request.Headers, "If-None-Match"), "If-Modified-Since")) {
			t.Fatalf("%d: %q asks with %q", i, a.request.Headers, told.Request.Headers)
		}
		switch etags := valuesOf(a.entry.Headers, "etag"); {
		case !a.has || len(etags) == 0 || etags[0] == "":
			without++
			if len(marks) > 0 {
				t.Fatalf("%d: %q is no mark of %s", i, marks, shownEntry(a.entry))
			}
		case len(others) == 19:
			full++
			if len(marks) > 0 {
				t.Fatalf("%d: there is no room for %q", i, marks)
			}
		default:
			marked++
			if !slices.Equal(marks, etags[:1]) || told.Request.Headers[len(others)] != head("If-None-Match", etags[0]) {
				t.Fatalf("%d: %q is asked with the mark of %q", i, marks, etags)
			}
		}
		// Who asks for what by other means is asked for the same: the key hangs on neither mark.
		if impl.KeyOf(told.Request) != impl.KeyOf(a.request) {
			t.Fatalf("%d: %q asks for another thing: %q", i, a.request, told.Request)
		}
	}
	if marked < 400 || without < 2000 || full < 50 {
		t.Errorf("%d were marked, %d had no mark, %d no room", marked, without, full)
	}
}

// Promise 14: what goes through is told as it came, too.
func TestPromise14WhatGoesThroughIsToldAsItCame(t *testing.T) {
	for i, a := range manyMerged(106, 4000, 0) {
		told := impl.RelayOf(a.fresh, false)
		if told.Code != impl.OK || impl.ResponseFault(told.Response) != impl.OK || told.Response.Status != a.fresh.Status || string(told.Response.Body) != string(a.fresh.Body) || !slices.Equal(othersOf(told.Response.Headers, "x-cache"), othersOf(a.fresh.Headers, "x-cache")) {
			t.Fatalf("%d: %s came, and %d %s is told", i, shownResponse(a.fresh), told.Code, shownResponse(told.Response))
		}
		if source := valuesOf(told.Response.Headers, "x-cache"); !slices.Equal(source, []string{"miss"}) && (len(source) > 0 || len(a.fresh.Headers) < 20) {
			t.Fatalf("%d: the source is %q", i, source)
		}
	}
}

// bare: nothing stands beside a code.
func (a mergeAnswers) bare() bool {
	for _, told := range a.told {
		if told.Code != impl.OK && !sameAnswer(told, impl.ResponseResult{Code: told.Code}) {
			return false
		}
	}
	for _, told := range a.entries {
		if told.Code != impl.OK && !samePeek(told, impl.EntryResult{Code: told.Code}) {
			return false
		}
	}
	return a.fetch.Code == impl.OK || sameFetch(a.fetch, impl.RequestResult{Code: a.fetch.Code})
}

func givenLines(list []impl.Header) []impl.Header {
	var own []impl.Header
	for _, line := range list {
		own = append(own, ownHead(line))
	}
	return roomyList(own, head("behind", "kept"))
}

func givenResponse(r impl.Response) impl.Response {
	return impl.Response{Status: r.Status, Headers: givenLines(r.Headers), Body: roomyList(r.Body, 'b', 'e', 'h')}
}

// givenMerge is in memory of its own, with something behind each list.
func givenMerge(a mergeArguments) mergeArguments {
	names := make([]string, len(a.ask.Names))
	for i, name := range a.ask.Names {
		names[i] = strings.Clone(name)
	}
	a.ask.Names = roomyList(names, "behind")
	a.request = request(strings.Clone(a.request.Method), strings.Clone(a.request.Host), strings.Clone(a.request.Path), givenLines(a.request.Headers)...)
	a.entry, a.response, a.fresh = givenEntry(a.entry), givenResponse(a.response), givenResponse(a.fresh)
	a.key, a.source = strings.Clone(a.key), strings.Clone(a.source)
	return a
}

func wholeResponse(r impl.Response) impl.Response {
	return impl.Response{Status: r.Status, Headers: slices.Clone(r.Headers[:cap(r.Headers)]), Body: slices.Clone(r.Body[:cap(r.Body)])}
}

// wholeMerge has all that stands in the memory of the lists in them.
func wholeMerge(a mergeArguments) mergeArguments {
	a.request.Headers, a.ask.Names = slices.Clone(a.request.Headers[:cap(a.request.Headers)]), slices.Clone(a.ask.Names[:cap(a.ask.Names)])
	a.entry, a.response, a.fresh = wholeEntry(a.entry), wholeResponse(a.response), wholeResponse(a.fresh)
	return a
}

func sameMergeArguments(a, b mergeArguments) bool {
	return sameAsked(a.request, b.request) && sameHeld(a.entry, b.entry) && a.has == b.has && a.key == b.key && sameTold(a.response, b.response) && sameTold(a.fresh, b.fresh) &&
		slices.Equal(a.ask.Names, b.ask.Names) && a.ask.Neg == b.ask.Neg && a.ask.Now == b.ask.Now && a.now == b.now && a.source == b.source && a.only == b.only && a.status == b.status
}

// scribbleResponse writes over all lists of a response, and behind them.
func scribbleResponse(r impl.Response) {
	overwrite(r.Headers, head("spoiled", "spoiled"))
	overwrite(r.Body, '#')
}

func (a mergeAnswers) scribble() {
	overwrite(a.fetch.Request.Headers, head("spoiled", "spoiled"))
	for _, told := range a.entries {
		scribbleEntry(told.Entry)
	}
	for _, told := range a.told {
		scribbleResponse(told.Response)
	}
}

func spoilMerge(a mergeArguments) {
	overwrite(a.request.Headers, head("spoiled", "spoiled"))
	overwrite(a.ask.Names, "spoiled")
	scribbleEntry(a.entry)
	scribbleResponse(a.response)
	scribbleResponse(a.fresh)
}

var chapter13 = chapter[mergeArguments, mergeAnswers]{
	ask: askMerge, equal: mergeAnswers.equals, bare: mergeAnswers.bare, given: givenMerge, whole: wholeMerge, same: sameMergeArguments, spoil: spoilMerge, scribble: mergeAnswers.scribble,
}

func TestPromise1MergesHangOnArgumentsAlone(t *testing.T) {
	chapter13.hangsOnArguments(t, manyMerged(107, 3000, 3))
	// An empty list and none are the same.
	for i, a := range manyMerged(108, 1500, 3) {
		if i%3 == 0 {
			a.request.Headers, a.response.Headers, a.entry.Tags, a.ask.Names = nil, nil, nil, nil
		}
		if i%2 == 0 {
			a.entry.Headers, a.fresh.Headers, a.entry.Body, a.fresh.Body, a.response.Body = nil, nil, nil, nil, nil
		}
		b := a
		for _, list := range []*[]impl.Header{&b.request.Headers, &b.response.Headers, &b.entry.Headers, &b.fresh.Headers} {
			*list = append([]impl.Header{}, *list...)
		}
		for _, list := range []*[]string{&b.entry.Tags, &b.ask.Names} {
			*list = append([]string{}, *list...)
		}
		for _, list := range []*[]byte{&b.entry.Body, &b.fresh.Body, &b.response.Body} {
			*list = append([]byte{}, *list...)
		}
		if !askMerge(b).equals(askMerge(a)) {
			t.Errorf("%d: with empty lists it is another answer", i)
		}
	}
}

func TestPromise1MergesLeaveArgumentsAsTheyWere(t *testing.T) {
	chapter13.leavesArguments(t, manyMerged(109, 4000, 8))
}

func TestPromise1MergesAreNewMemory(t *testing.T) {
	chapter13.tellsNewMemory(t, manyMerged(110, 4000, 8))
}

func textsOfLines(list []impl.Header) []string {
	var texts []string
	for _, line := range list {
		texts = append(texts, line.Name, line.Value)
	}
	return texts
}

// textsTold are all texts of the answers of chapter 13.
func (a mergeAnswers) textsTold() []string {
	texts := append(textsOfLines(a.fetch.Request.Headers), a.fetch.Request.Method, a.fetch.Request.Host, a.fetch.Request.Path)
	for _, told := range a.entries {
		texts = append(texts, textsIn(told.Entry)...)
	}
	for _, told := range a.told {
		texts = append(texts, textsOfLines(told.Response.Headers)...)
	}
	return texts
}

// Promise 1: the texts in what chapter 13 tells are new memory.
func TestPromise1MergeTextsAreNewMemory(t *testing.T) {
	bytes := 0
	for i, a := range manyMerged(111, 800, 0) {
		given := givenMerge(a)
		arguments := slices.Concat(textsIn(given.entry), given.ask.Names, textsOfLines(given.request.Headers), textsOfLines(given.response.Headers), textsOfLines(given.fresh.Headers), []string{given.key, given.source, given.request.Method, given.request.Host, given.request.Path})
		for _, piece := range askMerge(given).textsTold() {
			for _, argument := range arguments {
				// Texts of one byte stand once in the runtime, whoever makes them.
				if len(piece) > 1 && shareMemory(piece, argument) {
					t.Fatalf("%d: %s shares memory with %s", i, shown(piece), shown(argument))
				}
			}
			bytes += len(piece)
		}
	}
	if bytes < 100000 {
		t.Errorf("only %d bytes were told", bytes)
	}
}

// Promise 1: no two lists of one answer share memory, and their texts do not, either.
func TestPromise1ListsOfMergesAreApart(t *testing.T) {
	kept, told := 0, 0
	for i, a := range manyMerged(112, 3000, 0) {
		answers := askMerge(a)
		for _, from := range answers.entries {
			e := from.Entry
			for _, tag := range e.Tags {
				for _, text := range append(textsOfLines(e.Headers), e.Key) {
					if len(tag) > 1 && shareMemory(tag, text) {
						t.Fatalf("%d: the tag %s shares memory with %s", i, shown(tag), shown(text))
					}
				}
			}
			body, tags := string(e.Body), slices.Clone(e.Tags)
			overwrite(e.Headers, head("spoiled", "spoiled"))
			if string(e.Body) != body || !slices.Equal(e.Tags, tags) {
				t.Fatalf("%d: the lines share memory with another list", i)
			}
			if len(e.Headers) > 0 && len(body) > 0 && len(tags) > 0 {
				kept++
			}
		}
		for _, answer := range answers.told {
			lines, body := slices.Clone(answer.Response.Headers), len(answer.Response.Body)
			overwrite(answer.Response.Body, '#')
			if !slices.Equal(answer.Response.Headers, lines) {
				t.Fatalf("%d: the Body shares memory with the lines", i)
			}
			if len(lines) > 0 && body > 0 {
				told++
			}
		}
	}
	if kept < 100 || told < 1000 {
		t.Errorf("only %d entries and %d responses had several lists", kept, told)
	}
}

// Promise 1: what is told of a status alone is new memory each time, too.
func TestPromise1ErrorsAreNewMemory(t *testing.T) {
	first, second := impl.ErrorOf(404), impl.ErrorOf(404)
	scribbleResponse(first.Response)
	if !sameAnswer(second, errorWanted(404)) || !sameAnswer(impl.ErrorOf(404), errorWanted(404)) {
		t.Error("two answers share a list")
	}
}
