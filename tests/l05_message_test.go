package tests

import (
	"bytes"
	"fmt"
	"math"
	"math/rand"
	"regexp"
	"slices"
	"sort"
	"strconv"
	"strings"
	"testing"

	"loop.example/g00665/impl"
)

// The signatures and the types as the document tells them.
var (
	_ func(impl.Request) int64                     = impl.RequestFault
	_ func(impl.Request) impl.BytesResult          = impl.PackRequest
	_ func([]byte) impl.RequestResult              = impl.ReadRequest
	_ func(impl.Request) impl.TextResult           = impl.KeyOf
	_ func(impl.Request, []string) impl.TextResult = impl.FullKey
	_ func(impl.Response) int64                    = impl.ResponseFault
	_ func(impl.Response) impl.BytesResult         = impl.PackResponse
	_ func([]byte) impl.ResponseResult             = impl.ReadResponse
	_ func(a impl.Request, b impl.Request) bool    = impl.SameRequests
	_ func(a impl.Response, b impl.Response) bool  = impl.SameResponses

	_ = impl.Request{Method: "", Host: "", Path: "", Headers: []impl.Header(nil)}
	_ = impl.Response{Status: int64(0), Headers: []impl.Header(nil), Body: []byte(nil)}
	_ = impl.RequestResult{Code: int64(0), Request: impl.Request{}}
	_ = impl.ResponseResult{Code: int64(0), Response: impl.Response{}}
)

// The forms of chapter 5, told as patterns. (\z, as nothing may stand behind.)
var (
	methodPattern  = regexp.MustCompile(`\A(?:GET|HEAD)\z`)
	hostPattern    = regexp.MustCompile(`\A[a-zA-Z0-9.-]{1,60}\z`)
	pathPattern    = regexp.MustCompile(`\A/[a-zA-Z0-9!#$%&'*+.^_|~/?=:@,;()-]{0,99}\z`)
	askPattern     = regexp.MustCompile(`\A([^ ]*) ([^ ]*) HTTP/1\.1\z`)
	statusPattern  = regexp.MustCompile(`\AHTTP/1\.1 ([0-9]{3})\z`)
	requestPattern = regexp.MustCompile(`(?s)\A(.*?)\r\n(|.*\r\n)\r\n\z`)
)

func request(method, host, path string, list ...impl.Header) impl.Request {
	return impl.Request{Method: method, Host: host, Path: path, Headers: list}
}

func response(status int64, body string, list ...impl.Header) impl.Response {
	return impl.Response{Status: status, Headers: list, Body: []byte(body)}
}

func shownResponse(r impl.Response) string {
	return fmt.Sprintf("%d %q %s", r.Status, r.Headers, shown(string(r.Body)))
}

func requestWanted(r impl.Request) int64 {
	if !methodPattern.MatchString(r.Method) || !hostPattern.MatchString(r.Host) || !pathPattern.MatchString(r.Path) {
		return impl.ErrText
	}
	if code := headsWanted(r.Headers); code != impl.OK {
		return code
	}
	if len(valuesOf(r.Headers, "host")) > 0 {
		return impl.ErrTaken
	}
	if len(r.Headers) > 19 {
		return impl.ErrMany
	}
	return impl.OK
}

func packRequestWanted(r impl.Request) impl.BytesResult {
	if code := requestWanted(r); code != impl.OK {
		return impl.BytesResult{Code: code}
	}
	var data bytes.Buffer
	data.WriteString(strings.Join([]string{r.Method, r.Path, "HTTP/1.1\r\nHost: " + r.Host + "\r\n"}, " "))
	for _, line := range r.Headers {
		data.WriteString(line.Name + ": " + line.Value + "\r\n")
	}
	data.WriteString("\r\n")
	return impl.BytesResult{Bytes: data.Bytes()}
}

func readRequestWanted(data []byte) impl.RequestResult {
	if len(data) > 8000 {
		return impl.RequestResult{Code: impl.ErrMany}
	}
	parts := requestPattern.FindSubmatch(data)
	if parts == nil {
		return impl.RequestResult{Code: impl.ErrText}
	}
	lines := readWanted(string(parts[2]))
	if lines.Code != impl.OK {
		return impl.RequestResult{Code: lines.Code}
	}
	first, hosts := askPattern.FindSubmatch(parts[1]), valuesOf(lines.Headers, "host")
	if first == nil || len(hosts) != 1 {
		return impl.RequestResult{Code: impl.ErrText}
	}
	r := request(string(first[1]), hosts[0], string(first[2]), othersOf(lines.Headers, "host")...)
	if code := requestWanted(r); code != impl.OK {
		return impl.RequestResult{Code: code}
	}
	return impl.RequestResult{Request: r}
}

func keyWanted(r impl.Request) impl.TextResult {
	if code := requestWanted(r); code != impl.OK {
		return impl.TextResult{Code: code}
	}
	parts := strings.SplitN(r.Path, "?", 2)
	key := strings.ToLower(r.Host) + parts[0]
	if len(parts) == 1 {
		return impl.TextResult{Text: key}
	}
	pieces := strings.Split(parts[1], "&")
	sort.Slice(pieces, func(i, j int) bool { return bytes.Compare([]byte(pieces[i]), []byte(pieces[j])) < 0 })
	mark := "?"
	for _, piece := range pieces {
		if piece != "" {
			key += mark + piece
			mark = "&"
		}
	}
	return impl.TextResult{Text: key}
}

func fullKeyWanted(r impl.Request, names []string) impl.TextResult {
	key := keyWanted(r)
	if key.Code != impl.OK {
		return key
	}
	if len(names) > 4 {
		return longText
	}
	words := []string{key.Text}
	for _, name := range names {
		if !namePattern.MatchString(name) {
			return wrongText
		}
		words = append(words, strings.ToLower(name)+"="+strings.Join(valuesOf(r.Headers, name), ", "))
	}
	return impl.TextResult{Text: strings.Join(words, " ")}
}

func responseWanted(r impl.Response) int64 {
	if r.Status/100 < 2 || r.Status/100 > 5 {
		return impl.ErrRange
	}
	if code := headsWanted(r.Headers); code != impl.OK {
		return code
	}
	if len(r.Body) > 2000 {
		return impl.ErrMany
	}
	return impl.OK
}

func packResponseWanted(r impl.Response) impl.BytesResult {
	if code := responseWanted(r); code != impl.OK {
		return impl.BytesResult{Code: code}
	}
	lines := "HTTP/1.1 " + strconv.Itoa(int(r.Status)) + "\r\n"
	for _, line := range r.Headers {
		lines += line.Name + ": " + line.Value + "\r\n"
	}
	return impl.BytesResult{Bytes: slices.Concat([]byte(lines), []byte("\r\n"), r.Body)}
}

func readResponseWanted(data []byte) impl.ResponseResult {
	if len(data) > 10000 {
		return impl.ResponseResult{Code: impl.ErrMany}
	}
	at := bytes.Index(data, []byte("\r\n\r\n"))
	if at < 0 {
		return impl.ResponseResult{Code: impl.ErrText}
	}
	lines := strings.SplitAfterN(string(data[:at+2]), "\r\n", 2)
	read := readWanted(lines[1])
	if read.Code != impl.OK {
		return impl.ResponseResult{Code: read.Code}
	}
	first := statusPattern.FindStringSubmatch(strings.TrimSuffix(lines[0], "\r\n"))
	if first == nil {
		return impl.ResponseResult{Code: impl.ErrText}
	}
	status, _ := strconv.Atoi(first[1])
	r := response(int64(status), string(data[at+4:]), read.Headers...)
	if code := responseWanted(r); code != impl.OK {
		return impl.ResponseResult{Code: code}
	}
	return impl.ResponseResult{Response: r}
}

// sameAsked and sameTold do not lean on the functions that are tested.
func sameAsked(a, b impl.Request) bool {
	return a.Method == b.Method && a.Host == b.Host && a.Path == b.Path && slices.Equal(a.Headers, b.Headers)
}

func sameTold(a, b impl.Response) bool {
	return a.Status == b.Status && slices.Equal(a.Headers, b.Headers) && string(a.Body) == string(b.Body)
}

func sameBytes(a, b impl.BytesResult) bool {
	return a.Code == b.Code && string(a.Bytes) == string(b.Bytes)
}

// Each of these lists has right ones, and wrong ones behind them.
var (
	askMethods = []string{"GET", "HEAD", "", "get", "Get", "POST", "GE", "GETS", "GETHEAD", " GET", "GET ", "HEAD\n", "GET\x00"}
	askHosts   = []string{
		"a", "A", "a.com", "A.com", "a.COM", "A-b.C-9", "0", ".", "-", "z.Z-0.9", strings.Repeat("h", 59), strings.Repeat("H", 60),
		"", strings.Repeat("h", 61), strings.Repeat("h", 2000), " a", "a ", "a b", "a_b", "a:80", "a/", "a,b", "@", "[", "`", "{", "a\n", "a\x00", "\u00e4", "\u212a", "a\xff", "\ufffd", strings.Repeat("\u00e4", 30), "a\r\nb: c",
	}
	askPaths = []string{
		"/", "//", "/y", "/Y", "/y?", "/y?&", "/y?&&&", "/y?b=2&&a=1", "/y?a=1&b=2", "/y?a&ab&a", "/y?ab&a&&a&", "/y?a?b&?", "/?", "/?a", "/&b&a", "/?B&a&A&b&~&!", "/?a=10&a=9&a=1&a=", "/a:b@c,d;e(f)=g", "/!#$%&'*+-.^_|~",
		"/" + strings.Repeat("p", 98), "/" + strings.Repeat("p", 99), "/?" + strings.Repeat("b&a&", 24) + "zz",
		"", "y", "?", "*", "?/", "y/", " /", "/ ", "/a b", "/\t", "/\"", "/<", "/>", "/[", "/]", "/\\", "/`", "/{", "/}", "/\n", "/\r\n", "/\x00", "/\x7f", "/\u00e4", "/\xff", "/\ufffd", "/" + strings.Repeat("p", 100), "/" + strings.Repeat("p", 3000), strings.Repeat("p", 100),
	}
	keyNames = []string{"Age", "age", "A", "k", "Accept", "Host", "~", strings.Repeat("N", 64), "", "a b", "a:", "a=", "\u212a", "\xff", strings.Repeat("n", 65)}
)

const (
	rightMethods  = 2
	rightHosts    = 12
	rightPaths    = 22
	rightKeyNames = 8
)

// chosenRequest has something wrong in it once in about so many times; never, where that is 0.
func chosenRequest(source *rand.Rand, wrong int) impl.Request {
	pick := func(list []string, right int) string {
		if wrong > 0 && source.Intn(3*wrong) == 0 {
			right = len(list)
		}
		return list[source.Intn(right)]
	}
	list := chosenHeads(source, 19, 10*wrong)
	if wrong > 0 && source.Intn(wrong) == 0 {
		list = chosenHeads(source, 22, 10*wrong)
	}
	if wrong > 0 && source.Intn(wrong) == 0 && len(list) > 0 {
		list[source.Intn(len(list))].Name = []string{"Host", "host", "HOST", "hOsT", "Hosts", "hos"}[source.Intn(6)]
	}
	return request(pick(askMethods, rightMethods), pick(askHosts, rightHosts), pick(askPaths, rightPaths), list...)
}

// manyRequests are right ones and wrong ones, the same ones each time.
func manyRequests(count int) []impl.Request {
	source := rand.New(rand.NewSource(13))
	list := []impl.Request{{}, request("GET", "a", "/"), request("HEAD", "A.com", "/y?b=2&&a=1", head("accept", "q"))}
	for i := range count {
		list = append(list, chosenRequest(source, []int{0, 0, 6, 3}[i%4]))
	}
	return list
}

func chosenNames(source *rand.Rand, most int) []string {
	names := make([]string, source.Intn(most+1))
	for i := range names {
		right := rightKeyNames
		if source.Intn(12) == 0 {
			right = len(keyNames)
		}
		names[i] = keyNames[source.Intn(right)]
	}
	return names
}

// Bodies that look like heads and like the ends of heads are among the right ones.
var (
	toldStatuses = []int64{200, 201, 299, 304, 404, 410, 500, 503, 598, 599, 199, 600, 0, 1, 99, 100, 999, 1000, 20, 2000, -200, -1, math.MaxInt64, math.MinInt64, 1<<32 + 200}
	toldBodies   = []string{
		"", "hi", "\r\n", "\r\n\r\n", "\r\n\r\n\r\n", "\n", "\r", "\n\r\n", "a: b\r\n", "a: b\r\n\r\nx", "HTTP/1.1 200\r\n\r\nhi", "HTTP/1.1 404\r\nAge: 5\r\n\r\n", "GET / HTTP/1.1\r\nHost: a\r\n\r\n", "\x00\xff\x80", "\u00e4", strings.Repeat("b", 1999), strings.Repeat("\xff", 2000), strings.Repeat("\r\n", 1000),
		strings.Repeat("b", 2001), strings.Repeat("\r\n", 1001), strings.Repeat("b", 5000),
	}
)

const (
	rightStatuses = 10
	rightBodies   = 18
)

func chosenResponse(source *rand.Rand, wrong int) impl.Response {
	statuses, bodies, most := rightStatuses, rightBodies, 20
	if wrong > 0 {
		switch source.Intn(3 * wrong) {
		case 0:
			statuses = len(toldStatuses)
		case 1:
			bodies = len(toldBodies)
		case 2:
			most = 22
		}
	}
	return response(toldStatuses[source.Intn(statuses)], toldBodies[source.Intn(bodies)], chosenHeads(source, most, 10*wrong)...)
}

// manyResponses are right ones and wrong ones, the same ones each time.
func manyResponses(count int) []impl.Response {
	source := rand.New(rand.NewSource(14))
	list := []impl.Response{{}, response(200, "hi"), response(599, "", head("Age", "5"))}
	for i := range count {
		list = append(list, chosenResponse(source, []int{0, 0, 4, 2}[i%4]))
	}
	return list
}

// piecesTogether are all texts of up to count pieces.
func piecesTogether(pieces []string, count int) [][]byte {
	texts := [][]byte{{}}
	for begin, n := 0, 0; n < count; n++ {
		end := len(texts)
		for _, text := range texts[begin:end] {
			for _, piece := range pieces {
				texts = append(texts, slices.Concat(text, []byte(piece)))
			}
		}
		begin = end
	}
	return texts
}

// turned has a few bytes more, less or others than data.
func turned(source *rand.Rand, data []byte) []byte {
	const alphabet = "aZ0 \t:/?&\r\nHTP.1\x00\x7f\xff"
	data = slices.Clone(data)
	for range source.Intn(3) + 1 {
		at, one := source.Intn(len(data)+1), alphabet[source.Intn(len(alphabet))]
		switch source.Intn(4) {
		case 0:
			data = slices.Insert(data, at, one)
		case 1:
			data = data[:at]
		case 2:
			data = slices.Delete(data, at, min(at+1+source.Intn(3), len(data)))
		default:
			if at < len(data) {
				data[at] = one
			}
		}
	}
	return data
}

// requestData are bytes of requests, right ones and wrong ones, the same ones each time.
func requestData() [][]byte {
	source := rand.New(rand.NewSource(15))
	all := slices.Concat(
		piecesTogether([]string{"GET", " ", "/x", "HTTP/1.1", "\r\n", "Host: a\r\n", "b:c\r\n"}, 6),
		piecesTogether([]string{"host:a", "x:", "\r", "\n"}, 7),
	)
	for _, rest := range piecesTogether([]string{"host:a", "x:", "\r\n", "\n", " "}, 6) {
		all = append(all, slices.Concat([]byte("HEAD / HTTP/1.1\r\n"), rest))
	}
	for _, r := range manyRequests(2000) {
		line := strings.Join([]string{r.Method, r.Path, "HTTP/1.1\r\n"}, " ")
		lines := slices.Insert(slices.Clone(r.Headers), source.Intn(len(r.Headers)+1), head([]string{"Host", "host", "HOST"}[source.Intn(3)], r.Host))
		for _, one := range lines {
			line += one.Name + []string{":", ": ", ":\t"}[source.Intn(3)] + one.Value + "\r\n"
		}
		data := []byte(line + "\r\n")
		all = append(all, data, turned(source, data), append(data, toldBodies[source.Intn(rightBodies)]...))
		if packed := packRequestWanted(r); packed.Code == impl.OK {
			all = append(all, packed.Bytes, turned(source, packed.Bytes))
		}
	}
	return all
}

// responseData are bytes of responses, right ones and wrong ones, the same ones each time.
func responseData() [][]byte {
	source := rand.New(rand.NewSource(16))
	all := slices.Concat(
		piecesTogether([]string{"HTTP/1.1", " ", "200", "\r\n", "a:b", "\r", "\n"}, 6),
		piecesTogether([]string{"HTTP/1.1 ", "2", "0", "\r\n\r\n", "\r\n", "b"}, 6),
	)
	for _, rest := range piecesTogether([]string{"a:", "\r\n", "\r\n\r\n", "\r", "\n", " "}, 5) {
		all = append(all, slices.Concat([]byte("HTTP/1.1 404"), rest))
	}
	for _, r := range manyResponses(2000) {
		line := "HTTP/1.1 " + strconv.FormatInt(r.Status, 10) + "\r\n"
		for _, one := range r.Headers {
			line += one.Name + []string{":", ": ", ":\t"}[source.Intn(3)] + one.Value + "\r\n"
		}
		data := slices.Concat([]byte(line+"\r\n"), r.Body)
		all = append(all, data, turned(source, data))
	}
	return all
}

func TestMessageBounds(t *testing.T) {
	if impl.MaxHost != 60 || impl.MaxPath != 100 || impl.MaxBody != 2000 {
		t.Error("bounds")
	}
}

func TestRequestFault(t *testing.T) {
	right := 0
	for _, r := range manyRequests(8000) {
		want := requestWanted(r)
		if got := impl.RequestFault(r); got != want {
			t.Errorf("RequestFault(%q) = %d, want %d", r, got, want)
		}
		if want == impl.OK {
			right++
		}
	}
	if right < 4000 {
		t.Errorf("no more than %d requests were right", right)
	}
	for i, method := range askMethods {
		for j, host := range askHosts {
			for k, path := range askPaths {
				want := int64(impl.OK)
				if i >= rightMethods || j >= rightHosts || k >= rightPaths {
					want = impl.ErrText
				}
				if got := impl.RequestFault(request(method, host, path)); got != want {
					t.Errorf("RequestFault of %s, %s and %s = %d, want %d", shown(method), shown(host), shown(path), got, want)
				}
			}
		}
	}
	for b := range 256 {
		one := string([]byte{byte(b)})
		for _, r := range []impl.Request{request("GET", one, "/"), request("GET", "a"+one+"b", "/"), request("GET", "a"+one, "/"), request("GET", "a", one), request("GET", "a", "/"+one), request("GET", "a", "/"+one+"b"), request("GET"+one, "a", "/")} {
			if got, want := impl.RequestFault(r), requestWanted(r); got != want {
				t.Errorf("RequestFault(%q) = %d, want %d", r, got, want)
			}
		}
	}
}

func TestRequestFaultInOrder(t *testing.T) {
	line, host, long := head("a", "b"), head("hOST", "b"), head("a", strings.Repeat("v", 201))
	rows := []struct {
		r    impl.Request
		want int64
	}{
		{impl.Request{}, impl.ErrText}, {request("GET", "a", "/"), impl.OK}, {impl.Request{Method: "HEAD", Host: "a", Path: "/", Headers: []impl.Header{}}, impl.OK},
		{request("GET", "a", "/", sameLines(line, 19)...), impl.OK}, {request("GET", "a", "/", sameLines(line, 20)...), impl.ErrMany}, {request("GET", "a", "/", sameLines(line, 21)...), impl.ErrMany},
		{request("GET", "a", "/", host), impl.ErrTaken}, {request("GET", "a", "/", head("Host", "")), impl.ErrTaken}, {request("GET", "a", "/", line, head("HOST", "a")), impl.ErrTaken}, {request("GET", "a", "/", head("Hos", "a"), head("Hosts", "a"), head("x-host", "a")), impl.OK},
		// What is wrong with Method, Host or Path is told ahead of the head lines' faults, these ahead of a line like Host, and that ahead of too many.
		{request("POST", "a", "/", sameLines(line, 21)...), impl.ErrText}, {request("GET", "", "/", host), impl.ErrText}, {request("GET", "a", "", long), impl.ErrText}, {request("GET", "a", "/", long, host), impl.ErrMany}, {request("GET", "a", "/", host, long), impl.ErrMany}, {request("GET", "a", "/", host, impl.Header{}), impl.ErrText},
		{request("GET", "a", "/", append(sameLines(line, 20), host)...), impl.ErrMany}, {request("GET", "a", "/", append(sameLines(line, 19), host)...), impl.ErrTaken}, {request("GET", "a", "/", append(sameLines(line, 18), host)...), impl.ErrTaken}, {request("GET", "a", "/", append(sameLines(line, 19), long)...), impl.ErrMany}, {request("GET", "a", "/", append(sameLines(line, 19), impl.Header{})...), impl.ErrText},
	}
	for i, row := range rows {
		if got := impl.RequestFault(row.r); got != row.want {
			t.Errorf("%d: RequestFault = %d, want %d", i, got, row.want)
		}
	}
}

func TestPackRequest(t *testing.T) {
	for _, r := range manyRequests(6000) {
		if got, want := impl.PackRequest(r), packRequestWanted(r); !sameBytes(got, want) {
			t.Errorf("PackRequest(%q) = %d %q, want %d %q", r, got.Code, got.Bytes, want.Code, want.Bytes)
		}
	}
	rows := []struct {
		r    impl.Request
		code int64
		want string
	}{
		{request("GET", "a", "/x"), impl.OK, "GET /x HTTP/1.1\r\nHost: a\r\n\r\n"},
		// The Host is written as it is, and a query, too: they are changed in a key alone.
		{request("HEAD", "A.com", "/y?b=2&&a=1", head("accept", "q"), head("X", "")), impl.OK, "HEAD /y?b=2&&a=1 HTTP/1.1\r\nHost: A.com\r\naccept: q\r\nX: \r\n\r\n"},
		{request("GET", "a", "/x?"), impl.OK, "GET /x? HTTP/1.1\r\nHost: a\r\n\r\n"},
		{request("GET", "a", "/", sameLines(head("b", "c"), 19)...), impl.OK, "GET / HTTP/1.1\r\nHost: a\r\n" + strings.Repeat("b: c\r\n", 19) + "\r\n"},
		{request("GET", "a", "/", sameLines(head("b", "c"), 20)...), impl.ErrMany, ""}, {request("GET", "a", "/", head("host", "a")), impl.ErrTaken, ""}, {request("GET", "", "/"), impl.ErrText, ""}, {request("PUT", "a", "/"), impl.ErrText, ""}, {request("GET", "a", "/ HTTP/1.1\r\n"), impl.ErrText, ""}, {request("GET", "a", "/", head("b", "c\r\n")), impl.ErrText, ""},
	}
	for i, row := range rows {
		if got := impl.PackRequest(row.r); got.Code != row.code || string(got.Bytes) != row.want {
			t.Errorf("%d: PackRequest = %d %q, want %d %q", i, got.Code, got.Bytes, row.code, row.want)
		}
	}
}

func checkReadRequest(t *testing.T, data []byte, want impl.RequestResult) {
	t.Helper()
	if got := impl.ReadRequest(data); got.Code != want.Code || !sameAsked(got.Request, want.Request) {
		t.Errorf("ReadRequest(%s) = %d %q, want %d %q", shown(string(data)), got.Code, got.Request, want.Code, want.Request)
	}
}

func TestReadRequest(t *testing.T) {
	seen := map[int64]int{}
	for _, data := range requestData() {
		want := readRequestWanted(data)
		checkReadRequest(t, data, want)
		seen[want.Code]++
	}
	if seen[impl.OK] < 2000 || seen[impl.ErrText] < 2000 || seen[impl.ErrMany] < 20 {
		t.Errorf("too few of a kind: %v", seen)
	}
	for b := range 256 {
		for _, text := range []string{"GET /@ HTTP/1.1\r\nHost: a\r\n\r\n", "GET@/ HTTP/1.1\r\nHost: a\r\n\r\n", "GET / HTTP/1.1@\r\nHost: a\r\n\r\n", "GET / HTTP/1.1\r\nHost: @\r\n\r\n", "GET / HTTP/1.1\r\nHost: a@b\r\n\r\n", "GET / HTTP/1.1\r\nHost: a\r\nb@ c\r\n\r\n", "GET / HTTP/1.1\r\nHost: a\r\n\r\n@", "@GET / HTTP/1.1\r\nHost: a\r\n\r\n"} {
			data := bytes.ReplaceAll([]byte(text), []byte("@"), []byte{byte(b)})
			checkReadRequest(t, data, readRequestWanted(data))
		}
	}
}

type readRequestRow struct {
	text string
	want impl.RequestResult
}

func TestReadRequestRows(t *testing.T) {
	const first = "GET /x HTTP/1.1\r\n"
	const whole = first + "Host: a\r\n"
	wrong := impl.RequestResult{Code: impl.ErrText}
	told := func(r impl.Request) impl.RequestResult { return impl.RequestResult{Request: r} }
	rows := []readRequestRow{
		{whole + "\r\n", told(request("GET", "a", "/x"))}, {"HEAD /? HTTP/1.1\r\nhOST:\tA.Com \r\n\r\n", told(request("HEAD", "A.Com", "/?"))},
		// The line of the Host may stand anywhere; the others stay in their order.
		{first + "b: c\r\nHost: a\r\nB: d e\r\n\r\n", told(request("GET", "a", "/x", head("b", "c"), head("B", "d e")))}, {first + "Hosts: b\r\nHost: a\r\n\r\n", told(request("GET", "a", "/x", head("Hosts", "b")))},
		{"", wrong}, {"\r\n", wrong}, {"\r\n\r\n", wrong}, {"\r\n\r\n\r\n", wrong}, {"GET", wrong}, {"GET /x HTTP/1.1", wrong}, {first, wrong}, {first + "\r\n", wrong}, {first + "\r\n\r\n", wrong}, {whole, wrong}, {whole + "\r", wrong}, {whole + "\n", wrong}, {whole + "\n\r", wrong}, {first + "Host: a\n\r\n", wrong}, {first + "Host: a", wrong}, {"GET /x HTTP/1.1\nHost: a\r\n\r\n", wrong}, {"\r\n" + whole + "\r\n", wrong},
		// What stands behind the empty line is no body: a request has none.
		{whole + "\r\nhi", wrong}, {whole + "\r\n\r\n", wrong}, {whole + "\r\nb: c\r\n", wrong}, {whole + "\r\nb: c\r\n\r\n", wrong}, {whole + "\r\n" + whole + "\r\n", wrong}, {first + "\r\nHost: a\r\n\r\n", wrong},
		{first + "b: c\r\n\r\n", wrong}, {whole + "Host: a\r\n\r\n", wrong}, {whole + "host: b\r\n\r\n", wrong}, {first + "Host:\r\n\r\n", wrong}, {first + "Host: a b\r\n\r\n", wrong}, {first + "Host: a:80\r\n\r\n", wrong}, {first + "Host\r\n\r\n", wrong}, {first + "Host : a\r\n\r\n", wrong}, {first + "Host: a\r\n b\r\n\r\n", wrong},
		{first + "Host: " + strings.Repeat("h", 60) + "\r\n\r\n", told(request("GET", strings.Repeat("h", 60), "/x"))}, {first + "Host: " + strings.Repeat("h", 61) + "\r\n\r\n", wrong},
	}
	for _, line := range []string{"", " ", "  ", "GET", "GET /x", "GET /x ", "GET  HTTP/1.1", " /x HTTP/1.1", "/x HTTP/1.1", "GET HTTP/1.1", "GET /x  HTTP/1.1", "GET  /x HTTP/1.1", " GET /x HTTP/1.1", "GET /x HTTP/1.1 ", "GET /x HTTP/1.1 /y", "GET /x /y HTTP/1.1", "GET\t/x HTTP/1.1", "GET /x\tHTTP/1.1", "GET /x HTTP/1.0", "GET /x HTTP/1.10", "GET /x http/1.1", "GET /x HTTP/2", "GET /x XHTTP/1.1", "get /x HTTP/1.1", "POST /x HTTP/1.1", "GET x HTTP/1.1", "GET * HTTP/1.1", "GET /\u00e4 HTTP/1.1", "GET /x HTTP/1.1\r", "GET /x HTTP/1.1\n", "GET /x\r HTTP/1.1", "HTTP/1.1 /x GET", "GET /" + strings.Repeat("p", 100) + " HTTP/1.1"} {
		rows = append(rows, readRequestRow{line + "\r\nHost: a\r\n\r\n", wrong})
	}
	long := strings.Repeat("p", 99)
	rows = append(rows, readRequestRow{"GET /" + long + " HTTP/1.1\r\nHost: a\r\n\r\n", told(request("GET", "a", "/"+long))})
	for _, row := range rows {
		checkReadRequest(t, []byte(row.text), row.want)
	}
}

func TestReadRequestBounds(t *testing.T) {
	const first = "GET / HTTP/1.1\r\n"
	const whole = first + "Host: a\r\n"
	wrong, many := impl.RequestResult{Code: impl.ErrText}, impl.RequestResult{Code: impl.ErrMany}
	told := func(r impl.Request) impl.RequestResult { return impl.RequestResult{Request: r} }
	full := request("HEAD", strings.Repeat("h", 60), "/"+strings.Repeat("p", 99), sameLines(head(strings.Repeat("n", 64), strings.Repeat("v", 200)), 19)...)
	rows := []readRequestRow{
		{string(packRequestWanted(full).Bytes), told(full)},
		{whole + strings.Repeat("b: c\r\n", 19) + "\r\n", told(request("GET", "a", "/", sameLines(head("b", "c"), 19)...))}, {whole + strings.Repeat("b: c\r\n", 20) + "\r\n", many}, {first + strings.Repeat("b: c\r\n", 20) + "\r\n", wrong}, {first + strings.Repeat("b: c\r\n", 21) + "\r\n", many},
		// Head lines have at most 6000 bytes, and all that is read at most 8000.
		{first + "Host: a" + strings.Repeat(" ", 5991) + "\r\n\r\n", told(request("GET", "a", "/"))}, {first + "Host: a" + strings.Repeat(" ", 5992) + "\r\n\r\n", many},
		{strings.Repeat("x", 8000), wrong}, {strings.Repeat("x", 8001), many}, {strings.Repeat("x", 100000), many}, {strings.Repeat("x", 7996) + "\r\n\r\n", wrong}, {strings.Repeat("x", 7997) + "\r\n\r\n", many}, {first + strings.Repeat("x", 7984), wrong}, {first + strings.Repeat("x", 7985), many},
		// The codes in their order: the end, the head lines, the first line and the Host, and then the request.
		{"x\r\n" + strings.Repeat("b: c\r\n", 21), wrong}, {"x\r\n" + strings.Repeat("x", 6001) + "\r\n", wrong}, {first + strings.Repeat("b: c\r\n", 1001), wrong}, {"x\r\n" + strings.Repeat("b: c\r\n", 21) + "\r\n", many}, {"x\r\nb: " + strings.Repeat("v", 201) + "\r\n\r\n", many}, {first + "b: " + strings.Repeat("v", 201) + "\r\n\r\n", many}, {first + "Host: " + strings.Repeat("h", 201) + "\r\n\r\n", many}, {first + "Host: " + strings.Repeat("h", 200) + "\r\n\r\n", wrong}, {"POST / HTTP/1.1\r\nHost: a\r\n" + strings.Repeat("b: c\r\n", 20) + "\r\n", many}, {"x\r\n" + strings.Repeat("x", 6001) + "\r\n\r\n", many},
	}
	for _, row := range rows {
		checkReadRequest(t, []byte(row.text), row.want)
	}
}

func TestKeyOf(t *testing.T) {
	for _, r := range manyRequests(8000) {
		if got, want := impl.KeyOf(r), keyWanted(r); got != want {
			t.Errorf("KeyOf(%q) = %d %s, want %d %s", r, got.Code, shown(got.Text), want.Code, shown(want.Text))
		}
	}
	for _, text := range shortTexts("a?&b=A", 5) {
		for _, r := range []impl.Request{request("GET", "A.b", "/"+text), request("HEAD", "c", "/?"+text)} {
			if got, want := impl.KeyOf(r), keyWanted(r); got != want {
				t.Errorf("KeyOf(%q) = %d %s, want %d %s", r, got.Code, shown(got.Text), want.Code, shown(want.Text))
			}
		}
	}
	rows := []struct{ host, path, want string }{
		{"A.com", "/y?b=2&&a=1", "a.com/y?a=1&b=2"}, {"a.com", "/y", "a.com/y"}, {"a.com", "/", "a.com/"}, {"AZ-09.X", "/AZ", "az-09.x/AZ"}, {strings.Repeat("H", 60), "/" + strings.Repeat("P", 99), strings.Repeat("h", 60) + "/" + strings.Repeat("P", 99)},
		// A query that is empty, or has nothing but empty pieces, is as good as none.
		{"a", "/y?", "a/y"}, {"a", "/y?&", "a/y"}, {"a", "/y?&&&", "a/y"}, {"a", "/?", "a/"}, {"a", "/?&a", "a/?a"}, {"a", "/?a&", "a/?a"}, {"a", "/y&b&a", "a/y&b&a"}, {"a", "/y&b?&a", "a/y&b?a"},
		// Only the first ? ends the path, and pieces are held against each other byte by byte.
		{"a", "/y?c?b&a", "a/y?a&c?b"}, {"a", "/y??", "a/y??"}, {"a", "/y?b&?&a", "a/y??&a&b"}, {"a", "/?a=10&a=9&a=1&a", "a/?a&a=1&a=10&a=9"}, {"a", "/?b&B&a&A", "a/?A&B&a&b"}, {"a", "/?ab&a&abc&a&ab", "a/?a&a&ab&ab&abc"}, {"a", "/?a=&a&=a&=", "a/?=&=a&a&a="}, {"a", "/?~&!&_&Z&z&0", "a/?!&0&Z&_&z&~"}, {"a", "/?a-&a=&a&a~", "a/?a&a-&a=&a~"},
	}
	for _, row := range rows {
		for _, r := range []impl.Request{request("GET", row.host, row.path), request("HEAD", row.host, row.path, head("accept", "q"))} {
			if got := impl.KeyOf(r); got != (impl.TextResult{Text: row.want}) {
				t.Errorf("KeyOf(%q) = %d %s, want %s", r, got.Code, shown(got.Text), shown(row.want))
			}
		}
	}
	for _, r := range []impl.Request{{}, request("POST", "a", "/"), request("GET", "a b", "/"), request("GET", "a", "y")} {
		if got := impl.KeyOf(r); got != wrongText {
			t.Errorf("KeyOf(%q) = %d %s", r, got.Code, shown(got.Text))
		}
	}
	if impl.KeyOf(request("GET", "a", "/", sameLines(head("b", "c"), 20)...)) != longText || impl.KeyOf(request("GET", "a", "/", head("host", "c"))) != (impl.TextResult{Code: impl.ErrTaken}) {
		t.Error("KeyOf of head lines with a fault")
	}
}

func TestFullKey(t *testing.T) {
	source := rand.New(rand.NewSource(17))
	for _, r := range manyRequests(8000) {
		names := chosenNames(source, 6)
		if got, want := impl.FullKey(r, names), fullKeyWanted(r, names); got != want {
			t.Errorf("FullKey(%q, %q) = %d %s, want %d %s", r, names, got.Code, shown(got.Text), want.Code, shown(want.Text))
		}
	}
	r := request("GET", "A.com", "/y?b=2&&a=1", head("accept", "q"), head("B", "c"), head("ACCEPT", "r s"), head("e", ""))
	full := request("GET", "a", "/", sameLines(head("n", strings.Repeat("v", 200)), 19)...)
	bad := request("POST", "a", "/")
	const key = "a.com/y?a=1&b=2"
	rows := []struct {
		r     impl.Request
		names []string
		want  impl.TextResult
	}{
		{r, nil, impl.TextResult{Text: key}}, {r, []string{}, impl.TextResult{Text: key}}, {r, []string{"Accept"}, impl.TextResult{Text: key + " accept=q, r s"}}, {r, []string{"b", "Accept", "x"}, impl.TextResult{Text: key + " b=c accept=q, r s x="}}, {r, []string{"x", "X-Y", "e", "~"}, impl.TextResult{Text: key + " x= x-y= e= ~="}}, {r, []string{"B", "b", "B", "b"}, impl.TextResult{Text: key + " b=c b=c b=c b=c"}}, {r, []string{"Host"}, impl.TextResult{Text: key + " host="}},
		{r, []string{strings.Repeat("N", 64)}, impl.TextResult{Text: key + " " + strings.Repeat("n", 64) + "="}}, {r, []string{strings.Repeat("N", 65)}, wrongText}, {full, []string{"n"}, impl.TextResult{Text: "a/ n=" + strings.Repeat(strings.Repeat("v", 200)+", ", 18) + strings.Repeat("v", 200)}},
		{r, []string{"a", "b", "c", "d"}, impl.TextResult{Text: key + " a= b=c c= d="}}, {r, []string{"a", "b", "c", "d", "e"}, longText}, {r, make([]string, 5), longText}, {r, make([]string, 4), wrongText}, {r, []string{""}, wrongText}, {r, []string{"a", "b", "c", ""}, wrongText}, {r, []string{"a b"}, wrongText}, {r, []string{"a", "b="}, wrongText},
		// The code of the key is told ahead of what is wrong with the names.
		{bad, make([]string, 5), wrongText}, {bad, nil, wrongText}, {request("GET", "a", "/", head("Host", "b")), make([]string, 5), impl.TextResult{Code: impl.ErrTaken}}, {request("GET", "a", "/", sameLines(head("b", "c"), 20)...), []string{""}, longText},
	}
	for i, row := range rows {
		if got := impl.FullKey(row.r, row.names); got != row.want {
			t.Errorf("%d: FullKey(%q) = %d %s, want %d %s", i, row.names, got.Code, shown(got.Text), row.want.Code, shown(row.want.Text))
		}
	}
}

func TestResponseFault(t *testing.T) {
	right := 0
	for _, r := range manyResponses(6000) {
		want := responseWanted(r)
		if got := impl.ResponseFault(r); got != want {
			t.Errorf("ResponseFault(%s) = %d, want %d", shownResponse(r), got, want)
		}
		if want == impl.OK {
			right++
		}
	}
	if right < 3000 {
		t.Errorf("no more than %d responses were right", right)
	}
	for i, status := range toldStatuses {
		if got := impl.ResponseFault(response(status, "")); (got == impl.OK) != (i < rightStatuses) || got != impl.OK && got != impl.ErrRange {
			t.Errorf("ResponseFault of the Status %d = %d", status, got)
		}
	}
	for status := int64(-5); status < 1005; status++ {
		if got := impl.ResponseFault(response(status, "x")); (got == impl.OK) != (status >= 200 && status <= 599) {
			t.Errorf("ResponseFault of the Status %d = %d", status, got)
		}
	}
	for i, body := range toldBodies {
		if got := impl.ResponseFault(response(200, body)); (got == impl.OK) != (i < rightBodies) || got != impl.OK && got != impl.ErrMany {
			t.Errorf("ResponseFault of a Body of %d bytes = %d", len(body), got)
		}
	}
	line, long := head("a", "b"), strings.Repeat("b", 2001)
	rows := []struct {
		r    impl.Response
		want int64
	}{
		{impl.Response{}, impl.ErrRange}, {impl.Response{Status: 200}, impl.OK}, {response(200, "", sameLines(line, 20)...), impl.OK}, {response(200, "", sameLines(line, 21)...), impl.ErrMany}, {response(200, "", head("Host", "a")), impl.OK}, {response(200, long[:2000], sameLines(line, 20)...), impl.OK},
		// The Status is asked first, then the head lines, and the Body last.
		{response(199, long, sameLines(line, 21)...), impl.ErrRange}, {response(600, "", impl.Header{}), impl.ErrRange}, {response(200, long, impl.Header{}), impl.ErrText}, {response(200, long, line), impl.ErrMany}, {response(200, "", line, impl.Header{}), impl.ErrText},
	}
	for i, row := range rows {
		if got := impl.ResponseFault(row.r); got != row.want {
			t.Errorf("%d: ResponseFault = %d, want %d", i, got, row.want)
		}
	}
}

func TestPackResponse(t *testing.T) {
	for _, r := range manyResponses(6000) {
		if got, want := impl.PackResponse(r), packResponseWanted(r); !sameBytes(got, want) {
			t.Errorf("PackResponse(%s) = %d %q, want %d %q", shownResponse(r), got.Code, got.Bytes, want.Code, want.Bytes)
		}
	}
	rows := []struct {
		r    impl.Response
		code int64
		want string
	}{
		{response(200, "hi"), impl.OK, "HTTP/1.1 200\r\n\r\nhi"}, {impl.Response{Status: 599}, impl.OK, "HTTP/1.1 599\r\n\r\n"}, {response(404, "a: b\r\n\r\n", head("Age", "5"), head("age", "")), impl.OK, "HTTP/1.1 404\r\nAge: 5\r\nage: \r\n\r\na: b\r\n\r\n"}, {response(200, "\x00\xff\r\n\r\n", head("Host", "a")), impl.OK, "HTTP/1.1 200\r\nHost: a\r\n\r\n\x00\xff\r\n\r\n"},
		{response(304, strings.Repeat("b", 2000), sameLines(head("b", "c"), 20)...), impl.OK, "HTTP/1.1 304\r\n" + strings.Repeat("b: c\r\n", 20) + "\r\n" + strings.Repeat("b", 2000)},
		{response(304, strings.Repeat("b", 2001)), impl.ErrMany, ""}, {response(199, "hi"), impl.ErrRange, ""}, {response(200, "hi", head("b", "c\r\n")), impl.ErrText, ""}, {impl.Response{}, impl.ErrRange, ""},
	}
	for i, row := range rows {
		if got := impl.PackResponse(row.r); got.Code != row.code || string(got.Bytes) != row.want {
			t.Errorf("%d: PackResponse = %d %q, want %d %q", i, got.Code, got.Bytes, row.code, row.want)
		}
	}
}

func checkReadResponse(t *testing.T, data []byte, want impl.ResponseResult) {
	t.Helper()
	if got := impl.ReadResponse(data); got.Code != want.Code || !sameTold(got.Response, want.Response) {
		t.Errorf("ReadResponse(%s) = %d %s, want %d %s", shown(string(data)), got.Code, shownResponse(got.Response), want.Code, shownResponse(want.Response))
	}
}

func TestReadResponse(t *testing.T) {
	seen := map[int64]int{}
	for _, data := range responseData() {
		want := readResponseWanted(data)
		checkReadResponse(t, data, want)
		seen[want.Code]++
	}
	if seen[impl.OK] < 2000 || seen[impl.ErrText] < 2000 || seen[impl.ErrMany] < 20 || seen[impl.ErrRange] < 20 {
		t.Errorf("too few of a kind: %v", seen)
	}
	for status := range 1000 {
		digits := strconv.Itoa(status + 1000)[1:]
		data := []byte("HTTP/1.1 " + digits + "\r\n\r\n")
		want := impl.ResponseResult{Code: impl.ErrRange}
		if status >= 200 && status <= 599 {
			want = impl.ResponseResult{Response: response(int64(status), "")}
		}
		checkReadResponse(t, data, want)
	}
	for b := range 256 {
		for _, text := range []string{"HTTP/1.1 20@\r\n\r\n", "HTTP/1.1@200\r\n\r\n", "HTTP/1.1 200@\r\n\r\n", "@HTTP/1.1 200\r\n\r\n", "HTTP/1.1 200\r\na@ b\r\n\r\n", "HTTP/1.1 200\r\na: b\r\n@\r\n", "HTTP/1.1 200\r\n\r\n@\r\n\r\n"} {
			data := bytes.ReplaceAll([]byte(text), []byte("@"), []byte{byte(b)})
			checkReadResponse(t, data, readResponseWanted(data))
		}
	}
}

type readResponseRow struct {
	text string
	want impl.ResponseResult
}

func TestReadResponseRows(t *testing.T) {
	const first = "HTTP/1.1 200\r\n"
	wrong, many, beyond := impl.ResponseResult{Code: impl.ErrText}, impl.ResponseResult{Code: impl.ErrMany}, impl.ResponseResult{Code: impl.ErrRange}
	told := func(r impl.Response) impl.ResponseResult { return impl.ResponseResult{Response: r} }
	rows := []readResponseRow{
		{first + "\r\nhi", told(response(200, "hi"))}, {first + "\r\n", told(response(200, ""))}, {"HTTP/1.1 599\r\nAge:5 \r\nage:\r\n\r\nx", told(response(599, "x", head("Age", "5"), head("age", "")))}, {first + "Host: a\r\n\r\n", told(response(200, "", head("Host", "a")))},
		// The first empty line ends the head: what looks like a head behind it is Body.
		{first + "\r\na: b\r\n\r\nhi", told(response(200, "a: b\r\n\r\nhi"))}, {first + "\r\n\r\n", told(response(200, "\r\n"))}, {first + "\r\n\r\n\r\n", told(response(200, "\r\n\r\n"))}, {first + "\r\n" + first + "\r\n", told(response(200, first+"\r\n"))}, {first + "a: b\r\n\r\n" + first + "c: d\r\n\r\n", told(response(200, first+"c: d\r\n\r\n", head("a", "b")))}, {first + "\r\n\n", told(response(200, "\n"))}, {first + "\r\n\x00\xff", told(response(200, "\x00\xff"))}, {first + "\r\nb\r\n", told(response(200, "b\r\n"))},
		{"", wrong}, {"\r\n", wrong}, {"\r\n\r\n", wrong}, {"\r\n\r\n\r\n", wrong}, {"HTTP/1.1 200", wrong}, {first, wrong}, {first + "a: b", wrong}, {first + "a: b\r\n", wrong}, {first + "a: b\r\nhi", wrong}, {first + "\n", wrong}, {first + "\r", wrong}, {"HTTP/1.1 200\n\nhi", wrong}, {"HTTP/1.1 200\n\r\n\r\n", wrong}, {"HTTP/1.1 200\r\n\n\r\n", wrong}, {"\r\n" + first + "\r\n", wrong}, {"\r\n\r\n" + first + "\r\n", wrong}, {first + "a\r\n\r\n", wrong}, {first + "a : b\r\n\r\n", wrong}, {first + " \r\n\r\n", wrong}, {first + "a: b\r\n c\r\n\r\n", wrong}, {first + "a: \x00\r\n\r\n", wrong}, {first + "a: b\r\r\n\r\n", wrong},
		{"HTTP/1.1 000\r\n\r\n", beyond}, {"HTTP/1.1 100\r\n\r\n", beyond}, {"HTTP/1.1 199\r\n\r\n", beyond}, {"HTTP/1.1 600\r\n\r\n", beyond}, {"HTTP/1.1 999\r\n\r\n", beyond},
		// The codes in their order: the head lines, the first line, the Status, and the Body last.
		{"x\r\n" + strings.Repeat("a: b\r\n", 21) + "\r\n", many}, {"x\r\na: " + strings.Repeat("v", 201) + "\r\n\r\n", many}, {"HTTP/1.1 100\r\n" + strings.Repeat("a: b\r\n", 21) + "\r\n", many}, {"HTTP/1.1 100\r\na\r\n\r\n", wrong}, {"HTTP/1.1 100\r\n\r\n" + strings.Repeat("b", 2001), beyond}, {"HTTP/1.1 20\r\n\r\n" + strings.Repeat("b", 2001), wrong}, {first + "a\r\n\r\n" + strings.Repeat("b", 2001), wrong},
	}
	for _, line := range []string{"", " ", "HTTP/1.1", "HTTP/1.1 ", "HTTP/1.1200", "HTTP/1.1 20", "HTTP/1.1 2", "HTTP/1.1 2000", "HTTP/1.1 0200", "HTTP/1.1  200", "HTTP/1.1 200 ", "HTTP/1.1 200 OK", " HTTP/1.1 200", "HTTP/1.1\t200", "HTTP/1.1 2 0", "HTTP/1.1 +20", "HTTP/1.1 -20", "HTTP/1.1 2e2", "HTTP/1.1 20a", "HTTP/1.1 a20", "HTTP/1.1 0x2", "HTTP/1.1 \uff12", "HTTP/1.0 200", "http/1.1 200", "HTTP/2 200", "HTTP/1.1 200\r", "HTTP/1.1 200\n", "HTTP/1.1 \xff00", "200", "GET / HTTP/1.1"} {
		rows = append(rows, readResponseRow{line + "\r\n\r\nhi", wrong}, readResponseRow{line + "\r\na: b\r\n\r\n", wrong})
	}
	for _, row := range rows {
		checkReadResponse(t, []byte(row.text), row.want)
	}
}

func TestReadResponseBounds(t *testing.T) {
	const first = "HTTP/1.1 200\r\n"
	wrong, many := impl.ResponseResult{Code: impl.ErrText}, impl.ResponseResult{Code: impl.ErrMany}
	told := func(r impl.Response) impl.ResponseResult { return impl.ResponseResult{Response: r} }
	full := response(599, strings.Repeat("\r\n", 1000), sameLines(head(strings.Repeat("n", 64), strings.Repeat("v", 200)), 20)...)
	rows := []readResponseRow{
		{string(packResponseWanted(full).Bytes), told(full)},
		{first + "\r\n" + strings.Repeat("b", 2000), told(response(200, strings.Repeat("b", 2000)))}, {first + "\r\n" + strings.Repeat("b", 2001), many}, {first + "\r\n" + strings.Repeat("\r\n", 1000), told(response(200, strings.Repeat("\r\n", 1000)))}, {first + "\r\n" + strings.Repeat("\r\n", 1001), many},
		{first + strings.Repeat("a: b\r\n", 20) + "\r\n", told(response(200, "", sameLines(head("a", "b"), 20)...))}, {first + strings.Repeat("a: b\r\n", 21) + "\r\n", many}, {first + "a:" + strings.Repeat(" ", 5995) + "b\r\n\r\n", told(response(200, "", head("a", "b")))}, {first + "a:" + strings.Repeat(" ", 5996) + "b\r\n\r\n", many},
		// All that is read is at most 10000 bytes.
		{strings.Repeat("x", 10000), wrong}, {strings.Repeat("x", 10001), many}, {strings.Repeat("x", 100000), many}, {"\r\n\r\n" + strings.Repeat("x", 9996), wrong}, {"\r\n\r\n" + strings.Repeat("x", 9997), many}, {"HTTP/1.1 20\r\n\r\n" + strings.Repeat("x", 9985), wrong}, {"HTTP/1.1 20\r\n\r\n" + strings.Repeat("x", 9986), many}, {strings.Repeat("\r", 10001), many},
	}
	for _, row := range rows {
		checkReadResponse(t, []byte(row.text), row.want)
	}
}

func TestSameRequests(t *testing.T) {
	a := request("GET", "a", "/x", head("b", "c"))
	rows := []struct {
		a, b impl.Request
		want bool
	}{
		{impl.Request{}, impl.Request{}, true}, {impl.Request{}, impl.Request{Headers: []impl.Header{}}, true}, {a, a, true}, {a, request("GET", "a", "/x", head("b", "c")), true}, {a, impl.Request{}, false}, {a, request("HEAD", "a", "/x", head("b", "c")), false}, {a, request("GET", "A", "/x", head("b", "c")), false}, {a, request("GET", "a", "/X", head("b", "c")), false}, {a, request("GET", "a", "/x"), false}, {a, request("GET", "a", "/x", head("b", "d")), false}, {a, request("GET", "a", "/x", head("B", "c")), false}, {a, request("GET", "a", "/x", head("b", "c"), head("b", "c")), false},
		// One key is not one request.
		{request("GET", "a", "/?a&b"), request("GET", "a", "/?b&a"), false}, {request("GET", "a", "/?"), request("GET", "a", "/"), false},
		// Asked of any: with faults, too.
		{request("x", "\n", "", impl.Header{}), request("x", "\n", "", impl.Header{}), true}, {request("x", "\n", "", impl.Header{}), request("x", "\n", ""), false}, {request("x", "\n", ""), request("x", "\r", ""), false}, {request("", "", "", sameLines(head("a", "b"), 100)...), request("", "", "", sameLines(head("a", "b"), 100)...), true}, {request("", "", "", sameLines(head("a", "b"), 100)...), request("", "", "", sameLines(head("a", "b"), 101)...), false},
	}
	for i, row := range rows {
		if impl.SameRequests(row.a, row.b) != row.want || impl.SameRequests(row.b, row.a) != row.want {
			t.Errorf("%d: SameRequests(%q, %q) is not %v", i, row.a, row.b, row.want)
		}
	}
	list := manyRequests(300)
	for i := range list {
		for j := range list {
			if got, want := impl.SameRequests(list[i], list[j]), sameAsked(list[i], list[j]); got != want {
				t.Errorf("SameRequests(%q, %q) = %v", list[i], list[j], got)
			}
		}
	}
}

func TestSameResponses(t *testing.T) {
	a := response(200, "hi", head("b", "c"))
	rows := []struct {
		a, b impl.Response
		want bool
	}{
		{impl.Response{}, impl.Response{}, true}, {impl.Response{}, impl.Response{Headers: []impl.Header{}, Body: []byte{}}, true}, {impl.Response{Status: 200}, response(200, ""), true}, {a, a, true}, {a, response(200, "hi", head("b", "c")), true}, {a, impl.Response{}, false}, {a, response(201, "hi", head("b", "c")), false}, {a, response(200, "ho", head("b", "c")), false}, {a, response(200, "Hi", head("b", "c")), false}, {a, response(200, "\x00i", head("b", "c")), false}, {a, response(200, "h", head("b", "c")), false}, {a, response(200, "hi\x00", head("b", "c")), false}, {a, response(200, "", head("b", "c")), false}, {a, response(200, "hi"), false}, {a, response(200, "hi", head("b", "C")), false}, {a, response(200, "hi", head("b", "c"), head("b", "c")), false},
		// Asked of any: with faults, too.
		{response(-1, strings.Repeat("b", 5000), impl.Header{}), response(-1, strings.Repeat("b", 5000), impl.Header{}), true}, {response(-1, strings.Repeat("b", 5000)), response(-1, strings.Repeat("b", 4999)+"c"), false}, {response(-1, ""), response(1, ""), false}, {response(0, "", sameLines(head("a", "b"), 30)...), response(0, "", sameLines(head("a", "b"), 30)...), true}, {response(0, "", sameLines(head("a", "b"), 30)...), response(0, "", sameLines(head("a", "b"), 29)...), false},
	}
	for i, row := range rows {
		if impl.SameResponses(row.a, row.b) != row.want || impl.SameResponses(row.b, row.a) != row.want {
			t.Errorf("%d: SameResponses is not %v", i, row.want)
		}
	}
	list := manyResponses(300)
	for i := range list {
		for j := range list {
			if got, want := impl.SameResponses(list[i], list[j]), sameTold(list[i], list[j]); got != want {
				t.Errorf("SameResponses(%s, %s) = %v", shownResponse(list[i]), shownResponse(list[j]), got)
			}
		}
	}
}

// Promise 6: requests are read back from their bytes, and bytes that were read are told the same from then on.
func TestPromise6RequestsAreReadBack(t *testing.T) {
	read := 0
	for _, r := range manyRequests(6000) {
		packed := impl.PackRequest(r)
		if packed.Code != impl.RequestFault(r) {
			t.Errorf("%q has the fault %d, and its bytes the code %d", r, impl.RequestFault(r), packed.Code)
		}
		if packed.Code != impl.OK {
			continue
		}
		read++
		if got := impl.ReadRequest(packed.Bytes); got.Code != impl.OK || !impl.SameRequests(got.Request, r) || !sameAsked(got.Request, r) {
			t.Errorf("%q is read back from %q as %d %q", r, packed.Bytes, got.Code, got.Request)
		}
	}
	if read < 3000 {
		t.Errorf("no more than %d requests had bytes", read)
	}
	for _, data := range requestData() {
		first := impl.ReadRequest(data)
		if first.Code != impl.OK {
			continue
		}
		if impl.RequestFault(first.Request) != impl.OK {
			t.Errorf("%q was read, and has a fault", first.Request)
		}
		again := impl.PackRequest(first.Request)
		if second := impl.ReadRequest(again.Bytes); second.Code != impl.OK || !sameAsked(first.Request, second.Request) {
			t.Errorf("%q: %q, and from %q: %d %q", data, first.Request, again.Bytes, second.Code, second.Request)
		}
	}
}

// Promise 6: responses are read back from their bytes, whatever their Body looks like.
func TestPromise6ResponsesAreReadBack(t *testing.T) {
	list := manyResponses(6000)
	for _, body := range piecesTogether([]string{"\r\n", "\r", "\n", "a: b", "HTTP/1.1 200"}, 5) {
		list = append(list, response(200, string(body)), response(404, string(body), head("a", ""), head("b", "c")))
	}
	read := 0
	for _, r := range list {
		packed := impl.PackResponse(r)
		if packed.Code != impl.ResponseFault(r) {
			t.Errorf("a response has the fault %d, and its bytes the code %d", impl.ResponseFault(r), packed.Code)
		}
		if packed.Code != impl.OK {
			continue
		}
		read++
		if got := impl.ReadResponse(packed.Bytes); got.Code != impl.OK || !impl.SameResponses(got.Response, r) || !sameTold(got.Response, r) {
			t.Errorf("%s is read back from %q as %d %s", shownResponse(r), packed.Bytes, got.Code, shownResponse(got.Response))
		}
	}
	if read < 3000 {
		t.Errorf("no more than %d responses had bytes", read)
	}
	for _, data := range responseData() {
		first := impl.ReadResponse(data)
		if first.Code != impl.OK {
			continue
		}
		if impl.ResponseFault(first.Response) != impl.OK {
			t.Errorf("%s was read, and has a fault", shownResponse(first.Response))
		}
		again := impl.PackResponse(first.Response)
		if second := impl.ReadResponse(again.Bytes); second.Code != impl.OK || !sameTold(first.Response, second.Response) {
			t.Errorf("%q: %s, and from %q: %d %s", data, shownResponse(first.Response), again.Bytes, second.Code, shownResponse(second.Response))
		}
	}
}

// writtenAnew turns small letters to large ones and large ones to small ones, here and there.
func writtenAnew(source *rand.Rand, host string) string {
	letters := []byte(host)
	for i, b := range letters {
		if source.Intn(2) == 0 && (b >= 'a' && b <= 'z' || b >= 'A' && b <= 'Z') {
			letters[i] = b ^ 32
		}
	}
	return string(letters)
}

// Promise 6: the order of what stands in a query does not tell, nor how a host is written; all else in them does.
func TestPromise6KeysOfOneThing(t *testing.T) {
	source := rand.New(rand.NewSource(18))
	pieces := []string{"a", "a=1", "a=10", "b", "B", "ab", "=", "a?b", "~", "!", "a", "b=2"}
	for range 5000 {
		var query []string
		for range source.Intn(8) {
			query = append(query, pieces[source.Intn(len(pieces))])
		}
		host := askHosts[source.Intn(rightHosts)]
		r := request("GET", host, "/y?"+strings.Join(query, "&"), chosenHeads(source, 5, 0)...)
		names := []string{"age", "A"}
		key, full := impl.KeyOf(r), impl.FullKey(r, names)
		other := r
		shuffled := append(slices.Clone(query), make([]string, source.Intn(3))...)
		source.Shuffle(len(shuffled), func(i, j int) { shuffled[i], shuffled[j] = shuffled[j], shuffled[i] })
		other.Method, other.Host, other.Path = "HEAD", writtenAnew(source, host), "/y?"+strings.Join(shuffled, "&")
		if got := impl.KeyOf(other); key.Code != impl.OK || got != key {
			t.Errorf("%q has the key %s, and %q %s", r.Path, shown(key.Text), other.Path, shown(got.Text))
		}
		if got := impl.FullKey(other, names); full.Code != impl.OK || got != full {
			t.Errorf("%q has the full key %s, and %q %s", r.Path, shown(full.Text), other.Path, shown(got.Text))
		}
		more := r
		more.Path = "/y?" + strings.Join(append(shuffled, pieces[source.Intn(len(pieces))]), "&")
		if impl.KeyOf(more) == key {
			t.Errorf("%q and %q have one key", r.Path, more.Path)
		}
	}
}

// Promise 6: with or without large letters in a name, full keys tell the lines that are named apart, and no others.
func TestPromise6FullKeysTellNamedLines(t *testing.T) {
	r := request("GET", "a", "/", head("Accept", "x"), head("b", "1"))
	same := []impl.Request{request("HEAD", "A", "/?", head("ACCEPT", "x")), request("GET", "a", "/?&", head("b", "2"), head("accept", "x"))}
	others := []impl.Request{request("GET", "a", "/", head("Accept", "y")), request("GET", "a", "/", head("Accept", "")), request("GET", "a", "/"), request("GET", "a", "/", head("Accept", "X")), request("GET", "a", "/", head("Accept", "x"), head("accept", "x")), request("GET", "b", "/", head("Accept", "x")), request("GET", "a", "/a", head("Accept", "x"))}
	for _, names := range [][]string{{"accept"}, {"ACCEPT"}, {"Accept"}} {
		want := impl.FullKey(r, names)
		for _, other := range same {
			if got := impl.FullKey(other, names); want.Code != impl.OK || got != want {
				t.Errorf("%q: %d %s, and %d %s", names, want.Code, shown(want.Text), got.Code, shown(got.Text))
			}
		}
		for _, other := range others {
			if got := impl.FullKey(other, names); got.Code != impl.OK || got == want {
				t.Errorf("%q: %q has %d %s", names, other, got.Code, shown(got.Text))
			}
		}
	}
}

type messageAnswers struct {
	faults    [2]int64
	keys      [2]impl.TextResult
	packed    [2]impl.BytesResult
	asked     [2]impl.RequestResult
	told      [2]impl.ResponseResult
	sameAsked bool
	sameTold  bool
}

// askMessages reads what it is given, and what was packed of it.
func askMessages(r impl.Request, names []string, q impl.Response, data []byte) messageAnswers {
	a := messageAnswers{
		faults: [2]int64{impl.RequestFault(r), impl.ResponseFault(q)},
		keys:   [2]impl.TextResult{impl.KeyOf(r), impl.FullKey(r, names)},
		packed: [2]impl.BytesResult{impl.PackRequest(r), impl.PackResponse(q)},
	}
	a.asked = [2]impl.RequestResult{impl.ReadRequest(data), impl.ReadRequest(a.packed[0].Bytes)}
	a.told = [2]impl.ResponseResult{impl.ReadResponse(data), impl.ReadResponse(a.packed[1].Bytes)}
	a.sameAsked, a.sameTold = impl.SameRequests(r, a.asked[1].Request), impl.SameResponses(q, a.told[1].Response)
	return a
}

func (a messageAnswers) equals(b messageAnswers) bool {
	for i := range 2 {
		if !sameBytes(a.packed[i], b.packed[i]) ||
			a.asked[i].Code != b.asked[i].Code || !sameAsked(a.asked[i].Request, b.asked[i].Request) ||
			a.told[i].Code != b.told[i].Code || !sameTold(a.told[i].Response, b.told[i].Response) {
			return false
		}
	}
	return a.faults == b.faults && a.keys == b.keys && a.sameAsked == b.sameAsked && a.sameTold == b.sameTold
}

// bare: beside a code there is nothing.
func (a messageAnswers) bare() bool {
	for i := range 2 {
		if a.keys[i].Code != impl.OK && a.keys[i].Text != "" ||
			a.packed[i].Code != impl.OK && len(a.packed[i].Bytes) > 0 ||
			a.asked[i].Code != impl.OK && !sameAsked(a.asked[i].Request, impl.Request{}) ||
			a.told[i].Code != impl.OK && !sameTold(a.told[i].Response, impl.Response{}) {
			return false
		}
	}
	return true
}

// manyMessages hands on requests, names, responses and bytes, the same ones each time.
func manyMessages(count int, each func(i int, r impl.Request, names []string, q impl.Response, data []byte)) {
	source := rand.New(rand.NewSource(19))
	asked, told := manyRequests(count), manyResponses(count)
	for i := range count {
		data := packRequestWanted(asked[i]).Bytes
		if source.Intn(2) == 0 {
			data = packResponseWanted(told[i]).Bytes
		}
		if source.Intn(2) == 0 {
			data = turned(source, data)
		}
		each(i, asked[i], chosenNames(source, 5), told[i], data)
	}
}

// Promise 1: asked again in between others the functions of chapter 5 tell the same, and beside a code nothing.
func TestPromise1MessagesHangOnArgumentsAlone(t *testing.T) {
	const count = 3000
	first := make([]messageAnswers, count)
	manyMessages(count, func(i int, r impl.Request, names []string, q impl.Response, data []byte) {
		first[i] = askMessages(r, names, q, data)
		if !first[i].bare() {
			t.Errorf("%d: something stands beside a code: %v", i, first[i])
		}
	})
	manyMessages(count, func(i int, r impl.Request, names []string, q impl.Response, data []byte) {
		if got := askMessages(r, names, q, data); !got.equals(first[i]) {
			t.Errorf("%d: %v, and then %v", i, first[i], got)
		}
	})
}

// scribble writes over all lists of the answers, and behind them.
func (a messageAnswers) scribble() {
	for i := range 2 {
		for _, list := range [][]impl.Header{a.asked[i].Request.Headers, a.told[i].Response.Headers} {
			clear(list[:cap(list)])
		}
		for _, list := range [][]byte{a.packed[i].Bytes, a.told[i].Response.Body} {
			clear(list[:cap(list)])
		}
	}
}

// Promise 1: what came in is left as it was, what stands behind it in memory, too, and no answer shares its memory.
func TestPromise1MessagesAreLeftAsTheyWere(t *testing.T) {
	manyMessages(3000, func(i int, r impl.Request, names []string, q impl.Response, data []byte) {
		heads := append(slices.Clone(r.Headers), head("behind", "kept"), head("more", "kept"))
		lines := append(slices.Clone(q.Headers), head("behind", "kept"), head("more", "kept"))
		body, bytesGiven := append(slices.Clone(q.Body), "behind"...), append(slices.Clone(data), "behind"...)
		words := append(slices.Clone(names), "behind")
		keptHeads, keptLines, keptBody, keptBytes, keptWords := slices.Clone(heads), slices.Clone(lines), slices.Clone(body), slices.Clone(bytesGiven), slices.Clone(words)
		r.Headers, q.Headers, q.Body = heads[:len(r.Headers)], lines[:len(q.Headers)], body[:len(q.Body)]
		answers := askMessages(r, words[:len(names)], q, bytesGiven[:len(data)])
		same := func() bool {
			return slices.Equal(heads, keptHeads) && slices.Equal(lines, keptLines) && bytes.Equal(body, keptBody) && bytes.Equal(bytesGiven, keptBytes) && slices.Equal(words, keptWords)
		}
		if !same() {
			t.Fatalf("%d: an argument was changed", i)
		}
		answers.scribble()
		if !same() {
			t.Fatalf("%d: an answer shares its memory with an argument", i)
		}
	})
}

// Promise 1: what was read stays as it is, whatever becomes of the bytes and of the lists that it was read from.
func TestPromise1MessagesAreNewMemory(t *testing.T) {
	manyMessages(3000, func(i int, r impl.Request, names []string, q impl.Response, data []byte) {
		want := askMessages(r, names, q, data)
		list, lines, body, given := slices.Clone(r.Headers), slices.Clone(q.Headers), slices.Clone(q.Body), slices.Clone(data)
		r.Headers, q.Headers, q.Body = list, lines, body
		got := askMessages(r, names, q, given)
		clear(list)
		clear(lines)
		clear(body)
		clear(given)
		if !got.equals(want) {
			t.Fatalf("%d: an answer changed with its arguments", i)
		}
	})
}

// Promise 1: the keys are new texts.
func TestPromise1KeysAreNewMemory(t *testing.T) {
	source := rand.New(rand.NewSource(20))
	for range 2000 {
		r := chosenRequest(source, 0)
		r.Host, r.Path = strings.Clone(r.Host), strings.Clone(r.Path)
		for _, key := range []string{impl.KeyOf(r).Text, impl.FullKey(r, nil).Text, impl.FullKey(r, []string{"age"}).Text} {
			if key == "" || shareMemory(key, r.Host) || shareMemory(key, r.Path) {
				t.Errorf("the key %s of %q shares memory with it", shown(key), r)
			}
		}
	}
}
