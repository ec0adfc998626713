package tests

import (
	"fmt"
	"math"
	"math/rand"
	"slices"
	"strings"
	"testing"

	"loop.example/g00665/impl"
)

// The signatures and the types as the document tells them.
var (
	_ func(impl.Flight) int64                                 = impl.FlightFault
	_ func([]impl.Flight) int64                               = impl.FlightsFault
	_ func([]impl.Flight, string) impl.IntResult              = impl.FlightOf
	_ func([]impl.Flight, int64) impl.IntResult               = impl.FlightBy
	_ func(impl.Flight, impl.Waiter, int64) impl.FlightResult = impl.JoinFlight
	_ func(impl.Flight, int64) impl.WaitersResult             = impl.ExpireWaiters
	_ func([]impl.Flight, []impl.Flight) bool                 = impl.SameFlights

	_ = impl.Waiter{Req: int64(0), Head: false, Due: int64(0), Late: false}
	_ = impl.Flight{Id: int64(0), Key: "", Back: false, Out: false, Due: int64(0), Doomed: false, Get: impl.Request{}, Waiters: []impl.Waiter{}}
	_ = impl.FlightResult{Code: int64(0), Flight: impl.Flight{}}
	_ = impl.WaitersResult{Code: int64(0), Flight: impl.Flight{}, Waiters: []impl.Waiter{}}
)

// waiters has who asked and until when it waits, one behind the other.
func waiters(numbers ...int64) []impl.Waiter {
	var list []impl.Waiter
	for i := 0; i < len(numbers); i += 2 {
		list = append(list, impl.Waiter{Req: numbers[i], Due: numbers[i+1]})
	}
	return list
}

// outFor is a flight that is out, with those who wait for it.
func outFor(id int64, key string, numbers ...int64) impl.Flight {
	return impl.Flight{Id: id, Key: key, Out: true, Due: 700, Get: request("GET", "a.com", "/y", head("accept", "q")), Waiters: waiters(numbers...)}
}

// unsent is a flight that waits in a bulkhead.
func unsent(id int64, key string, numbers ...int64) impl.Flight {
	f := outFor(id, key, numbers...)
	f.Out, f.Due = false, 0
	return f
}

func waitedForBy(f impl.Flight, list []impl.Waiter) impl.Flight {
	f.Waiters = list
	return f
}

// manyWaiters have the numbers from first on.
func manyWaiters(first, count int64) []impl.Waiter {
	var list []impl.Waiter
	for i := range count {
		list = append(list, impl.Waiter{Req: first + i, Head: i%2 == 0, Due: 5 * i, Late: i%3 == 0})
	}
	return list
}

// manyFlights have the Ids from first on, keys of their own, and two who wait for each.
func manyFlights(first, count int64) []impl.Flight {
	var list []impl.Flight
	for i := range count {
		list = append(list, outFor(first+i, fmt.Sprint("k", i), 1000+10*i, 5, 1001+10*i, 6))
	}
	return list
}

func sameFlight(a, b impl.Flight) bool {
	return a.Id == b.Id && a.Key == b.Key && a.Back == b.Back && a.Out == b.Out && a.Due == b.Due && a.Doomed == b.Doomed && sameAsked(a.Get, b.Get) && slices.Equal(a.Waiters, b.Waiters)
}

func sameJoin(a, b impl.FlightResult) bool {
	return a.Code == b.Code && sameFlight(a.Flight, b.Flight)
}

func sameOver(a, b impl.WaitersResult) bool {
	return a.Code == b.Code && sameFlight(a.Flight, b.Flight) && slices.Equal(a.Waiters, b.Waiters)
}

func flightWanted(f impl.Flight) int64 {
	if f.Id < 0 || f.Id > impl.MaxTime || f.Due < 0 || f.Due > impl.MaxTime {
		return impl.ErrRange
	}
	if !within(int64(len(f.Key)), 1, 500) {
		return impl.ErrMany
	}
	if code := requestWanted(f.Get); code != impl.OK {
		return code
	}
	if f.Due != 0 && !f.Out {
		return impl.ErrState
	}
	if len(f.Waiters) > 10 {
		return impl.ErrMany
	}
	for _, w := range f.Waiters {
		if !isTime(w.Req) || !isTime(w.Due) {
			return impl.ErrRange
		}
	}
	return codeWhere(!isReqTwice(f), impl.ErrTaken)
}

func isReqTwice(list ...impl.Flight) bool {
	var all []int64
	for _, f := range list {
		for _, w := range f.Waiters {
			all = append(all, w.Req)
		}
	}
	slices.Sort(all)
	return len(slices.Compact(slices.Clone(all))) != len(all)
}

func flightsWanted(list []impl.Flight) int64 {
	if len(list) > 24 {
		return impl.ErrMany
	}
	keys := map[string]int{}
	for _, f := range list {
		if code := flightWanted(f); code != impl.OK {
			return code
		}
		keys[f.Key]++
	}
	for i := range list {
		if i > 0 && list[i-1].Id >= list[i].Id {
			return impl.ErrForm
		}
	}
	return codeWhere(len(keys) == len(list) && !isReqTwice(list...), impl.ErrTaken)
}

func flightFound(list []impl.Flight, meant func(f impl.Flight) bool) impl.IntResult {
	if code := flightsWanted(list); code != impl.OK {
		return impl.IntResult{Code: code}
	}
	place := slices.IndexFunc(list, meant)
	if place < 0 {
		return impl.IntResult{Code: impl.ErrNone}
	}
	return impl.IntResult{Value: int64(place)}
}

func flightOfWanted(list []impl.Flight, key string) impl.IntResult {
	return flightFound(list, func(f impl.Flight) bool { return f.Key == key })
}

func flightByWanted(list []impl.Flight, id int64) impl.IntResult {
	return flightFound(list, func(f impl.Flight) bool { return f.Id == id })
}

func joinFlightWanted(f impl.Flight, w impl.Waiter, room int64) impl.FlightResult {
	joined := waitedForBy(f, slices.Concat(f.Waiters, []impl.Waiter{w}))
	switch code := flightWanted(f); {
	case code != impl.OK:
		return impl.FlightResult{Code: code}
	case !isTime(w.Req) || !isTime(w.Due) || !within(room, 1, 10):
		return impl.FlightResult{Code: impl.ErrRange}
	case isReqTwice(joined):
		return impl.FlightResult{Code: impl.ErrTaken}
	case int64(len(joined.Waiters)) > room:
		return impl.FlightResult{Code: impl.ErrFull}
	}
	return impl.FlightResult{Flight: joined}
}

func overWanted(f impl.Flight, now int64) impl.WaitersResult {
	if code := flightWanted(f); code != impl.OK {
		return impl.WaitersResult{Code: code}
	}
	if !isTime(now) {
		return impl.WaitersResult{Code: impl.ErrRange}
	}
	isOver := func(w impl.Waiter) bool { return w.Due <= now }
	isNot := func(w impl.Waiter) bool { return w.Due > now }
	left := waitedForBy(f, slices.DeleteFunc(slices.Clone(f.Waiters), isOver))
	return impl.WaitersResult{Flight: left, Waiters: slices.DeleteFunc(slices.Clone(f.Waiters), isNot)}
}

func checkJoin(t *testing.T, what string, f impl.Flight, w impl.Waiter, room int64, want impl.FlightResult) {
	t.Helper()
	if got := impl.JoinFlight(f, w, room); !sameJoin(got, want) {
		t.Errorf("%s: JoinFlight(%+v, %+v, %d) = %+v, want %+v", what, f, w, room, got, want)
	}
}

func checkOver(t *testing.T, what string, f impl.Flight, now int64, want impl.WaitersResult) {
	t.Helper()
	if got := impl.ExpireWaiters(f, now); !sameOver(got, want) {
		t.Errorf("%s: ExpireWaiters(%+v, %d) = %+v, want %+v", what, f, now, got, want)
	}
}

func checkFlightOf(t *testing.T, what string, list []impl.Flight, key string, want impl.IntResult) {
	t.Helper()
	if got := impl.FlightOf(list, key); got != want {
		t.Errorf("%s: FlightOf %s = %+v, want %+v", what, shown(key), got, want)
	}
}

func checkFlightBy(t *testing.T, what string, list []impl.Flight, id int64, want impl.IntResult) {
	t.Helper()
	if got := impl.FlightBy(list, id); got != want {
		t.Errorf("%s: FlightBy %d = %+v, want %+v", what, id, got, want)
	}
}

// checkFlightsCode asks all that ask the fault of a list: it stands ahead of their own codes, and nothing stands beside it.
func checkFlightsCode(t *testing.T, what string, list []impl.Flight, want int64) {
	t.Helper()
	if got := impl.FlightsFault(list); got != want {
		t.Errorf("%s: FlightsFault(%+v) = %d, want %d", what, list, got, want)
	}
	if want == impl.OK {
		return
	}
	for _, key := range []string{"", "k", "k0", "none", strings.Repeat("k", 501)} {
		checkFlightOf(t, what, list, key, impl.IntResult{Code: want})
	}
	for _, id := range []int64{math.MinInt64, -1, 0, 1, 50, impl.MaxTime, impl.MaxTime + 1} {
		checkFlightBy(t, what, list, id, impl.IntResult{Code: want})
	}
}

// checkFlightCode asks all that ask the fault of a flight, that of lists with it among them.
func checkFlightCode(t *testing.T, what string, f impl.Flight, want int64) {
	t.Helper()
	if got := impl.FlightFault(f); got != want {
		t.Errorf("%s: FlightFault(%+v) = %d, want %d", what, f, got, want)
	}
	checkFlightsCode(t, what+", alone", []impl.Flight{f}, want)
	if want == impl.OK {
		return
	}
	before, behind := outFor(1, "before", 901, 5), outFor(90, "behind", 902, 5)
	checkFlightsCode(t, what+", the first", []impl.Flight{f, behind}, want)
	checkFlightsCode(t, what+", in between", []impl.Flight{before, f, behind}, want)
	checkFlightsCode(t, what+", the last", []impl.Flight{before, f}, want)
	for _, n := range []int64{math.MinInt64, -1, 0, 1, 10, 11, 12, impl.MaxTime, impl.MaxTime + 1} {
		checkOver(t, what, f, n, impl.WaitersResult{Code: want})
		checkJoin(t, what, f, impl.Waiter{Req: n, Due: 5}, 10, impl.FlightResult{Code: want})
		checkJoin(t, what, f, impl.Waiter{Req: 77, Due: n}, 10, impl.FlightResult{Code: want})
		checkJoin(t, what, f, impl.Waiter{Req: 77, Due: 5}, n, impl.FlightResult{Code: want})
	}
}

func TestFlightBounds(t *testing.T) {
	if impl.MaxWaiters != 10 || impl.MaxFlights != 24 {
		t.Error("constants")
	}
}

func TestFlightFaultNumbers(t *testing.T) {
	for _, n := range edgeNumbers {
		want := codeWhere(isTime(n), impl.ErrRange)
		out, waiting := outFor(n, "k", 11, 5), unsent(n, "k")
		checkFlightCode(t, "Id of one that is out", out, want)
		checkFlightCode(t, "Id of one that waits", waiting, want)
		out.Id, out.Due = 50, n
		checkFlightCode(t, "Due of one that is out", out, want)
		waiting.Id, waiting.Due = 50, n
		switch {
		case !isTime(n):
			checkFlightCode(t, "Due of one that waits, no time", waiting, impl.ErrRange)
		case n == 0:
			checkFlightCode(t, "Due of one that waits, none", waiting, impl.OK)
		default:
			checkFlightCode(t, "Due of one that waits", waiting, impl.ErrState)
		}
	}
	for _, n := range []int64{0, impl.MaxTime} {
		checkFlightCode(t, "both at a bound", impl.Flight{Id: n, Key: "k", Out: true, Due: n, Get: request("GET", "a", "/")}, impl.OK)
	}
	checkFlightCode(t, "nothing in it", impl.Flight{}, impl.ErrMany)
}

func TestFlightFaultState(t *testing.T) {
	for i := range 8 {
		f := unsent(50, "k", 11, 5)
		f.Back, f.Doomed = i&1 > 0, i&2 > 0
		if i&4 > 0 {
			f.Waiters = nil
		}
		// Neither Back nor Doomed nor who waits tells of this.
		checkFlightCode(t, "not out, no Due", f, impl.OK)
		f.Due = 1
		checkFlightCode(t, "not out, and a Due", f, impl.ErrState)
		f.Due = impl.MaxTime
		checkFlightCode(t, "not out, and the greatest Due", f, impl.ErrState)
		f.Out = true
		checkFlightCode(t, "out, and the greatest Due", f, impl.OK)
		f.Due = 1
		checkFlightCode(t, "out, and a Due", f, impl.OK)
		f.Due = 0
		checkFlightCode(t, "out, and a Due of 0", f, impl.OK)
	}
}

func TestFlightFaultKey(t *testing.T) {
	for _, count := range []int{0, 1, 2, 256, 499, 500, 501, 502, 1000, 100000} {
		want := codeWhere(count >= 1 && count <= 500, impl.ErrMany)
		checkFlightCode(t, "a Key", outFor(50, strings.Repeat("k", count)), want)
		checkFlightCode(t, "a Key of bytes that are no text", unsent(50, strings.Repeat("\xff", count), 11, 5), want)
	}
	// It is counted in bytes, and they may be any; it need not be the key of what is asked for.
	checkFlightCode(t, "250 letters of two bytes", outFor(50, strings.Repeat("\u00e4", 250)), impl.OK)
	checkFlightCode(t, "251 letters of two bytes", outFor(50, strings.Repeat("\u00e4", 251)), impl.ErrMany)
	for _, key := range []string{" ", "\n", "\x00", "a.com/y accept=q", "elsewhere/", "\xff\xfe"} {
		checkFlightCode(t, "a Key "+shown(key), outFor(50, key), impl.OK)
	}
}

// getRow is what is asked for, with the code that is told of it.
type getRow struct {
	what string
	get  impl.Request
	want int64
}

func getRows() []getRow {
	line := head("a", "b")
	return []getRow{
		{"the shortest", request("GET", "a", "/"), impl.OK}, {"only the head", request("HEAD", "a", "/"), impl.OK}, {"the longest", request("GET", strings.Repeat("h", 60), "/"+strings.Repeat("p", 99)), impl.OK},
		{"as many lines as may be", request("GET", "a", "/", sameLines(line, 19)...), impl.OK}, {"a long line", request("GET", "a", "/", head(strings.Repeat("n", 64), strings.Repeat("v", 200))), impl.OK},
		{"nothing", impl.Request{}, impl.ErrText}, {"no Method", request("", "a", "/"), impl.ErrText}, {"another Method", request("POST", "a", "/"), impl.ErrText}, {"a Method in small letters", request("get", "a", "/"), impl.ErrText},
		{"no Host", request("GET", "", "/"), impl.ErrText}, {"a wrong Host", request("GET", "a_b", "/"), impl.ErrText}, {"a Host too long", request("GET", strings.Repeat("h", 61), "/"), impl.ErrText},
		{"no Path", request("GET", "a", ""), impl.ErrText}, {"a Path without /", request("GET", "a", "y"), impl.ErrText}, {"a wrong Path", request("GET", "a", "/ y"), impl.ErrText}, {"a Path too long", request("GET", "a", "/"+strings.Repeat("p", 100)), impl.ErrText},
		{"too many lines", request("GET", "a", "/", sameLines(line, 21)...), impl.ErrMany}, {"a wrong Name", request("GET", "a", "/", head("a b", "c")), impl.ErrText}, {"a Value too long", request("GET", "a", "/", line, head("a", strings.Repeat("v", 201))), impl.ErrMany}, {"a Value that is not plain", request("GET", "a", "/", head("a", "b\n")), impl.ErrText}, {"a Value with a blank ahead", request("GET", "a", "/", line, head("a", " b")), impl.ErrText},
		{"a line like Host", request("GET", "a", "/", line, head("hOsT", "a")), impl.ErrTaken}, {"no room for the Host", request("GET", "a", "/", sameLines(line, 20)...), impl.ErrMany},
	}
}

func TestFlightFaultGet(t *testing.T) {
	for _, row := range getRows() {
		for _, f := range []impl.Flight{outFor(50, "k", 11, 5), unsent(50, "k")} {
			f.Get = row.get
			checkFlightCode(t, "a Get with "+row.what, f, row.want)
		}
	}
	for _, r := range manyRequests(2000) {
		f := outFor(50, "k")
		f.Get = r
		if got, want := impl.FlightFault(f), requestWanted(r); got != want {
			t.Errorf("FlightFault with the Get %q = %d, want %d", r, got, want)
		}
	}
}

func TestFlightFaultCounts(t *testing.T) {
	for count := range int64(13) {
		want := codeWhere(count <= 10, impl.ErrMany)
		checkFlightCode(t, "so many wait", waitedForBy(outFor(50, "k"), manyWaiters(11, count)), want)
		checkFlightCode(t, "so many wait for one that waits", waitedForBy(unsent(50, "k"), manyWaiters(11, count)), want)
	}
	checkFlightCode(t, "an empty list", waitedForBy(outFor(50, "k"), []impl.Waiter{}), impl.OK)
	checkFlightCode(t, "very many wait", waitedForBy(outFor(50, "k"), make([]impl.Waiter, 100000)), impl.ErrMany)
}

func TestFlightFaultOfWaiters(t *testing.T) {
	for _, n := range edgeNumbers {
		want := codeWhere(isTime(n), impl.ErrRange)
		checkFlightCode(t, "the only Req", outFor(50, "k", n, 5), want)
		checkFlightCode(t, "the only Due", unsent(50, "k", 5, n), want)
		for place := range 4 {
			reqs, dues := outFor(50, "k", 21, 5, 22, 4, 23, 9, 24, 5), outFor(50, "k", 21, 5, 22, 4, 23, 9, 24, 5)
			reqs.Waiters[place].Req, dues.Waiters[place].Due = n, n
			checkFlightCode(t, "a Req", reqs, want)
			checkFlightCode(t, "a Due", dues, want)
		}
	}
	checkFlightCode(t, "the least and the greatest", outFor(50, "k", 0, 0, impl.MaxTime, impl.MaxTime), impl.OK)
	// Neither their order nor the Due of the flight tells, nor whether they are Late or ask for the head alone.
	checkFlightCode(t, "falling", outFor(50, "k", 9, 900, 8, 80, 7, 0, 6, impl.MaxTime), impl.OK)
	checkFlightCode(t, "marked", waitedForBy(outFor(50, "k"), []impl.Waiter{{Req: 1, Late: true}, {Req: 2, Head: true}, {Req: 3, Head: true, Late: true}}), impl.OK)
}

func TestFlightFaultTaken(t *testing.T) {
	for first := range 10 {
		for later := range 10 {
			want := codeWhere(first == later, impl.ErrTaken)
			f := waitedForBy(outFor(50, "k"), manyWaiters(0, 10))
			f.Waiters[later] = f.Waiters[first]
			checkFlightCode(t, "two with one number", f, want)
			// That all else is another does not tell.
			f.Waiters[later] = impl.Waiter{Req: f.Waiters[first].Req, Head: !f.Waiters[first].Head, Due: 99, Late: !f.Waiters[first].Late}
			checkFlightCode(t, "two with one number, else different", f, want)
			f.Waiters[9].Due = -1
			checkFlightCode(t, "two with one number, and a Due below", f, impl.ErrRange)
		}
	}
	checkFlightCode(t, "two alone", outFor(50, "k", 7, 1, 7, 1), impl.ErrTaken)
	checkFlightCode(t, "two alone with the least number", unsent(50, "k", 0, 1, 0, 2), impl.ErrTaken)
	checkFlightCode(t, "two with the greatest number", outFor(50, "k", impl.MaxTime, 1, 3, 1, impl.MaxTime, 1), impl.ErrTaken)
	checkFlightCode(t, "three with one number", outFor(50, "k", 7, 1, 7, 2, 7, 3), impl.ErrTaken)
	checkFlightCode(t, "one Due", outFor(50, "k", 7, 1, 8, 1), impl.OK)
	checkFlightCode(t, "a number that is a Due", outFor(50, "k", 7, 8, 8, 7), impl.OK)
	checkFlightCode(t, "a number that is the flight's", outFor(50, "k", 50, 8), impl.OK)
}

// faultInFlight gives a flight a fault.
type faultInFlight struct {
	what  string
	field string
	turn  func(f *impl.Flight)
	want  int64
}

// flightTurns stand in the order in which they are asked.
func flightTurns() []faultInFlight {
	return []faultInFlight{
		{"id below", "id", func(f *impl.Flight) { f.Id = -1 }, impl.ErrRange},
		{"id above", "id", func(f *impl.Flight) { f.Id = impl.MaxTime + 1 }, impl.ErrRange},
		{"due below", "due", func(f *impl.Flight) { f.Due = -1 }, impl.ErrRange},
		{"due above", "due", func(f *impl.Flight) { f.Due = impl.MaxTime + 1 }, impl.ErrRange},
		{"no key", "key", func(f *impl.Flight) { f.Key = "" }, impl.ErrMany},
		{"long key", "key", func(f *impl.Flight) { f.Key = strings.Repeat("k", 501) }, impl.ErrMany},
		{"method", "get", func(f *impl.Flight) { f.Get.Method = "PUT" }, impl.ErrText},
		{"host", "get", func(f *impl.Flight) { f.Get.Host = "" }, impl.ErrText},
		{"path", "get", func(f *impl.Flight) { f.Get.Path = "y" }, impl.ErrText},
		{"long value", "get", func(f *impl.Flight) { f.Get.Headers = []impl.Header{head("a", strings.Repeat("v", 201))} }, impl.ErrMany},
		{"a line like Host", "get", func(f *impl.Flight) { f.Get.Headers = []impl.Header{head("host", "a")} }, impl.ErrTaken},
		{"20 lines", "get", func(f *impl.Flight) { f.Get.Headers = sameLines(head("a", "b"), 20) }, impl.ErrMany},
		{"not out", "out", func(f *impl.Flight) { f.Out = false }, impl.ErrState},
		{"many", "many", func(f *impl.Flight) { f.Waiters = append(f.Waiters, manyWaiters(31, 8)...) }, impl.ErrMany},
		{"req below", "waits", func(f *impl.Flight) { f.Waiters[0].Req = -1 }, impl.ErrRange},
		{"req above", "waits", func(f *impl.Flight) { f.Waiters[2].Req = impl.MaxTime + 1 }, impl.ErrRange},
		{"a due below", "dues", func(f *impl.Flight) { f.Waiters[2].Due = -1 }, impl.ErrRange},
		{"a due above", "dues", func(f *impl.Flight) { f.Waiters[0].Due = math.MaxInt64 }, impl.ErrRange},
		{"taken", "waits", func(f *impl.Flight) { f.Waiters[1].Req = f.Waiters[0].Req }, impl.ErrTaken},
	}
}

func TestFlightFaultInOrder(t *testing.T) {
	turns := flightTurns()
	for first := range turns {
		for later := first; later < len(turns); later++ {
			// Two that turn the same leave only the one that is applied last.
			if later != first && turns[first].field == turns[later].field {
				continue
			}
			f := outFor(50, "k", 21, 5, 22, 4, 23, 9)
			turns[later].turn(&f)
			turns[first].turn(&f)
			checkFlightCode(t, turns[first].what+" ahead of "+turns[later].what, f, turns[first].want)
		}
	}
	// A Req and a Due are asked of each that waits ahead of the next, but two with one number behind all of them.
	checkFlightCode(t, "taken, then a Due above", outFor(50, "k", 7, 1, 7, 1, 8, impl.MaxTime+1), impl.ErrRange)
	checkFlightCode(t, "taken, and both wrong", outFor(50, "k", -7, 1, -7, 1), impl.ErrRange)
	checkFlightCode(t, "not out, and taken", waitedForBy(impl.Flight{Id: 50, Key: "k", Due: 5, Get: request("GET", "a", "/")}, waiters(7, 1, 7, 1)), impl.ErrState)
}

func TestFlightsFaultCounts(t *testing.T) {
	checkFlightsCode(t, "none", nil, impl.OK)
	checkFlightsCode(t, "an empty list", []impl.Flight{}, impl.OK)
	for count := range int64(28) {
		checkFlightsCode(t, "so many", manyFlights(3, count), codeWhere(count <= 24, impl.ErrMany))
	}
	full := manyFlights(0, 24)
	for i := range full {
		full[i].Waiters = manyWaiters(int64(100*i), 10)
	}
	checkFlightsCode(t, "as many as may be, with as many who wait", full, impl.OK)
	checkFlightsCode(t, "very many", make([]impl.Flight, 10000), impl.ErrMany)
}

// Each flight is asked all codes ahead of the next one, whatever these are.
func TestFlightsFaultOneByOne(t *testing.T) {
	turns := flightTurns()
	for i, one := range turns {
		for _, other := range turns {
			list := []impl.Flight{outFor(50, "k", 21, 5, 22, 4, 23, 9), outFor(60, "l", 61, 5, 62, 4, 63, 9)}
			one.turn(&list[0])
			other.turn(&list[1])
			checkFlightsCode(t, one.what+" of the first, "+other.what+" of the second", list, one.want)
		}
		for place := range int64(24) {
			list := manyFlights(40, 24)
			list[place].Waiters = append(list[place].Waiters, impl.Waiter{Req: 5000})
			one.turn(&list[place])
			if got := impl.FlightsFault(list); got != flightWanted(list[place]) || got == impl.OK {
				t.Errorf("turn %d of the flight %d: the code %d", i, place, got)
			}
		}
	}
}

func TestFlightsFaultIds(t *testing.T) {
	three := func(a, b, c int64) []impl.Flight {
		return []impl.Flight{outFor(a, "k", 21, 5), unsent(b, "l"), outFor(c, "m", 22, 5)}
	}
	for _, row := range []struct {
		list []impl.Flight
		want int64
	}{
		{three(0, 1, 2), impl.OK}, {three(0, 5, impl.MaxTime), impl.OK}, {three(impl.MaxTime-2, impl.MaxTime-1, impl.MaxTime), impl.OK},
		{three(1, 1, 2), impl.ErrForm}, {three(1, 2, 2), impl.ErrForm}, {three(2, 2, 2), impl.ErrForm}, {three(0, 0, 1), impl.ErrForm}, {three(0, impl.MaxTime, impl.MaxTime), impl.ErrForm},
		{three(2, 1, 3), impl.ErrForm}, {three(1, 3, 2), impl.ErrForm}, {three(3, 2, 1), impl.ErrForm}, {three(1, 2, 1), impl.ErrForm}, {three(impl.MaxTime, 0, 1), impl.ErrForm}, {three(1, 2, 0), impl.ErrForm},
	} {
		checkFlightsCode(t, "three", row.list, row.want)
	}
	for first := range 24 {
		for later := first + 1; later < 24; later++ {
			list := manyFlights(3, 24)
			list[first].Id, list[later].Id = list[later].Id, list[first].Id
			checkFlightsCode(t, "two that stand wrongly", list, impl.ErrForm)
		}
	}
	for place := 1; place < 24; place++ {
		list := manyFlights(3, 24)
		list[place].Id = list[place-1].Id
		checkFlightsCode(t, "two with one Id", list, impl.ErrForm)
	}
}

func TestFlightsFaultKeys(t *testing.T) {
	for first := range 24 {
		for later := range 24 {
			list := manyFlights(3, 24)
			list[later].Key = list[first].Key
			checkFlightsCode(t, "two with one Key", list, codeWhere(first == later, impl.ErrTaken))
			// What they ask for, and that one of them waits, does not tell.
			list[later].Get, list[later].Out, list[later].Due, list[later].Waiters = request("HEAD", "b", "/other"), false, 0, nil
			checkFlightsCode(t, "two with one Key, else different", list, codeWhere(first == later, impl.ErrTaken))
		}
	}
	one, long := outFor(3, "k"), strings.Repeat("k", 499)
	for _, key := range []string{"K", "k ", " k", "kk", "k\x00", "l"} {
		checkFlightsCode(t, "Keys that are near", []impl.Flight{one, outFor(4, key)}, impl.OK)
	}
	checkFlightsCode(t, "long Keys that differ in the last byte", []impl.Flight{outFor(3, long+"a"), outFor(4, long+"b")}, impl.OK)
	checkFlightsCode(t, "long Keys", []impl.Flight{outFor(3, long+"a"), outFor(4, long+"a")}, impl.ErrTaken)
	checkFlightsCode(t, "one Get, two Keys", []impl.Flight{outFor(3, "k"), outFor(4, "l")}, impl.OK)
}

func TestFlightsFaultWaiters(t *testing.T) {
	for first := range 24 {
		for later := range 24 {
			for at := range 4 {
				list := manyFlights(3, 24)
				list[later].Waiters[at/2].Req = list[first].Waiters[at%2].Req
				want := codeWhere(first == later && at/2 == at%2, impl.ErrTaken)
				checkFlightsCode(t, "one number in two flights", list, want)
				list[later].Waiters[at/2].Due += 100
				list[later].Waiters[at/2].Late = true
				checkFlightsCode(t, "one number in two flights, else different", list, want)
			}
		}
	}
	checkFlightsCode(t, "two flights alone", []impl.Flight{outFor(3, "k", 7, 1), outFor(4, "l", 7, 1)}, impl.ErrTaken)
	checkFlightsCode(t, "one that is out, one that waits", []impl.Flight{outFor(3, "k", 7, 1, 8, 1), unsent(4, "l", 9, 1, 8, 1)}, impl.ErrTaken)
	checkFlightsCode(t, "the first and the last of all", []impl.Flight{outFor(3, "k", 0, 1, 8, 1), outFor(4, "l"), outFor(5, "m", 9, 1, 0, 1)}, impl.ErrTaken)
	// A number that is a Due, or an Id of a flight, is no number of somebody who waits.
	checkFlightsCode(t, "numbers of flights", []impl.Flight{outFor(3, "k", 4, 1), outFor(4, "l", 3, 1), outFor(5, "m", 5, 3)}, impl.OK)
}

// faultInFlights gives a list of flights a fault.
type faultInFlights struct {
	what string
	turn func(list []impl.Flight) []impl.Flight
	want int64
}

// flightsTurns stand in the order in which they are asked.
func flightsTurns() []faultInFlights {
	return []faultInFlights{
		{"many", func(list []impl.Flight) []impl.Flight { return append(list, manyFlights(500, 24)...) }, impl.ErrMany},
		{"a fault of the last", func(list []impl.Flight) []impl.Flight { list[3].Get.Method = ""; return list }, impl.ErrText},
		{"Ids fall", func(list []impl.Flight) []impl.Flight { list[1].Id = 0; return list }, impl.ErrForm},
		{"one Key", func(list []impl.Flight) []impl.Flight { list[2].Key = list[0].Key; return list }, impl.ErrTaken},
		{"one Req", func(list []impl.Flight) []impl.Flight { list[2].Waiters[1].Req = list[0].Waiters[0].Req; return list }, impl.ErrTaken},
	}
}

func TestFlightsFaultInOrder(t *testing.T) {
	turns := flightsTurns()
	for first := range turns {
		for later := first; later < len(turns); later++ {
			list := turns[later].turn(manyFlights(40, 4))
			if later != first {
				list = turns[first].turn(list)
			}
			checkFlightsCode(t, turns[first].what+" ahead of "+turns[later].what, list, turns[first].want)
		}
	}
}

func TestFlightOf(t *testing.T) {
	list := []impl.Flight{outFor(3, "k", 21, 5), unsent(7, "a.com/y accept=q", 22, 5), outFor(8, strings.Repeat("k", 500)), outFor(impl.MaxTime, "\xff\x00")}
	for place, f := range list {
		checkFlightOf(t, "one of four", list, strings.Clone(f.Key), impl.IntResult{Value: int64(place)})
		checkFlightOf(t, "alone", list[place:place+1], f.Key, impl.IntResult{})
		checkFlightOf(t, "it is gone", slices.Concat(list[:place], list[place+1:]), f.Key, impl.IntResult{Code: impl.ErrNone})
	}
	for _, key := range []string{"", "K", "kk", "k ", "k\x00", "\xff", "\x00", "3", "a.com/y", "/y", strings.Repeat("k", 499), strings.Repeat("k", 501), strings.Repeat("k", 100000)} {
		checkFlightOf(t, "none", list, key, impl.IntResult{Code: impl.ErrNone})
		checkFlightOf(t, "none of none", nil, key, impl.IntResult{Code: impl.ErrNone})
	}
	full := manyFlights(0, 24)
	for place, f := range full {
		checkFlightOf(t, "one of all", full, f.Key, impl.IntResult{Value: int64(place)})
	}
}

func TestFlightBy(t *testing.T) {
	list := []impl.Flight{outFor(0, "k", 21, 5), unsent(7, "l", 9, 5), outFor(8, "m"), outFor(impl.MaxTime, "n")}
	for place, f := range list {
		checkFlightBy(t, "one of four", list, f.Id, impl.IntResult{Value: int64(place)})
		checkFlightBy(t, "alone", list[place:place+1], f.Id, impl.IntResult{})
		checkFlightBy(t, "it is gone", slices.Concat(list[:place], list[place+1:]), f.Id, impl.IntResult{Code: impl.ErrNone})
	}
	// Neither who waits nor a Due nor a place is an Id.
	for _, id := range []int64{1, 2, 3, 5, 6, 9, 21, 700, -1, impl.MaxTime - 1, impl.MaxTime + 1, math.MinInt64, math.MaxInt64, 1<<32 + 7} {
		checkFlightBy(t, "none", list, id, impl.IntResult{Code: impl.ErrNone})
		checkFlightBy(t, "none of none", nil, id, impl.IntResult{Code: impl.ErrNone})
	}
	full := manyFlights(40, 24)
	for place, f := range full {
		checkFlightBy(t, "one of all", full, f.Id, impl.IntResult{Value: int64(place)})
	}
}

// Where the flight is right, the waiter and the room are asked ahead of who waits, and who waits ahead of room.
func TestJoinCodesInOrder(t *testing.T) {
	full := waitedForBy(outFor(50, "k"), manyWaiters(11, 10))
	for _, f := range []impl.Flight{full, outFor(50, "k"), unsent(50, "k", 11, 5)} {
		for _, n := range edgeNumbers {
			plain := impl.Waiter{Req: 99, Due: 5}
			checkJoin(t, "a Req", f, impl.Waiter{Req: n, Due: 5}, 10, joinFlightWanted(f, impl.Waiter{Req: n, Due: 5}, 10))
			checkJoin(t, "a Due", f, impl.Waiter{Req: 99, Due: n}, 10, joinFlightWanted(f, impl.Waiter{Req: 99, Due: n}, 10))
			checkJoin(t, "room", f, plain, n, joinFlightWanted(f, plain, n))
			if !isTime(n) {
				none := impl.FlightResult{Code: impl.ErrRange}
				checkJoin(t, "no Req", f, impl.Waiter{Req: n, Due: 5}, 1, none)
				checkJoin(t, "no Due, and it waits", f, impl.Waiter{Req: 11, Due: n}, 1, none)
				checkJoin(t, "no room, and it waits", f, impl.Waiter{Req: 11, Due: 5}, n, none)
			}
		}
		for _, room := range []int64{0, 11, 12, -1, 256, 257, math.MinInt64, math.MaxInt64} {
			checkJoin(t, "room beyond its bounds", f, impl.Waiter{Req: 99, Due: 5}, room, impl.FlightResult{Code: impl.ErrRange})
			checkJoin(t, "room beyond its bounds, and it waits", f, impl.Waiter{Req: 11, Due: 5}, room, impl.FlightResult{Code: impl.ErrRange})
		}
	}
	for room := int64(1); room <= 10; room++ {
		for req := int64(11); req <= 20; req++ {
			checkJoin(t, "it waits, and there is no room", full, impl.Waiter{Req: req, Due: 5}, room, impl.FlightResult{Code: impl.ErrTaken})
		}
		checkJoin(t, "another, and there is no room", full, impl.Waiter{Req: 21, Due: 5}, room, impl.FlightResult{Code: impl.ErrFull})
		checkJoin(t, "it waits, and there may be room", outFor(50, "k", 11, 5), impl.Waiter{Req: 11, Head: true, Due: 99, Late: true}, room, impl.FlightResult{Code: impl.ErrTaken})
	}
}

func TestJoinFlight(t *testing.T) {
	for count := range int64(11) {
		for room := int64(1); room <= 10; room++ {
			for i := range 32 {
				f := waitedForBy(unsent(50, "k"), manyWaiters(11, count))
				f.Back, f.Doomed = i&1 > 0, i&2 > 0
				if i&4 > 0 {
					f.Out, f.Due = true, 1
				}
				w := impl.Waiter{Req: 3, Head: i&8 > 0, Due: 2, Late: i&16 > 0}
				want := impl.FlightResult{Code: impl.ErrFull}
				if count < room {
					want = impl.FlightResult{Flight: waitedForBy(f, slices.Concat(f.Waiters, []impl.Waiter{w}))}
				}
				checkJoin(t, "joining", f, w, room, want)
			}
		}
	}
	checkJoin(t, "the least numbers", outFor(0, "k"), impl.Waiter{}, 1, impl.FlightResult{Flight: outFor(0, "k", 0, 0)})
	checkJoin(t, "the greatest numbers", outFor(0, "k", 0, 0), impl.Waiter{Req: impl.MaxTime, Due: impl.MaxTime}, 2, impl.FlightResult{Flight: outFor(0, "k", 0, 0, impl.MaxTime, impl.MaxTime)})
	// The order in which they came tells, not their numbers and not their times; a number may be one of a flight or a Due.
	checkJoin(t, "behind greater ones", outFor(50, "k", 90, 900, 80, 800), impl.Waiter{Req: 50, Due: 4}, 3, impl.FlightResult{Flight: outFor(50, "k", 90, 900, 80, 800, 50, 4)})
	checkJoin(t, "a number that is a Due", outFor(50, "k", 90, 9), impl.Waiter{Req: 9, Due: 90}, 3, impl.FlightResult{Flight: outFor(50, "k", 90, 9, 9, 90)})
	for _, row := range getRows() {
		f := outFor(50, "k", 90, 9)
		f.Get = row.get
		if row.want == impl.OK {
			checkJoin(t, "a Get with "+row.what, f, impl.Waiter{Req: 9}, 3, impl.FlightResult{Flight: waitedForBy(f, waiters(90, 9, 9, 0))})
		}
	}
}

func TestExpireWaiters(t *testing.T) {
	f := outFor(50, "k", 9, 100, 3, 50, 7, 100, 5, 150)
	for _, row := range []struct {
		now        int64
		left, over []impl.Waiter
	}{
		{0, f.Waiters, nil}, {49, f.Waiters, nil},
		{50, waiters(9, 100, 7, 100, 5, 150), waiters(3, 50)}, {51, waiters(9, 100, 7, 100, 5, 150), waiters(3, 50)}, {99, waiters(9, 100, 7, 100, 5, 150), waiters(3, 50)},
		{100, waiters(5, 150), waiters(9, 100, 3, 50, 7, 100)}, {149, waiters(5, 150), waiters(9, 100, 3, 50, 7, 100)},
		{150, nil, f.Waiters}, {151, nil, f.Waiters}, {699, nil, f.Waiters}, {700, nil, f.Waiters}, {701, nil, f.Waiters}, {impl.MaxTime, nil, f.Waiters},
	} {
		checkOver(t, "four wait", f, row.now, impl.WaitersResult{Flight: waitedForBy(f, row.left), Waiters: row.over})
	}
	for _, f := range []impl.Flight{outFor(50, "k"), unsent(50, "k"), {Id: 1, Key: "l", Back: true, Doomed: true, Out: true, Get: request("HEAD", "b", "/")}} {
		for _, row := range []struct {
			what              string
			given, left, over []impl.Waiter
		}{
			{"nobody waits", nil, nil, nil}, {"just above now", waiters(4, 11), waiters(4, 11), nil}, {"at now", waiters(4, 10), nil, waiters(4, 10)}, {"below now", waiters(4, 9), nil, waiters(4, 9)},
			{"the first", waiters(4, 10, 0, 11, 2, 12), waiters(0, 11, 2, 12), waiters(4, 10)}, {"the first, below now", waiters(4, 9, 0, 11, 2, 12), waiters(0, 11, 2, 12), waiters(4, 9)}, {"the one in between", waiters(4, 11, 0, 10, 2, 12), waiters(4, 11, 2, 12), waiters(0, 10)}, {"the last", waiters(4, 11, 0, 12, 2, 10), waiters(4, 11, 0, 12), waiters(2, 10)}, {"the last, below now", waiters(4, 11, 0, 12, 2, 0), waiters(4, 11, 0, 12), waiters(2, 0)},
			{"the first and the last", waiters(4, 10, 0, 11, 2, 9), waiters(0, 11), waiters(4, 10, 2, 9)}, {"all", waiters(4, 10, 0, 0, 2, 9), nil, waiters(4, 10, 0, 0, 2, 9)}, {"none", waiters(4, 11, 0, impl.MaxTime, 2, 99), waiters(4, 11, 0, impl.MaxTime, 2, 99), nil},
			{"numbers below now", waiters(1, 99, 2, 98), waiters(1, 99, 2, 98), nil}, {"numbers above now", waiters(99, 1, 98, 2), nil, waiters(99, 1, 98, 2)},
		} {
			checkOver(t, row.what, waitedForBy(f, row.given), 10, impl.WaitersResult{Flight: waitedForBy(f, row.left), Waiters: row.over})
			for _, n := range edgeNumbers {
				if !isTime(n) {
					checkOver(t, "no time, and "+row.what, waitedForBy(f, row.given), n, impl.WaitersResult{Code: impl.ErrRange})
				}
			}
		}
	}
	// The Due of a flight tells nothing of those who wait.
	late := outFor(50, "k", 4, 20)
	late.Due = 5
	checkOver(t, "the flight's time is over", late, 10, impl.WaitersResult{Flight: late})
}

func TestExpireWaitersBounds(t *testing.T) {
	marked := []impl.Waiter{{Req: 4, Head: true, Due: 5}, {Req: 6, Due: 15, Late: true}, {Req: 5, Due: 5, Late: true}, {Req: 9, Head: true, Due: 16, Late: true}}
	checkOver(t, "marks go along", waitedForBy(outFor(50, "k"), marked), 10, impl.WaitersResult{Flight: waitedForBy(outFor(50, "k"), []impl.Waiter{marked[1], marked[3]}), Waiters: []impl.Waiter{marked[0], marked[2]}})
	checkOver(t, "at the time 0", outFor(50, "k", 4, 0, 5, 1), 0, impl.WaitersResult{Flight: outFor(50, "k", 5, 1), Waiters: waiters(4, 0)})
	checkOver(t, "at the greatest time", outFor(50, "k", 4, impl.MaxTime), impl.MaxTime, impl.WaitersResult{Flight: outFor(50, "k"), Waiters: waiters(4, impl.MaxTime)})
	checkOver(t, "just below the greatest time", outFor(50, "k", 4, impl.MaxTime), impl.MaxTime-1, impl.WaitersResult{Flight: outFor(50, "k", 4, impl.MaxTime)})
	for now := range int64(50) {
		f := waitedForBy(outFor(50, "k"), manyWaiters(11, 10))
		checkOver(t, "as many as may wait", f, now, impl.WaitersResult{Flight: waitedForBy(f, f.Waiters[now/5+1:]), Waiters: f.Waiters[:now/5+1]})
	}
}

// turnsOfOneField each turn one field of a flight that has head lines and at least two who wait.
func turnsOfOneField() []func(f *impl.Flight) {
	return []func(f *impl.Flight){
		func(f *impl.Flight) { f.Id++ }, func(f *impl.Flight) { f.Id = -f.Id }, func(f *impl.Flight) { f.Key += " " }, func(f *impl.Flight) { f.Key = "" }, func(f *impl.Flight) { f.Key = strings.ToUpper(f.Key) },
		func(f *impl.Flight) { f.Back = !f.Back }, func(f *impl.Flight) { f.Out = !f.Out }, func(f *impl.Flight) { f.Due-- }, func(f *impl.Flight) { f.Due = 0 }, func(f *impl.Flight) { f.Doomed = !f.Doomed },
		func(f *impl.Flight) { f.Get.Method = "HEAD" }, func(f *impl.Flight) { f.Get.Host = "A.com" }, func(f *impl.Flight) { f.Get.Path += "?" }, func(f *impl.Flight) { f.Get.Headers = nil }, func(f *impl.Flight) { f.Get = impl.Request{} },
		func(f *impl.Flight) { f.Get.Headers[0].Name = "Accept" }, func(f *impl.Flight) { f.Get.Headers[1].Value = "" }, func(f *impl.Flight) { f.Get.Headers = f.Get.Headers[:1] }, func(f *impl.Flight) { slices.Reverse(f.Get.Headers) }, func(f *impl.Flight) { f.Get.Headers = append(f.Get.Headers, impl.Header{}) },
		func(f *impl.Flight) { f.Waiters = nil }, func(f *impl.Flight) { f.Waiters = f.Waiters[:1] }, func(f *impl.Flight) { f.Waiters = f.Waiters[1:] }, func(f *impl.Flight) { slices.Reverse(f.Waiters) }, func(f *impl.Flight) { f.Waiters = append(f.Waiters, impl.Waiter{}) },
		func(f *impl.Flight) { f.Waiters[0].Req++ }, func(f *impl.Flight) { f.Waiters[1].Req-- }, func(f *impl.Flight) { f.Waiters[0].Head = !f.Waiters[0].Head }, func(f *impl.Flight) { f.Waiters[1].Head = !f.Waiters[1].Head },
		func(f *impl.Flight) { f.Waiters[0].Due++ }, func(f *impl.Flight) { f.Waiters[1].Due-- }, func(f *impl.Flight) { f.Waiters[0].Late = !f.Waiters[0].Late }, func(f *impl.Flight) { f.Waiters[1].Late = !f.Waiters[1].Late },
	}
}

func TestSameFlights(t *testing.T) {
	made := func() []impl.Flight {
		list := []impl.Flight{outFor(3, "k", 5, 6, 7, 8), unsent(4, "l", 15, 16, 17, 18), outFor(5, "m", 25, 26, 27, 28)}
		for i := range list {
			list[i].Due, list[i].Get.Headers = 700, []impl.Header{head("accept", "q"), head("b", "c")}
		}
		return list
	}
	if !impl.SameFlights(made(), made()) {
		t.Error("the same flights are not the same")
	}
	for place := range 3 {
		for i, turn := range turnsOfOneField() {
			a, b := made(), made()
			turn(&b[place])
			if impl.SameFlights(a, b) || impl.SameFlights(b, a) || impl.SameFlights(a[place:place+1], b[place:place+1]) {
				t.Errorf("turn %d of the flight %d: they are the same", i, place)
			}
			turn(&a[place])
			if !impl.SameFlights(a, b) {
				t.Errorf("turn %d of the flight %d: they are not the same", i, place)
			}
		}
	}
}

func TestSameFlightsLists(t *testing.T) {
	list := manyFlights(3, 4)
	for _, other := range [][]impl.Flight{nil, {}, list[:1], list[:3], list[1:], {list[0], list[2], list[1], list[3]}, {list[0], list[0], list[2], list[3]}, append(slices.Clone(list), list[3]), append(slices.Clone(list), impl.Flight{}), append([]impl.Flight{{}}, list...)} {
		if impl.SameFlights(list, other) || impl.SameFlights(other, list) {
			t.Errorf("they are the same: %+v", other)
		}
	}
	empty := impl.Flight{Get: impl.Request{Headers: []impl.Header{}}, Waiters: []impl.Waiter{}}
	if !impl.SameFlights(nil, nil) || !impl.SameFlights(nil, []impl.Flight{}) || !impl.SameFlights([]impl.Flight{}, nil) || !impl.SameFlights([]impl.Flight{{}}, []impl.Flight{empty}) {
		t.Error("nothing and an empty list are not the same")
	}
	// Faults do not tell.
	for _, wrong := range [][]impl.Flight{make([]impl.Flight, 500), {outFor(-1, "")}, {outFor(9, "k", 4, 4, 4, 4), outFor(9, "k")}, {waitedForBy(impl.Flight{Due: -5}, make([]impl.Waiter, 300))}, {{Get: request("", "\n", "", sameLines(impl.Header{}, 99)...)}}} {
		if !impl.SameFlights(wrong, slices.Clone(wrong)) || impl.SameFlights(wrong, wrong[1:]) || impl.SameFlights(wrong, list) {
			t.Errorf("flights with a fault: %+v", wrong[0])
		}
	}
}

var (
	flightKeys = []string{"k", "K", "kk", "a.com/y", "a.com/y accept=q", "\xff", " ", "l", "m", "n", "o", "p", "q", "r", "s", "t", "u", "v", "w", "x", "y", "z", strings.Repeat("k", 499), strings.Repeat("k", 500), "0", "1", "2"}
	flightGets = []impl.Request{request("GET", "a", "/"), request("HEAD", "A.com", "/y?b=2&&a=1", head("accept", "q")), request("GET", "a.com", "/y", head("b", "c"), head("accept", ""), head("b", "c"))}
)

// chosenWaiters have numbers out of reqs.
func chosenWaiters(source *rand.Rand, reqs []int, base int64) []impl.Waiter {
	var list []impl.Waiter
	for _, req := range reqs {
		list = append(list, impl.Waiter{Req: base + int64(req), Head: source.Intn(2) == 0, Due: base + source.Int63n(12), Late: source.Intn(3) == 0})
	}
	return list
}

// chosenFlights have no fault; the times at which their waiters wait no more stand near each other.
func chosenFlights(source *rand.Rand, most int) []impl.Flight {
	count, base := source.Intn(most+1), []int64{0, 20, impl.MaxTime - 300}[source.Intn(3)]
	list, keys, reqs, id := []impl.Flight{}, source.Perm(len(flightKeys)), source.Perm(300), base
	for i := range count {
		wait := source.Intn(4)
		if source.Intn(4) == 0 {
			wait = 8 + source.Intn(3)
		}
		f := impl.Flight{Id: id, Key: flightKeys[keys[i]], Back: source.Intn(2) == 0, Out: source.Intn(2) == 0, Doomed: source.Intn(3) == 0, Get: flightGets[source.Intn(len(flightGets))], Waiters: chosenWaiters(source, reqs[:wait], base)}
		f.Get.Headers = slices.Clone(f.Get.Headers)
		if f.Out {
			f.Due = source.Int63n(30)
		}
		id, reqs, list = id+1+source.Int63n(3), reqs[wait:], append(list, f)
	}
	return list
}

// turnFlightWrongly gives a flight what is most likely a fault.
func turnFlightWrongly(source *rand.Rand, f *impl.Flight) {
	if len(f.Waiters) < 3 {
		f.Waiters = append(f.Waiters, waiters(401, 5, 402, 6, 403, 7)...)
	}
	if n := edgeNumbers[source.Intn(len(edgeNumbers))]; source.Intn(4) == 0 {
		*[]*int64{&f.Id, &f.Due, &f.Waiters[2].Req, &f.Waiters[1].Due}[source.Intn(4)] = n
		return
	}
	if source.Intn(4) == 0 {
		f.Get = chosenRequest(source, 1)
		return
	}
	turns := flightTurns()
	turns[source.Intn(len(turns))].turn(f)
}

// turnFlightsWrongly gives a list of flights what is most likely a fault.
func turnFlightsWrongly(source *rand.Rand, list []impl.Flight) []impl.Flight {
	if len(list) < 2 {
		list = append(list, manyFlights(impl.MaxTime-40, 3)...)
	}
	one, other := source.Intn(len(list)), source.Intn(len(list))
	switch source.Intn(5) {
	case 0:
		return append(list, manyFlights(impl.MaxTime-24, 24)...)
	case 1:
		list[one].Id = list[other].Id
	case 2:
		list[one].Key = list[other].Key
	case 3:
		list[one].Waiters, list[other].Waiters = append(list[one].Waiters, impl.Waiter{Req: 999}), append(list[other].Waiters, impl.Waiter{Req: 999})
	case 4:
		turnFlightWrongly(source, &list[one])
	}
	return list
}

// flightArguments stand for a call of each function of chapter 12.
type flightArguments struct {
	list, other []impl.Flight
	flight      impl.Flight
	waiter      impl.Waiter
	key         string
	id          int64
	room, now   int64
}

// manyFlown have a fault one time in so many (none, where that is 0).
func manyFlown(seed int64, count, wrong int) []flightArguments {
	source := rand.New(rand.NewSource(seed))
	list := make([]flightArguments, count)
	for i := range list {
		a := flightArguments{list: chosenFlights(source, []int{3, 5, 24}[source.Intn(3)]), flight: outFor(source.Int63n(9), "k"), waiter: impl.Waiter{Req: source.Int63n(300), Head: source.Intn(2) == 0, Due: source.Int63n(40)}}
		a.other = [][]impl.Flight{slices.Clone(a.list), chosenFlights(source, 3)}[source.Intn(2)]
		if len(a.list) > 0 {
			a.flight = a.list[source.Intn(len(a.list))]
			a.flight.Waiters = slices.Clone(a.flight.Waiters)
		}
		a.key, a.id, a.room, a.now = flightKeys[source.Intn(len(flightKeys))], a.flight.Id+source.Int63n(3)-1, int64(len(a.flight.Waiters))+source.Int63n(3), source.Int63n(35)
		if len(a.flight.Waiters) > 0 && source.Intn(2) == 0 {
			w := a.flight.Waiters[source.Intn(len(a.flight.Waiters))]
			a.now, a.waiter.Req = w.Due, w.Req+source.Int63n(2)
		}
		if wrong > 0 && source.Intn(wrong) == 0 {
			a.list = turnFlightsWrongly(source, a.list)
		}
		if wrong > 0 && source.Intn(wrong) == 0 {
			turnFlightWrongly(source, &a.flight)
		}
		if wrong > 0 && source.Intn(wrong) == 0 {
			*[]*int64{&a.waiter.Req, &a.waiter.Due, &a.id, &a.room, &a.now}[source.Intn(5)] = edgeNumbers[source.Intn(len(edgeNumbers))]
		}
		list[i] = a
	}
	return list
}

type flightAnswers struct {
	faults [2]int64
	found  [2]impl.IntResult
	join   impl.FlightResult
	over   impl.WaitersResult
	same   bool
}

func askFlights(a flightArguments) flightAnswers {
	return flightAnswers{
		faults: [2]int64{impl.FlightFault(a.flight), impl.FlightsFault(a.list)}, found: [2]impl.IntResult{impl.FlightOf(a.list, a.key), impl.FlightBy(a.list, a.id)},
		join: impl.JoinFlight(a.flight, a.waiter, a.room), over: impl.ExpireWaiters(a.flight, a.now), same: impl.SameFlights(a.list, a.other),
	}
}

func answersWanted(a flightArguments) flightAnswers {
	return flightAnswers{
		faults: [2]int64{flightWanted(a.flight), flightsWanted(a.list)}, found: [2]impl.IntResult{flightOfWanted(a.list, a.key), flightByWanted(a.list, a.id)},
		join: joinFlightWanted(a.flight, a.waiter, a.room), over: overWanted(a.flight, a.now), same: slices.EqualFunc(a.list, a.other, sameFlight),
	}
}

func (a flightAnswers) equals(b flightAnswers) bool {
	return a.faults == b.faults && a.found == b.found && sameJoin(a.join, b.join) && sameOver(a.over, b.over) && a.same == b.same
}

func TestManyFlights(t *testing.T) {
	codes, turns := map[string]map[int64]int{"of": {}, "by": {}, "join": {}, "over": {}}, map[string]int{}
	for i, a := range manyFlown(81, 12000, 3) {
		got, want := askFlights(a), answersWanted(a)
		if !got.equals(want) {
			t.Fatalf("%d: %+v:\n%+v\nwant\n%+v", i, a, got, want)
		}
		codes["of"][got.found[0].Code]++
		codes["by"][got.found[1].Code]++
		codes["join"][got.join.Code]++
		codes["over"][got.over.Code]++
		if got.found[0].Value > 0 && got.found[1].Value > 0 {
			turns["found behind the first"]++
		}
		if len(got.over.Waiters) > 1 && len(got.over.Flight.Waiters) > 1 {
			turns["some are over"]++
		}
		if got.same && len(a.list) > 1 {
			turns["the same"]++
		}
	}
	for what, wanted := range map[string][]int64{
		"of": {impl.OK, impl.ErrForm, impl.ErrMany, impl.ErrRange, impl.ErrNone, impl.ErrText, impl.ErrTaken, impl.ErrState}, "by": {impl.OK, impl.ErrForm, impl.ErrMany, impl.ErrRange, impl.ErrNone, impl.ErrText, impl.ErrTaken, impl.ErrState},
		"join": {impl.OK, impl.ErrMany, impl.ErrRange, impl.ErrText, impl.ErrTaken, impl.ErrFull, impl.ErrState}, "over": {impl.OK, impl.ErrMany, impl.ErrRange, impl.ErrText, impl.ErrTaken, impl.ErrState},
	} {
		for _, code := range wanted {
			if codes[what][code] < 20 {
				t.Errorf("only %d times %s told the code %d", codes[what][code], what, code)
			}
		}
	}
	for _, turn := range []string{"found behind the first", "some are over", "the same"} {
		if turns[turn] < 100 {
			t.Errorf("only %d times: %s", turns[turn], turn)
		}
	}
}

// Promise 13: who joins a flight waits behind all others, and nobody twice: told from the order in which they came alone.
func TestPromise13WhoJoinsWaitsBehindAllOthers(t *testing.T) {
	source := rand.New(rand.NewSource(82))
	codes := map[int64]int{}
	for range 1500 {
		f, now, line := outFor(source.Int63n(9), "k"), int64(0), []int64{}
		for range 40 {
			now += source.Int63n(3)
			if source.Intn(4) == 0 {
				told := impl.ExpireWaiters(f, now)
				for _, w := range told.Waiters {
					line = slices.DeleteFunc(line, func(req int64) bool { return req == w.Req })
				}
				f = told.Flight
			}
			w, room := impl.Waiter{Req: source.Int63n(20), Head: source.Intn(2) == 0, Due: now + source.Int63n(20)}, 1+source.Int63n(10)
			told := impl.JoinFlight(f, w, room)
			codes[told.Code]++
			switch waits := slices.Contains(line, w.Req); {
			case waits != (told.Code == impl.ErrTaken), !waits && (int64(len(line)) >= room) != (told.Code == impl.ErrFull):
				t.Fatalf("%+v joins %+v with room for %d: the code %d", w, f, room, told.Code)
			case told.Code != impl.OK:
				continue
			}
			line, f = append(line, w.Req), told.Flight
			if got := f.Waiters[len(f.Waiters)-1]; got != w || impl.FlightFault(f) != impl.OK {
				t.Fatalf("%+v joins, and %+v is the last one", w, got)
			}
			if !slices.EqualFunc(f.Waiters, line, func(w impl.Waiter, req int64) bool { return w.Req == req }) {
				t.Fatalf("%v should wait, and %+v do", line, f.Waiters)
			}
		}
	}
	if codes[impl.OK] < 5000 || codes[impl.ErrTaken] < 5000 || codes[impl.ErrFull] < 5000 || len(codes) != 3 {
		t.Errorf("codes: %v", codes)
	}
}

// Promise 13: nothing but who waits is turned, and who has joined joins no more until it is told to be over.
func TestPromise13NobodyTwice(t *testing.T) {
	joined, over := 0, 0
	for i, a := range manyFlown(83, 4000, 0) {
		told := impl.JoinFlight(a.flight, a.waiter, 10)
		if told.Code == impl.OK {
			joined++
			if !sameFlight(waitedForBy(told.Flight, a.flight.Waiters), a.flight) {
				t.Fatalf("%d: %+v joins %+v, and it is %+v", i, a.waiter, a.flight, told.Flight)
			}
			for room := int64(1); room <= 10; room++ {
				if again := impl.JoinFlight(told.Flight, a.waiter, room); !sameJoin(again, impl.FlightResult{Code: impl.ErrTaken}) {
					t.Fatalf("%d: %+v joins twice: %+v", i, a.waiter, again)
				}
			}
		}
		left := impl.ExpireWaiters(a.flight, a.now)
		if left.Code != impl.OK || len(left.Waiters)+len(left.Flight.Waiters) != len(a.flight.Waiters) || !sameFlight(waitedForBy(left.Flight, a.flight.Waiters), a.flight) {
			t.Fatalf("%d: %+v at %d leaves %+v", i, a.flight, a.now, left)
		}
		for _, w := range left.Waiters {
			over++
			if again := impl.JoinFlight(left.Flight, w, 10); again.Code != impl.OK {
				t.Fatalf("%d: %+v waits no more, and cannot join: %d", i, w, again.Code)
			}
		}
		if again := impl.ExpireWaiters(left.Flight, a.now); again.Code != impl.OK || len(again.Waiters) != 0 {
			t.Fatalf("%d: %v are over twice", i, again.Waiters)
		}
	}
	if joined < 2000 || over < 2000 {
		t.Errorf("only %d joined, and %d were over", joined, over)
	}
}

// Promise 13: nobody waits for two flights of one list, either.
func TestPromise13NobodyForTwoFlights(t *testing.T) {
	twice, once := 0, 0
	for i, a := range manyFlown(84, 4000, 0) {
		for place, f := range a.list {
			told := impl.JoinFlight(f, a.waiter, 10)
			if told.Code != impl.OK {
				continue
			}
			list := slices.Clone(a.list)
			list[place] = told.Flight
			want := codeWhere(!isReqTwice(list...), impl.ErrTaken)
			if got := impl.FlightsFault(list); got != want {
				t.Fatalf("%d: %+v joins the flight %d of %+v: the code %d, want %d", i, a.waiter, place, a.list, got, want)
			}
			if want == impl.OK {
				once++
			} else {
				twice++
			}
		}
	}
	if twice < 300 || once < 300 {
		t.Errorf("only %d were there twice, and %d once", twice, once)
	}
}

// Promise 13: flights are found by what they are asked for: by the key of a request, however that is written.
func TestPromise13FlightsAreFoundByWhatTheyAreAskedFor(t *testing.T) {
	source, found, none := rand.New(rand.NewSource(85)), 0, 0
	for range 100 {
		var list []impl.Flight
		for range 24 {
			r := chosenRequest(source, 0)
			if key := impl.KeyOf(r).Text; impl.FlightOf(list, key).Code == impl.ErrNone {
				list = append(list, impl.Flight{Id: int64(3 * len(list)), Key: key, Get: r})
			}
		}
		for range 20 {
			r := chosenRequest(source, 0)
			r.Host = writtenAnew(source, r.Host)
			told := impl.FlightOf(list, impl.KeyOf(r).Text)
			asksForIt := func(f impl.Flight) bool { return keyWanted(f.Get) == keyWanted(r) }
			if told.Code == impl.OK && told.Value == int64(slices.IndexFunc(list, asksForIt)) {
				found++
			} else if told.Code == impl.ErrNone && !slices.ContainsFunc(list, asksForIt) {
				none++
			} else {
				t.Fatalf("%q among %+v: %+v", r, list, told)
			}
		}
		for place, f := range list {
			if of, by := impl.FlightOf(list, f.Key), impl.FlightBy(list, f.Id); of != (impl.IntResult{Value: int64(place)}) || by != of {
				t.Fatalf("the flight %d: %+v, %+v", place, of, by)
			}
		}
	}
	if found < 300 || none < 300 {
		t.Errorf("only %d were found, and %d not", found, none)
	}
}

// bare: nothing stands beside a code.
func (a flightAnswers) bare() bool {
	for _, found := range a.found {
		if found.Code != impl.OK && found.Value != 0 {
			return false
		}
	}
	return (a.join.Code == impl.OK || sameJoin(a.join, impl.FlightResult{Code: a.join.Code})) && (a.over.Code == impl.OK || sameOver(a.over, impl.WaitersResult{Code: a.over.Code}))
}

// givenFlight is in memory of its own, with something behind each of its lists.
func givenFlight(f impl.Flight) impl.Flight {
	var lines []impl.Header
	for _, line := range f.Get.Headers {
		lines = append(lines, ownHead(line))
	}
	f.Key = strings.Clone(f.Key)
	f.Get = request(strings.Clone(f.Get.Method), strings.Clone(f.Get.Host), strings.Clone(f.Get.Path), roomyList(lines, head("behind", "kept"))...)
	f.Waiters = roomyList(f.Waiters, waiters(77, 78, 79, 80)...)
	return f
}

func givenFlights(list []impl.Flight) []impl.Flight {
	var own []impl.Flight
	for _, f := range list {
		own = append(own, givenFlight(f))
	}
	return roomyList(own, givenFlight(outFor(91, "behind", 92, 93)))
}

func givenFlown(a flightArguments) flightArguments {
	a.list, a.other, a.flight, a.key = givenFlights(a.list), givenFlights(a.other), givenFlight(a.flight), strings.Clone(a.key)
	return a
}

// wholeFlight has all that stands in the memory of its lists in them.
func wholeFlight(f impl.Flight) impl.Flight {
	f.Get.Headers, f.Waiters = slices.Clone(f.Get.Headers[:cap(f.Get.Headers)]), slices.Clone(f.Waiters[:cap(f.Waiters)])
	return f
}

func wholeFlights(list []impl.Flight) []impl.Flight {
	var whole []impl.Flight
	for _, f := range list[:cap(list)] {
		whole = append(whole, wholeFlight(f))
	}
	return whole
}

func wholeFlown(a flightArguments) flightArguments {
	a.list, a.other, a.flight = wholeFlights(a.list), wholeFlights(a.other), wholeFlight(a.flight)
	return a
}

func sameFlown(a, b flightArguments) bool {
	return slices.EqualFunc(a.list, b.list, sameFlight) && slices.EqualFunc(a.other, b.other, sameFlight) && sameFlight(a.flight, b.flight) && a.waiter == b.waiter && a.key == b.key && a.id == b.id && a.room == b.room && a.now == b.now
}

// scribbleFlight writes over all lists of a flight, and behind them.
func scribbleFlight(f impl.Flight) {
	overwrite(f.Get.Headers, head("spoiled", "spoiled"))
	overwrite(f.Waiters, impl.Waiter{Req: -9, Due: -9})
}

func (a flightAnswers) scribble() {
	scribbleFlight(a.join.Flight)
	scribbleFlight(a.over.Flight)
	overwrite(a.over.Waiters, impl.Waiter{Req: -9, Due: -9})
}

func spoilFlown(a flightArguments) {
	scribbleFlight(a.flight)
	for _, list := range [][]impl.Flight{a.list, a.other} {
		for _, f := range list[:cap(list)] {
			scribbleFlight(f)
		}
		overwrite(list, impl.Flight{Id: -9, Key: "spoiled"})
	}
}

var chapter12 = chapter[flightArguments, flightAnswers]{
	ask: askFlights, equal: flightAnswers.equals, bare: flightAnswers.bare, given: givenFlown, whole: wholeFlown, same: sameFlown, spoil: spoilFlown, scribble: flightAnswers.scribble,
}

func TestPromise1FlightsHangOnArgumentsAlone(t *testing.T) {
	chapter12.hangsOnArguments(t, manyFlown(86, 1500, 3))
	// An empty list and none are the same.
	for i, a := range manyFlown(87, 1500, 3) {
		first := askFlights(a)
		if len(a.flight.Waiters) == 0 {
			a.flight.Waiters = []impl.Waiter{}
		}
		if len(a.flight.Get.Headers) == 0 {
			a.flight.Get.Headers = []impl.Header{}
		}
		if len(a.list) == 0 {
			a.list = nil
		}
		if !askFlights(a).equals(first) {
			t.Errorf("%d: with an empty list it is another answer", i)
		}
	}
}

func TestPromise1FlightsAreLeftAsTheyWere(t *testing.T) {
	chapter12.leavesArguments(t, manyFlown(88, 2500, 8))
}

func TestPromise1FlightsAreNewMemory(t *testing.T) {
	chapter12.tellsNewMemory(t, manyFlown(89, 2500, 8))
}

func textsOfFlight(f impl.Flight) []string {
	texts := []string{f.Key, f.Get.Method, f.Get.Host, f.Get.Path}
	for _, line := range f.Get.Headers {
		texts = append(texts, line.Name, line.Value)
	}
	return texts
}

// Promise 1: the texts in what chapter 12 tells are new memory.
func TestPromise1FlightTextsAreNewMemory(t *testing.T) {
	told := 0
	for _, a := range manyFlown(90, 2000, 0) {
		given := givenFlight(a.flight)
		for _, piece := range append(textsOfFlight(impl.JoinFlight(given, a.waiter, 10).Flight), textsOfFlight(impl.ExpireWaiters(given, a.now).Flight)...) {
			for _, argument := range textsOfFlight(given) {
				// Texts of one byte stand once in the runtime, whoever makes them.
				if len(piece) > 1 && shareMemory(piece, argument) {
					t.Fatalf("%s shares memory with %s", shown(piece), shown(argument))
				}
			}
			told += len(piece)
		}
	}
	if told < 50000 {
		t.Errorf("only %d bytes were told", told)
	}
}

// Promise 1: no two lists of one answer share memory.
func TestPromise1ListsOfFlightsAreApart(t *testing.T) {
	both := 0
	for i, a := range manyFlown(91, 3000, 0) {
		told := impl.ExpireWaiters(a.flight, a.now)
		over, left := slices.Clone(told.Waiters), slices.Clone(told.Flight.Waiters)
		_, _ = append(told.Waiters, impl.Waiter{Req: -9}), append(told.Flight.Waiters, impl.Waiter{Req: -8})
		if !slices.Equal(told.Waiters, over) || !slices.Equal(told.Flight.Waiters, left) {
			t.Fatalf("%d: the lists of an answer stand behind one another in memory", i)
		}
		overwrite(told.Flight.Waiters, impl.Waiter{Req: -9, Due: -9})
		if !slices.Equal(told.Waiters, over) {
			t.Fatalf("%d: the lists of an answer share memory", i)
		}
		if len(over) > 0 && len(left) > 0 {
			both++
		}
	}
	if both < 300 {
		t.Errorf("only %d had both lists", both)
	}
}
