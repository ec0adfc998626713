package tests

import (
	"fmt"
	"maps"
	"math/rand"
	"reflect"
	"slices"
	"strings"
	"testing"

	"loop.example/g00665/impl"
)

// The signatures and the types as the document tells them.
var (
	_ func(impl.Shield, []impl.Event) impl.RunResult = impl.RunShield
	_ func([]impl.Out, int64) impl.IntResult         = impl.AnswersTo
	_ func([]impl.Out) impl.IntResult                = impl.FetchesIn
	_ func([]impl.Out, int64) impl.NamesResult       = impl.SourcesTo
	_ func(impl.Shield) impl.RunResult               = impl.DrainShield

	_ = impl.RunResult{Code: int64(0), Shield: impl.Shield{}, Codes: []int64{}, Outs: []impl.Out{}}
)

func sameRun(a, b impl.RunResult) bool {
	return a.Code == b.Code && sameShield(a.Shield, b.Shield) && slices.Equal(a.Codes, b.Codes) && slices.EqualFunc(a.Outs, b.Outs, sameOut)
}

func shownRun(r impl.RunResult) string {
	return fmt.Sprintf("%d, %d, %q, %s", r.Code, r.Codes, saidIn(r.Outs), shownShield(r.Shield))
}

func shownEvents(list []impl.Event) string {
	var texts []string
	for _, e := range list {
		texts = append(texts, shownEvent(e))
	}
	return strings.Join(texts, "\n")
}

// The working-out of the document once more.
func runWanted(s impl.Shield, list []impl.Event) impl.RunResult {
	if code := shieldWanted(s); code != impl.OK {
		return impl.RunResult{Code: code}
	}
	if len(list) > 60 {
		return impl.RunResult{Code: impl.ErrMany}
	}
	want := impl.RunResult{Shield: copyOfShield(s)}
	for _, e := range list {
		told := stepWanted(want.Shield, e)
		if want.Codes = append(want.Codes, told.Code); told.Code == impl.OK {
			want.Shield, want.Outs = told.Shield, append(want.Outs, told.Outs...)
		}
	}
	return want
}

func drainWanted(s impl.Shield) impl.RunResult {
	return runWanted(s, []impl.Event{ticking(s.Config.WaitTime)})
}

func sourcesWanted(outs []impl.Out, id int64) impl.NamesResult {
	if len(outs) > 2000 {
		return impl.NamesResult{Code: impl.ErrMany}
	}
	if !isTime(id) {
		return impl.NamesResult{Code: impl.ErrRange}
	}
	var names []string
	for _, o := range outs {
		if o.Kind == 1 && o.Id == id {
			names = append(names, o.Source)
		}
	}
	if len(names) > 20 {
		return impl.NamesResult{Code: impl.ErrMany}
	}
	return impl.NamesResult{Names: names}
}

func answersToWanted(outs []impl.Out, id int64) impl.IntResult {
	if len(outs) > 2000 {
		return impl.IntResult{Code: impl.ErrMany}
	}
	if !isTime(id) {
		return impl.IntResult{Code: impl.ErrRange}
	}
	rest := slices.DeleteFunc(slices.Clone(outs), func(o impl.Out) bool { return o.Kind == 1 && o.Id == id })
	return impl.IntResult{Value: int64(len(outs) - len(rest))}
}

func fetchesWanted(outs []impl.Out) impl.IntResult {
	if len(outs) > 2000 {
		return impl.IntResult{Code: impl.ErrMany}
	}
	rest := slices.DeleteFunc(slices.Clone(outs), func(o impl.Out) bool { return o.Kind == 2 })
	return impl.IntResult{Value: int64(len(outs) - len(rest))}
}

// checkRun holds a run against the second working-out.
func checkRun(t *testing.T, what string, s impl.Shield, list []impl.Event) impl.RunResult {
	t.Helper()
	got, want := impl.RunShield(s, list), runWanted(s, list)
	if !sameRun(got, want) {
		t.Fatalf("%s: %s,\n%s\n%s\nwant %s", what, shownShield(s), shownEvents(list), shownRun(got), shownRun(want))
	}
	return got
}

func isBareRun(r impl.RunResult) bool {
	return r.Code == impl.OK || sameRun(r, impl.RunResult{Code: r.Code})
}

func TestRunBounds(t *testing.T) {
	if impl.MaxEvents != 60 {
		t.Errorf("MaxEvents is %d", impl.MaxEvents)
	}
}

// Of a shield with a fault that is told, however many events there are, and whatever is wrong with them.
func TestRunFaultsOfShields(t *testing.T) {
	wrong := make([]impl.Event, 61)
	check := func(what string, s impl.Shield, want int64) {
		t.Helper()
		for _, list := range [][]impl.Event{nil, {}, rightEvents(), wrong[:1], wrong[:60], wrong} {
			if got := impl.RunShield(s, list); got.Code != want || !isBareRun(got) {
				t.Errorf("%s, %d events: %s, want %d", what, len(list), shownRun(got), want)
			}
		}
		if got := impl.DrainShield(s); got.Code != want || !isBareRun(got) {
			t.Errorf("%s, drained: %s, want %d", what, shownRun(got), want)
		}
	}
	for _, turn := range shieldTurns() {
		s := busyShield()
		turn.turn(&s)
		check(turn.what, s, turn.want)
	}
	for _, turn := range configTurns() {
		s := busyShield()
		turn.turn(&s.Config)
		check(turn.what, s, turn.want)
	}
	check("no shield", impl.Shield{}, impl.ErrRange)
	for _, n := range edgeNumbers {
		s := busyShield()
		if s.Config.WaitTime = n; !within(n, 0, 1000000) {
			check(fmt.Sprint("a WaitTime of ", n), s, impl.ErrRange)
		}
	}
}

func TestRunCounts(t *testing.T) {
	s := standing(keptOf(keptAt("/x", freshMeta)), sent(11, "/y", 71, 10500))
	for _, count := range []int{0, 1, 2, 59, 60, 61, 62, 120, 2000} {
		ticks, wrong, asks := make([]impl.Event, count), make([]impl.Event, count), make([]impl.Event, count)
		for i := range count {
			ticks[i], asks[i] = ticking(1), asking(int64(i), request("GET", "a.com", "/x"))
		}
		for _, list := range [][]impl.Event{ticks, wrong, asks} {
			got := checkRun(t, fmt.Sprint(count, " events"), s, list)
			if count > 60 {
				if got.Code != impl.ErrMany || !isBareRun(got) {
					t.Errorf("%d events: %s", count, shownRun(got))
				}
			} else if got.Code != impl.OK || len(got.Codes) != count {
				t.Errorf("%d events: %s", count, shownRun(got))
			}
		}
		if told := impl.RunShield(s, ticks); count <= 60 && told.Shield.Now != 10000+int64(count) {
			t.Errorf("%d ticks lead to %d", count, told.Shield.Now)
		}
		if told := impl.RunShield(s, asks); count <= 60 && len(told.Outs) != count {
			t.Errorf("%d asks were told %d answers", count, len(told.Outs))
		}
	}
	// Of nothing that happens nothing comes.
	for _, list := range [][]impl.Event{nil, {}} {
		for _, of := range []impl.Shield{s, busyShield(), impl.NewShield(stepConfig()).Shield} {
			if got := impl.RunShield(of, list); !sameRun(got, impl.RunResult{Shield: of}) {
				t.Errorf("no events: %s", shownRun(got))
			}
		}
	}
}

// faultyEvents have each a fault of its own; their codes stand beside them.
func faultyEvents() ([]impl.Event, []int64) {
	return []impl.Event{
		{}, {Kind: 8}, {Kind: impl.EvAsk, Id: -1}, asking(1, request("G T", "a.com", "/x")), replying(11, 99, ""), replying(-1, 200, ""), {Kind: impl.EvTick, Hard: true}, failing(impl.MaxTime + 1), ticking(-1), purging(impl.EvTag, strings.Repeat("t", 501), true), purging(impl.EvAll, "t", true),
	}, []int64{impl.ErrForm, impl.ErrForm, impl.ErrRange, impl.ErrText, impl.ErrRange, impl.ErrRange, impl.ErrForm, impl.ErrRange, impl.ErrRange, impl.ErrMany, impl.ErrForm}
}

// stepsInARow say what is asked, sent, replied, told and purged; each has its part in what comes behind it.
func stepsInARow() ([]impl.Event, string) {
	get := func(path string) impl.Request { return request("GET", "a.com", path) }
	return []impl.Event{
		asking(1, get("/x")), asking(2, get("/x")), replying(50, 200, "one", head("Cache-Control", "max-age=1")), asking(3, get("/x")), ticking(1000), asking(4, get("/x")), failing(51), purging(impl.EvAll, "", true), asking(5, get("/y")),
	}, "fetch 50 a.com/x; 1 miss 200 one; 2 miss 200 one; 3 hit 200 one; fetch 51 a.com/x; 4 error 502; fetch 52 a.com/y"
}

func TestRunOfSteps(t *testing.T) {
	list, said := stepsInARow()
	got := checkRun(t, "in a row", standing(nil), list)
	if got.Code != impl.OK || !slices.Equal(got.Codes, make([]int64, len(list))) || saidIn(got.Outs) != said {
		t.Errorf("in a row: %s, want %q", shownRun(got), said)
	}
	if impl.WaitingIn(got.Shield).Value != 1 || got.Shield.Next != 53 || got.Shield.Now != 11000 || len(heldIn(got.Shield.Store)) != 0 {
		t.Errorf("in a row: %s", shownShield(got.Shield))
	}
}

// Events with a fault turn nothing, wherever they stand: their codes stand in their places.
func TestRunCodesInBetween(t *testing.T) {
	list, said := stepsInARow()
	wrong, codes := faultyEvents()
	want := impl.RunShield(standing(nil), list)
	check := func(what string, list []impl.Event, codes []int64) {
		t.Helper()
		got := checkRun(t, what, standing(nil), list)
		if got.Code != impl.OK || !slices.Equal(got.Codes, codes) || saidIn(got.Outs) != said || !sameShield(got.Shield, want.Shield) {
			t.Errorf("%s: %s, want %d, %q", what, shownRun(got), codes, said)
		}
	}
	right := make([]int64, len(list))
	for at := range len(list) + 1 {
		for i := range wrong {
			check(fmt.Sprint(i, " at ", at), slices.Insert(slices.Clone(list), at, wrong[i]), slices.Insert(slices.Clone(right), at, codes[i]))
		}
		check(fmt.Sprint("all at ", at), slices.Insert(slices.Clone(list), at, wrong...), slices.Insert(slices.Clone(right), at, codes...))
	}
	var mixed []impl.Event
	var told []int64
	for i, e := range list {
		mixed, told = append(mixed, wrong[i], e, wrong[i+2], wrong[i+1]), append(told, codes[i], 0, codes[i+2], codes[i+1])
	}
	check("between all", mixed, told)
	// Of nothing but faults nothing comes.
	for _, s := range []impl.Shield{standing(keptOf(keptAt("/x", deadMeta)), sent(11, "/y", 71, 10500)), impl.NewShield(stepConfig()).Shield} {
		if got := impl.RunShield(s, wrong); !sameRun(got, impl.RunResult{Shield: s, Codes: codes}) {
			t.Errorf("nothing but faults: %s", shownRun(got))
		}
	}
}

// So do those that cannot be done: who waits asks again, and flights that are not out come back.
func TestRunCodesOfWhatCannotBeDone(t *testing.T) {
	get := func(path string) impl.Request { return request("GET", "a.com", path) }
	s := standing(nil)
	s.Config.Lanes.Slots = 1
	list := []impl.Event{
		asking(1, get("/x")), asking(1, get("/x")), asking(1, get("/y")), replying(49, 200, ""), failing(51), asking(2, get("/y")), failing(51), replying(51, 200, "early"), asking(2, get("/z")),
		replying(50, 404, "one"), replying(50, 200, "one more"), failing(50), asking(1, get("/y")), asking(1, get("/y")), replying(51, 200, "two"), asking(1, get("/y")), failing(52), replying(53, 200, ""),
	}
	codes := []int64{0, impl.ErrTaken, impl.ErrTaken, impl.ErrNone, impl.ErrNone, 0, impl.ErrNone, impl.ErrNone, impl.ErrTaken, 0, impl.ErrNone, impl.ErrNone, 0, impl.ErrTaken, 0, 0, 0, impl.ErrNone}
	said := "fetch 50 a.com/x; 1 miss 404 one; fetch 51 a.com/y; 2 miss 200 two; 1 miss 200 two; fetch 52 a.com/y; 1 error 502"
	got := checkRun(t, "what cannot be done", s, list)
	if !slices.Equal(got.Codes, codes) || saidIn(got.Outs) != said {
		t.Errorf("%d, %q, want %d, %q", got.Codes, saidIn(got.Outs), codes, said)
	}
	var done []impl.Event
	for i, e := range list {
		if codes[i] == impl.OK {
			done = append(done, e)
		}
	}
	if short := impl.RunShield(s, done); !sameShield(short.Shield, got.Shield) || !slices.EqualFunc(short.Outs, got.Outs, sameOut) || slices.Max(short.Codes) != impl.OK {
		t.Errorf("without them: %s, want %s", shownRun(short), shownRun(got))
	}
}

// A flight takes the greatest Id: then the shield has a fault, as Next has no room above it, and that is what all else tells.
func TestRunAtTheLastId(t *testing.T) {
	s := standing(nil)
	s.Next = impl.MaxTime
	list := []impl.Event{ticking(1), asking(1, request("GET", "a.com", "/x")), ticking(1), {}, failing(impl.MaxTime)}
	got := checkRun(t, "the last id", s, list)
	if !slices.Equal(got.Codes, []int64{0, 0, impl.ErrRange, impl.ErrRange, impl.ErrRange}) || len(got.Outs) != 1 || got.Shield.Now != 10001 {
		t.Errorf("the last id: %s", shownRun(got))
	}
}

// drawnEvents are chosen by what is there when they come; who asks is one of few, so that somebody asks who waits, or who
// was answered already. One in so many has a fault, most likely (none, where wrong is 0).
func drawnEvents(source *rand.Rand, s impl.Shield, count, wrong int) []impl.Event {
	var list []impl.Event
	for range count {
		e := chosenStep(source, s, source.Int63n(12))
		if wrong > 0 && source.Intn(wrong) == 0 {
			turnEventWrongly(source, &e)
		}
		if list = append(list, e); impl.StepShield(s, e).Code == impl.OK {
			s = impl.StepShield(s, e).Shield
		}
	}
	return list
}

// drawnStart is a new shield, somewhat later.
func drawnStart(source *rand.Rand) impl.Shield {
	c := chosenStepConfig(source)
	if source.Intn(3) > 0 {
		// There is room, and an origin is not left alone at once.
		c.Budget, c.Guard, c.ObjCost, c.WaitTime, c.WaitCap, c.Rules.Min, c.Rules.Ratio = 20000, 5000, 20000, 1500, 5, 3, oneOf[int64](source, 600, 1000)
	}
	s := impl.NewShield(c).Shield
	return impl.RunShield(s, []impl.Event{ticking(oneOf[int64](source, 0, 0, 10000, impl.MaxTime-20000))}).Shield
}

func TestManyRuns(t *testing.T) {
	source, codes, outs := rand.New(rand.NewSource(171)), map[string]int{}, 0
	for i := range 1500 {
		s := chosenStanding(source)
		if i%2 == 0 {
			s = drawnStart(source)
		}
		list := drawnEvents(source, s, oneOf(source, 0, 1, 2, 10, 30), oneOf(source, 0, 4))
		got := checkRun(t, fmt.Sprint(i), s, list)
		for _, code := range got.Codes {
			codes[fmt.Sprint("event ", code)]++
		}
		outs += len(got.Outs)
		if got, want := impl.DrainShield(got.Shield), drainWanted(got.Shield); !sameRun(got, want) {
			t.Fatalf("%d: drained: %s, want %s", i, shownRun(got), shownRun(want))
		}
	}
	enough(t, codes, 50, "event 0", "event 1", "event 3", "event 4", "event 5", "event 6")
	if outs < 5000 {
		t.Errorf("only %d outs were told", outs)
	}
}

// A run is its steps, one behind the other, and the two runs of its parts, wherever it is cut.
func TestRunsAreTheirSteps(t *testing.T) {
	source, cut := rand.New(rand.NewSource(172)), 0
	for i := range 120 {
		s := drawnStart(source)
		if i%3 == 0 {
			s = chosenStanding(source)
		}
		list := drawnEvents(source, s, oneOf(source, 1, 5, 20, 40), 6)
		whole := impl.RunShield(s, list)
		row := impl.RunResult{Shield: s}
		for _, e := range list {
			told := impl.StepShield(row.Shield, e)
			if row.Codes = append(row.Codes, told.Code); told.Code == impl.OK {
				row.Shield, row.Outs = told.Shield, append(row.Outs, told.Outs...)
			}
		}
		if !sameRun(whole, row) {
			t.Fatalf("%d: %s\n%s, want %s", i, shownEvents(list), shownRun(whole), shownRun(row))
		}
		for at := range len(list) + 1 {
			first := impl.RunShield(s, list[:at])
			second := impl.RunShield(first.Shield, list[at:])
			parts := impl.RunResult{Shield: second.Shield, Codes: slices.Concat(first.Codes, second.Codes), Outs: slices.Concat(first.Outs, second.Outs)}
			if first.Code != impl.OK || second.Code != impl.OK || !sameRun(whole, parts) {
				t.Fatalf("%d, cut at %d: %s\n%s, want %s", i, at, shownEvents(list), shownRun(parts), shownRun(whole))
			}
			cut++
		}
	}
	if cut < 1000 {
		t.Errorf("only %d were cut", cut)
	}
}

// checkDrain holds what is said, and how many wait on; all of it is one tick of the time to wait.
func checkDrain(t *testing.T, what string, s impl.Shield, said string, waiting int64) impl.RunResult {
	t.Helper()
	if code := shieldWanted(s); code != impl.OK {
		t.Fatalf("%s: %s has the fault %d", what, shownShield(s), code)
	}
	got, want := impl.DrainShield(s), drainWanted(s)
	if !sameRun(got, want) || !sameRun(got, impl.RunShield(s, []impl.Event{ticking(s.Config.WaitTime)})) {
		t.Errorf("%s: %s, want %s", what, shownRun(got), shownRun(want))
	}
	if got.Code != impl.OK || !slices.Equal(got.Codes, []int64{impl.OK}) || saidIn(got.Outs) != said {
		t.Errorf("%s: %d, %d, %q, want %q", what, got.Code, got.Codes, saidIn(got.Outs), said)
	}
	if waits := impl.WaitingIn(got.Shield); waits.Code != impl.OK || waits.Value != waiting || got.Shield.Now != heldSum(s.Now, s.Config.WaitTime) {
		t.Errorf("%s: %+v wait at %d", what, waits, got.Shield.Now)
	}
	return got
}

func TestDrainShield(t *testing.T) {
	within := func(s impl.Shield, wait int64) impl.Shield {
		s.Config.WaitTime = wait
		return s
	}
	for _, wait := range []int64{0, 1, 2000, 1000000} {
		empty := within(impl.NewShield(stepConfig()).Shield, wait)
		got := checkDrain(t, fmt.Sprint("nothing is there, ", wait), empty, "", 0)
		want := empty
		if want.Now = wait; !sameShield(got.Shield, want) {
			t.Errorf("nothing is there: %s", shownShield(got.Shield))
		}
		kept := within(standing(keptOf(keptAt("/x", freshMeta), keptAt("/y", deadMeta))), wait)
		got = checkDrain(t, fmt.Sprint("nobody waits, ", wait), kept, "", 0)
		want = kept
		if want.Now = 10000 + wait; !sameShield(got.Shield, want) {
			t.Errorf("nobody waits: %s", shownShield(got.Shield))
		}
	}
	// Only who came at this time can still wait where there is no time to wait; no walk leads to who could wait on.
	s := within(standing(nil, sent(11, "/x", 71, 10000, 72, 10001, 73, 9000), queued(12, "/y", 74, 10000)), 0)
	got := checkDrain(t, "no time to wait", s, "71 error 504; 73 error 504; 74 error 504", 1)
	if len(got.Shield.Flights) != 2 || got.Shield.Flights[0].Waiters[0].Req != 72 {
		t.Errorf("no time to wait: %s", shownShield(got.Shield))
	}
	s = standing(nil, sent(11, "/x", 71, 12000, 72, 12001))
	s.Flights[0].Due = 13000
	checkDrain(t, "who came from elsewhere", s, "71 error 504", 1)
	// Flights that are out and some that are not, of two origins; the ones that are out too long free their slots.
	s = standing(keptOf(keptAt("/z", impl.Meta{At: 9000, Life: 500, Sie: 9000})), sent(11, "/x", 71, 10500, 72, 12000), sent(12, "/y", 73, 11000), queued(13, "/z", 74, 12000), toOther(sent(14, "/x", 75, 11999), "b.org"))
	s.Origins[0].Bulk.Queue[0].Due = 13000
	s.Flights[3].Due = 12001
	got = checkDrain(t, "several flights", s, "71 error 504; 72 error 504; 73 error 504; 74 stale 200 kept; 75 error 504; fetch 13 a.com/z if v1", 0)
	if len(got.Shield.Flights) != 2 || !got.Shield.Flights[0].Out || !got.Shield.Flights[1].Out {
		t.Errorf("several flights: %s", shownShield(got.Shield))
	}
	s.Flights[3].Due = 12000
	got = checkDrain(t, "one flight more that is over", s, "71 error 504; 72 error 504; 73 error 504; 74 stale 200 kept; 75 error 504; fetch 13 a.com/z if v1", 0)
	if len(got.Shield.Flights) != 1 {
		t.Errorf("one flight more that is over: %s", shownShield(got.Shield))
	}
	// Who waits for what has been purged waits no longer than all others.
	s = standing(nil, lateFor(doomed(sent(11, "/x", 71, 10500, 72, 11000)), 72))
	checkDrain(t, "late ones", s, "71 error 504; 72 error 504", 0)
	s.Now = impl.MaxTime
	s.Flights[0].Due, s.Flights[0].Waiters[1].Due = impl.MaxTime, impl.MaxTime
	checkDrain(t, "at the end of time", s, "71 error 504; 72 error 504", 0)
}

// Who came at several times is told so at once, in the order of the flights and of those who wait.
func TestDrainOfWhoCameAtSeveralTimes(t *testing.T) {
	get := func(path string) impl.Request { return request("GET", "a.com", path) }
	list := []impl.Event{asking(1, get("/x")), ticking(400), asking(2, get("/y")), asking(3, get("/x")), ticking(400), asking(4, get("/z")), ticking(99), asking(5, get("/x"))}
	ran := impl.RunShield(impl.NewShield(stepConfig()).Shield, list)
	if saidIn(ran.Outs) != "fetch 0 a.com/x; fetch 1 a.com/y" || impl.WaitingIn(ran.Shield).Value != 5 {
		t.Fatalf("%s", shownRun(ran))
	}
	checkDrain(t, "several times", ran.Shield, "1 error 504; 3 error 504; 5 error 504; 2 error 504; 4 error 504", 0)
	// Who asks at the last moment waits for just that long.
	for _, wait := range []int64{0, 1, 2000, 1000000} {
		c := stepConfig()
		c.FetchTime, c.WaitTime = 1000000, wait
		s := impl.RunShield(impl.NewShield(c).Shield, []impl.Event{asking(1, get("/x"))}).Shield
		checkDrain(t, fmt.Sprint("a time of ", wait), s, "1 error 504", 0)
		if wait > 0 {
			s.Config.WaitTime = wait - 1
			checkDrain(t, fmt.Sprint("less than the time of ", wait), s, "", 1)
		}
	}
}

// tellingTo are answers with these sources to id.
func tellingTo(id int64, sources ...string) []impl.Out {
	var list []impl.Out
	for _, source := range sources {
		list = append(list, impl.Out{Kind: impl.OutAnswer, Id: id, Source: source, Response: response(200, "hi", youngHead)})
	}
	return list
}

func fetching(ids ...int64) []impl.Out {
	var list []impl.Out
	for _, id := range ids {
		list = append(list, impl.Out{Kind: impl.OutFetch, Id: id, Request: request("GET", "a.com", "/x")})
	}
	return list
}

func numbered(count int) []string {
	list := make([]string, count)
	for i := range list {
		list[i] = fmt.Sprint("source ", i)
	}
	return list
}

func checkLooks(t *testing.T, what string, outs []impl.Out, id int64, answers, fetches impl.IntResult, sources impl.NamesResult) {
	t.Helper()
	if got := impl.AnswersTo(outs, id); got != answers || got != answersToWanted(outs, id) {
		t.Errorf("%s: AnswersTo %d = %+v, want %+v", what, id, got, answers)
	}
	if got := impl.FetchesIn(outs); got != fetches || got != fetchesWanted(outs) {
		t.Errorf("%s: FetchesIn = %+v, want %+v", what, got, fetches)
	}
	got, want := impl.SourcesTo(outs, id), sourcesWanted(outs, id)
	if got.Code != sources.Code || !slices.Equal(got.Names, sources.Names) || got.Code != want.Code || !slices.Equal(got.Names, want.Names) {
		t.Errorf("%s: SourcesTo %d = %+v, want %+v", what, id, got, sources)
	}
}

func TestLooksAtOuts(t *testing.T) {
	outs := slices.Concat(tellingTo(7, "miss"), fetching(7, 8), tellingTo(0, "stale"), tellingTo(8, "error"), tellingTo(7, "hit", "", "miss"), fetching(7, 9), tellingTo(impl.MaxTime, "renewed"), tellingTo(7, strings.Repeat("s", 3000)))
	for _, row := range []struct {
		id      int64
		sources []string
	}{
		{7, []string{"miss", "hit", "", "miss", strings.Repeat("s", 3000)}}, {8, []string{"error"}}, {0, []string{"stale"}}, {impl.MaxTime, []string{"renewed"}}, {9, nil}, {1, nil}, {6, nil}, {impl.MaxTime - 1, nil},
	} {
		checkLooks(t, "several", outs, row.id, impl.IntResult{Value: int64(len(row.sources))}, impl.IntResult{Value: 4}, impl.NamesResult{Names: row.sources})
	}
	for _, none := range [][]impl.Out{nil, {}} {
		for _, id := range []int64{0, 1, impl.MaxTime} {
			checkLooks(t, "no outs", none, id, impl.IntResult{}, impl.IntResult{}, impl.NamesResult{})
		}
	}
	checkLooks(t, "fetches alone", fetching(7, 7), 7, impl.IntResult{}, impl.IntResult{Value: 2}, impl.NamesResult{})
	// An out of no kind is neither; nothing else of an out is looked at.
	var other []impl.Out
	for _, kind := range []int64{0, 3, -1, impl.MaxTime, 1 << 62} {
		other = append(other, impl.Out{Kind: kind, Id: 7, Source: "hit"})
	}
	checkLooks(t, "of no kind", other, 7, impl.IntResult{}, impl.IntResult{}, impl.NamesResult{})
	other = append(other, impl.Out{Kind: impl.OutAnswer, Id: 7, Source: "a b\x00", Response: response(-5, "x", head("", ""))}, impl.Out{Kind: impl.OutFetch, Id: -7, Source: "miss"}, impl.Out{Kind: impl.OutAnswer, Id: -7})
	checkLooks(t, "with faults", other, 7, impl.IntResult{Value: 1}, impl.IntResult{Value: 1}, impl.NamesResult{Names: []string{"a b\x00"}})
}

func TestLooksAtOutsOfIds(t *testing.T) {
	for _, id := range edgeNumbers {
		for _, outs := range [][]impl.Out{nil, tellingTo(id, "hit", "miss"), fetching(id), slices.Concat(fetching(id), tellingTo(id, "hit")), tellingTo(id, numbered(21)...)} {
			if !isTime(id) {
				fetches := impl.FetchesIn(outs)
				checkLooks(t, "no time", outs, id, impl.IntResult{Code: impl.ErrRange}, fetches, impl.NamesResult{Code: impl.ErrRange})
				continue
			}
			checkLooks(t, "a time", outs, id, answersToWanted(outs, id), fetchesWanted(outs), sourcesWanted(outs, id))
		}
	}
}

func TestLooksAtManyOuts(t *testing.T) {
	for _, count := range []int{1999, 2000, 2001, 4000} {
		lists := map[string][]impl.Out{
			"nothing": make([]impl.Out, count), "answers": tellingTo(7, numbered(count)...), "others": tellingTo(8, numbered(count)...), "fetches": fetching(make([]int64, count)...), "twenty and others": slices.Concat(tellingTo(7, numbered(20)...), tellingTo(8, numbered(count-20)...)),
		}
		for what, outs := range lists {
			for _, id := range []int64{7, 0, -1, impl.MaxTime, impl.MaxTime + 1} {
				many := impl.IntResult{Code: impl.ErrMany}
				if count > 2000 {
					// That is asked ahead of the id.
					checkLooks(t, fmt.Sprint(count, " ", what), outs, id, many, many, impl.NamesResult{Code: impl.ErrMany})
					continue
				}
				checkLooks(t, fmt.Sprint(count, " ", what), outs, id, answersToWanted(outs, id), fetchesWanted(outs), sourcesWanted(outs, id))
			}
		}
		if got := impl.AnswersTo(lists["answers"], 7); count <= 2000 && got.Value != int64(count) {
			t.Errorf("%d answers: %+v", count, got)
		}
		if got := impl.FetchesIn(lists["fetches"]); count <= 2000 && got.Value != int64(count) {
			t.Errorf("%d fetches: %+v", count, got)
		}
	}
}

func TestSourcesToOfMany(t *testing.T) {
	for _, count := range []int{0, 1, 19, 20, 21, 22, 40} {
		outs := tellingTo(7, numbered(count)...)
		for i := range count {
			outs = slices.Insert(outs, 2*i, tellingTo(8, "miss")...)
		}
		outs = slices.Concat(fetching(7, 7), outs, tellingTo(9, numbered(20)...), fetching(7))
		want := impl.NamesResult{Names: numbered(count)}
		if count > 20 {
			want = impl.NamesResult{Code: impl.ErrMany}
		}
		checkLooks(t, fmt.Sprint(count, " answers"), outs, 7, impl.IntResult{Value: int64(count)}, impl.IntResult{Value: 3}, want)
		checkLooks(t, fmt.Sprint(count, " answers to another"), outs, 9, impl.IntResult{Value: 20}, impl.IntResult{Value: 3}, impl.NamesResult{Names: numbered(20)})
	}
}

// asker is somebody who waits to be answered: what for, since which event, and since when.
type asker struct {
	key  string
	head bool
	from int
	at   int64
}

// heard is what an origin said to a flight for a key, with the head lines of those who told that it still holds.
type heard struct {
	told  impl.Response
	lines []impl.Header
	again int
}

// onlooker writes down what happens, and holds what is told against that. It looks into the shield only for
// when a flight began and whether it is out, and for what has a tag.
type onlooker struct {
	t       *testing.T
	config  impl.Config
	shield  impl.Shield
	list    []impl.Event
	codes   []int64
	outs    []impl.Out
	now     int64
	place   int
	waiting map[int64]asker
	asked   map[int64]int64
	key     map[int64]string
	began   map[int64]int
	out     map[int64]bool
	purges  []hardPurge
	kept    map[string]heard
	counts  map[string]int
}

func newOnlooker(t *testing.T, s impl.Shield, counts map[string]int) *onlooker {
	return &onlooker{
		t: t, config: s.Config, shield: s, now: s.Now, waiting: map[int64]asker{}, asked: map[int64]int64{}, key: map[int64]string{}, began: map[int64]int{}, out: map[int64]bool{}, kept: map[string]heard{}, counts: counts,
	}
}

func (l *onlooker) fatal(what string, of ...any) {
	l.t.Helper()
	l.t.Fatalf("%s: %s\n%s\n%s", fmt.Sprintf(what, of...), shownShield(l.shield), shownEvents(l.list), saidIn(l.outs))
}

// hardPurge stands at its place in the run; it is for these keys, or for all.
type hardPurge struct {
	place int
	keys  []string
	all   bool
}

// lastPurge is the place of the last hard purge of a key ahead of a place, 0 where there was none.
func (l *onlooker) lastPurge(key string, ahead int) int {
	last := 0
	for _, p := range l.purges {
		if p.place < ahead && (p.all || slices.Contains(p.keys, key)) {
			last = p.place
		}
	}
	return last
}

// see goes on by one event, as a run of its own.
func (l *onlooker) see(e impl.Event) {
	l.t.Helper()
	l.place++
	before := l.shield
	ran := impl.RunShield(before, []impl.Event{e})
	l.list = append(l.list, e)
	if ran.Code != impl.OK || len(ran.Codes) != 1 {
		l.fatal("the run tells %d, %d", ran.Code, ran.Codes)
	}
	l.codes, l.outs = append(l.codes, ran.Codes...), append(l.outs, ran.Outs...)
	if want := l.codeOf(e); ran.Codes[0] != want {
		l.fatal("the event tells %d, want %d", ran.Codes[0], want)
	}
	if ran.Codes[0] != impl.OK {
		if len(ran.Outs) > 0 || !sameShield(ran.Shield, before) {
			l.fatal("what has a code turns something: %s", shownRun(ran))
		}
		l.counts[fmt.Sprint("code ", ran.Codes[0], " of ", e.Kind)]++
		return
	}
	l.shield = ran.Shield
	l.note(before, e)
	for _, o := range ran.Outs {
		l.hear(e, o)
	}
	l.lookBack(e)
}

// codeOf is what the event is told, from what has been seen alone.
func (l *onlooker) codeOf(e impl.Event) int64 {
	_, waits := l.waiting[e.Id]
	switch {
	case eventWanted(e) != impl.OK:
		return eventWanted(e)
	case e.Kind == impl.EvAsk && waits:
		return impl.ErrTaken
	case (e.Kind == impl.EvReply || e.Kind == impl.EvFail) && !l.out[e.Id]:
		return impl.ErrNone
	}
	return impl.OK
}

// note writes down what an event is, ahead of what is said to it.
func (l *onlooker) note(before impl.Shield, e impl.Event) {
	switch e.Kind {
	case impl.EvAsk:
		l.waiting[e.Id] = asker{fullKeyWanted(e.Request, l.config.Names).Text, e.Request.Method == "HEAD", l.place, l.now}
		if l.asked[e.Id]++; l.asked[e.Id] > 1 {
			l.counts["asked again"]++
		}
	case impl.EvReply:
		l.noteReply(e)
	case impl.EvTick:
		l.now = heldSum(l.now, e.Id)
	case impl.EvKey, impl.EvTag, impl.EvAll:
		if e.Hard {
			l.notePurge(before, e)
		}
	}
}

// notePurge: a tag stands for the keys of what has it when it is purged.
func (l *onlooker) notePurge(before impl.Shield, e impl.Event) {
	purge := hardPurge{place: l.place, keys: []string{e.Text}, all: e.Kind == impl.EvAll}
	if e.Kind == impl.EvTag {
		purge.keys = taggedWanted(before.Store, e.Text).Names
	}
	l.purges = append(l.purges, purge)
	maps.DeleteFunc(l.kept, func(key string, _ heard) bool { return purge.all || slices.Contains(purge.keys, key) })
}

// noteReply: what comes to a flight from ahead of the last hard purge is told, but not to be told again.
func (l *onlooker) noteReply(e impl.Event) {
	key, status := l.key[e.Id], e.Response.Status
	if l.began[e.Id] <= l.lastPurge(key, l.place) || status >= 500 {
		return
	}
	if status == 304 {
		if said, has := l.kept[key]; has {
			said.lines, said.again = slices.Concat(said.lines, e.Response.Headers), said.again+1
			l.kept[key] = said
		}
		return
	}
	l.kept[key] = heard{told: e.Response, lines: e.Response.Headers}
}

// hear holds one out against what has been seen.
func (l *onlooker) hear(e impl.Event, o impl.Out) {
	l.t.Helper()
	if o.Kind != impl.OutAnswer {
		l.key[o.Id] = fullKeyWanted(o.Request, l.config.Names).Text
		return
	}
	who, waits := l.waiting[o.Id]
	if !waits {
		l.fatal("%d is told something, but has not asked", o.Id)
	}
	delete(l.waiting, o.Id)
	l.counts[o.Source]++
	if who.head && len(o.Response.Body) > 0 {
		l.fatal("%d asked for the head alone", o.Id)
	}
	switch o.Source {
	case "miss":
		if e.Kind != impl.EvReply || l.key[e.Id] != who.key || l.began[e.Id] <= l.lastPurge(who.key, who.from) || !sameTold(o.Response, relayWanted(e.Response, who.head).Response) {
			l.fatal("%d is told %s", o.Id, shownResponse(o.Response))
		}
	case "hit", "stale", "renewed":
		l.hearKept(o, who)
	case "error":
		if o.Response.Status != 414 && !within(o.Response.Status, 502, 504) || !sameTold(o.Response, errorWanted(o.Response.Status).Response) {
			l.fatal("%d is told %s", o.Id, shownResponse(o.Response))
		}
	default:
		l.fatal("%d is told from %q", o.Id, o.Source)
	}
}

func withoutMarks(list []impl.Header) []impl.Header {
	return slices.DeleteFunc(slices.Clone(list), func(h impl.Header) bool {
		return strings.EqualFold(h.Name, "Age") || strings.EqualFold(h.Name, "X-Cache")
	})
}

// hearKept: what is kept is the last that came for its key; its lines are those of this, or of who told that it holds.
func (l *onlooker) hearKept(o impl.Out, who asker) {
	l.t.Helper()
	said, has := l.kept[who.key]
	if !has || o.Response.Status != said.told.Status || string(o.Response.Body) != bodyWanted(said.told.Body, who.head) {
		l.fatal("%d is told %s, but %s was said", o.Id, shownResponse(o.Response), shownResponse(said.told))
	}
	lines := withoutMarks(o.Response.Headers)
	if said.again == 0 && !slices.Equal(lines, withoutMarks(said.lines)) {
		l.fatal("%d is told %s, but %s was said", o.Id, shownResponse(o.Response), shownResponse(said.told))
	}
	for _, line := range lines {
		if !slices.ContainsFunc(said.lines, func(h impl.Header) bool { return strings.EqualFold(h.Name, line.Name) && h.Value == line.Value }) {
			l.fatal("%d is told the line %q", o.Id, line)
		}
	}
	if said.again > 0 {
		l.counts["told as it was renewed"]++
	}
}

// lookBack: nobody waits longer than the time to wait, and who waits is just who has not been answered.
func (l *onlooker) lookBack(e impl.Event) {
	l.t.Helper()
	for id, who := range l.waiting {
		if e.Kind == impl.EvTick && heldSum(who.at, l.config.WaitTime) <= l.now {
			l.fatal("%d waits too long", id)
		}
	}
	clear(l.out)
	for _, f := range l.shield.Flights {
		if _, has := l.began[f.Id]; !has {
			l.began[f.Id] = l.place
		}
		if l.out[f.Id] = f.Out; f.Out && f.Key != l.key[f.Id] {
			l.fatal("the flight %d is for %q, and goes for %q", f.Id, f.Key, l.key[f.Id])
		}
	}
	if told := impl.WaitingIn(l.shield); told.Value != int64(len(l.waiting)) {
		l.fatal("%+v wait, want %d", told, len(l.waiting))
	}
	for id, times := range l.asked {
		_, waits := l.waiting[id]
		if waits {
			times--
		}
		if got := impl.AnswersTo(l.outs, id); got.Code != impl.OK || got.Value != times {
			l.fatal("%d was told %+v answers, want %d", id, got, times)
		}
	}
	if e.Kind == impl.EvAll && e.Hard && (len(heldIn(l.shield.Store)) > 0 || impl.CostIn(l.shield.Store).Value != 0) {
		l.fatal("something is kept behind a purge of all")
	}
}

// Promise 17: whoever asks is answered exactly once, with what an origin said to a flight for that key that began behind
// the last hard purge of it, at the latest when the time to wait is over; what comes too late turns nothing.
func TestPromise17WhoeverAsksIsAnsweredOnce(t *testing.T) {
	source, counts := rand.New(rand.NewSource(173)), map[string]int{}
	for range 1500 {
		s := drawnStart(source)
		l := newOnlooker(t, s, counts)
		for range 60 {
			e := chosenStep(source, l.shield, source.Int63n(12))
			if source.Intn(10) == 0 {
				turnEventWrongly(source, &e)
			}
			l.see(e)
		}
		if got, want := impl.FetchesIn(l.outs), fetchesWanted(l.outs); got != want {
			l.fatal("%+v fetches, want %+v", got, want)
		}
		whole := impl.RunShield(s, l.list)
		if !sameRun(whole, impl.RunResult{Shield: l.shield, Codes: l.codes, Outs: l.outs}) {
			l.fatal("in one run it is %s", shownRun(whole))
		}
		// When the time to wait is over nobody waits.
		drained := impl.DrainShield(whole.Shield)
		l.see(ticking(l.config.WaitTime))
		if !sameRun(drained, impl.RunResult{Shield: l.shield, Codes: []int64{impl.OK}, Outs: l.outs[len(whole.Outs):]}) || len(l.waiting) > 0 || impl.WaitingIn(drained.Shield).Value != 0 {
			l.fatal("drained it is %s", shownRun(drained))
		}
		for id, times := range l.asked {
			if got := impl.SourcesTo(l.outs, id); times <= 20 && int64(len(got.Names)) != times || times > 20 && got.Code != impl.ErrMany {
				l.fatal("%d was told from %+v, want %d", id, got, times)
			}
		}
	}
	enough(t, counts, 500, "hit", "stale", "miss", "error", "asked again", "code 6 of 1", "code 4 of 2", "code 4 of 3")
	enough(t, counts, 50, "renewed", "told as it was renewed")
}

// drawnRun is a run of events without a fault, with the shield behind each of them.
func drawnRun(source *rand.Rand, s impl.Shield, count int) (list []impl.Event, shields []impl.Shield) {
	list = drawnEvents(source, s, count, 0)
	for _, e := range list {
		s = impl.RunShield(s, []impl.Event{e}).Shield
		shields = append(shields, s)
	}
	return list, shields
}

// Promise 17: a reply and a fail of a flight that is no more, or has not gone yet, turn nothing, however much comes so.
func TestPromise17WhatComesTooLate(t *testing.T) {
	source, late, early := rand.New(rand.NewSource(174)), 0, 0
	for i := range 400 {
		s := drawnStart(source)
		list, shields := drawnRun(source, s, 30)
		want := impl.RunShield(s, list)
		var mixed []impl.Event
		var codes []int64
		for at, e := range list {
			mixed, codes = append(mixed, e), append(codes, want.Codes[at])
			id := source.Int63n(max(1, shields[at].Next))
			for _, f := range shields[at].Flights {
				if !f.Out && source.Intn(2) == 0 {
					id = f.Id
				}
			}
			held := slices.IndexFunc(shields[at].Flights, func(f impl.Flight) bool { return f.Id == id })
			switch {
			case held < 0:
				late++
			case shields[at].Flights[held].Out:
				continue
			default:
				early++
			}
			reply := chosenReply(source, shields[at])
			reply.Id = id
			mixed, codes = append(mixed, oneOf(source, reply, failing(id))), append(codes, impl.ErrNone)
		}
		got := impl.RunShield(s, mixed)
		if !sameRun(got, impl.RunResult{Shield: want.Shield, Codes: codes, Outs: want.Outs}) {
			t.Fatalf("%d: %s\n%s\nwant %d, %s", i, shownEvents(mixed), shownRun(got), codes, shownRun(want))
		}
	}
	if late < 5000 || early < 50 {
		t.Errorf("only %d came too late, and %d too early", late, early)
	}
}

// Promise 17: a flight that was given up comes back when it is no more, and once more when another one is out for its key.
func TestPromise17FlightsThatComeBackLate(t *testing.T) {
	get := request("GET", "a.com", "/x")
	late := []impl.Event{replying(0, 200, "late", youngHead), replying(0, 304, ""), replying(0, 500, "late"), failing(0)}
	for _, ended := range [][]impl.Event{{ticking(1000)}, {failing(0)}, {replying(0, 404, "none")}, {replying(0, 304, "")}, {replying(0, 503, "bad")}, {purging(impl.EvAll, "", true), replying(0, 200, "doomed", youngHead)}} {
		list := slices.Concat([]impl.Event{asking(1, get)}, ended)
		ran := impl.RunShield(impl.NewShield(stepConfig()).Shield, list)
		if impl.AnswersTo(ran.Outs, 1).Value != 1 && ended[0].Kind != impl.EvTick {
			t.Fatalf("%s: %s", shownEvents(list), shownRun(ran))
		}
		for _, s := range []impl.Shield{ran.Shield, impl.RunShield(ran.Shield, []impl.Event{asking(2, get)}).Shield} {
			for _, e := range late {
				if got := impl.RunShield(s, []impl.Event{e, e}); !sameRun(got, impl.RunResult{Shield: s, Codes: []int64{impl.ErrNone, impl.ErrNone}}) {
					t.Errorf("%s, then %s: %s", shownEvents(list), shownEvent(e), shownRun(got))
				}
			}
		}
	}
}

// withDraws are the events with these draws.
func withDraws(list []impl.Event, draw func(at int) int64) []impl.Event {
	other := slices.Clone(list)
	for at, e := range other {
		if e.Kind == impl.EvAsk {
			other[at].Draw = draw(at)
		}
	}
	return other
}

// Promise 17: where nothing is asked for ahead of its time draws decide of nothing.
func TestPromise17DrawsOfNothing(t *testing.T) {
	source := rand.New(rand.NewSource(175))
	for i := range 300 {
		s := drawnStart(source)
		if i%2 == 0 {
			s = chosenStanding(source)
		}
		list := drawnEvents(source, s, 40, 0)
		// No draw is as good as no window.
		without := withDraws(list, func(int) int64 { return 0 })
		want := impl.RunShield(s, without)
		s.Config.Early = 0
		for _, draws := range []func(int) int64{func(int) int64 { return 0 }, func(int) int64 { return 999 }, func(int) int64 { return source.Int63n(1000) }} {
			got := impl.RunShield(s, withDraws(list, draws))
			if got.Shield.Config.Early = want.Shield.Config.Early; !sameRun(got, want) {
				t.Fatalf("%d: %s\n%s\nwant %s", i, shownEvents(list), shownRun(got), shownRun(want))
			}
		}
	}
}

// freshStart has a few things that were just asked for, and are kept.
func freshStart(source *rand.Rand) impl.Shield {
	s := drawnStart(source)
	s.Config.Early, s.Config.Lanes.Slots, s.Config.Lanes.Cap = oneOf[int64](source, 500, 1000, 1000000), oneOf[int64](source, 1, 1, 2), 3
	for at, path := range stepPaths {
		get := request("GET", stepHosts[at%2], path)
		s = impl.RunShield(s, []impl.Event{asking(1, get), replying(s.Next, 200, path, head("Cache-Control", "max-age=2"), head("ETag", "v1")), ticking(source.Int63n(100))}).Shield
	}
	return s
}

// Promise 17: draws decide only whether what is still fresh is asked for anew: what is told to who asks is the same, and
// so is all else but a flight more, and what its origin knows of it.
func TestPromise17DrawsDecideOnlyOfWhatIsFresh(t *testing.T) {
	source, told, other := rand.New(rand.NewSource(176)), map[string]int{}, 0
	for i := range 500 {
		s := freshStart(source)
		list, shields := drawnRun(source, s, 40)
		for at, e := range list {
			if e.Kind != impl.EvAsk || at == 0 {
				continue
			}
			before := shields[at-1]
			e.Draw = 0
			never := impl.RunShield(before, []impl.Event{e})
			e.Draw = oneOf[int64](source, 1, 500, 999)
			drawn := impl.RunShield(before, []impl.Event{e})
			if sameRun(never, drawn) {
				told["the same"]++
				continue
			}
			entry, has := (&worked{s: before}).entry(fullKeyWanted(e.Request, before.Config.Names).Text)
			if !has || phaseWanted(entry.Meta, before.Now).Value != impl.PhaseFresh || !slices.Equal(impl.SourcesTo(never.Outs, e.Id).Names, []string{"hit"}) || len(never.Outs) != 1 {
				t.Fatalf("%d: %s, %s\n%s, drawn %s", i, shownShield(before), shownEvent(e), shownRun(never), shownRun(drawn))
			}
			if rest := leftOfDraw(never, drawn); rest != "" {
				t.Fatalf("%d: %s: %s, %s\n%s, drawn %s", i, rest, shownShield(before), shownEvent(e), shownRun(never), shownRun(drawn))
			}
			told[fmt.Sprint(len(drawn.Shield.Flights)-len(never.Shield.Flights), " flights and ", len(drawn.Outs)-1, " fetches more")]++
		}
		// The run is the same up to the first of those.
		again := withDraws(list, func(int) int64 { return source.Int63n(1000) })
		first, second := impl.RunShield(s, list), impl.RunShield(s, again)
		if sameRun(first, second) {
			continue
		}
		other++
		for at := range list {
			if a, b := impl.RunShield(s, list[:at+1]), impl.RunShield(s, again[:at+1]); !sameRun(a, b) {
				if of := impl.SourcesTo(a.Outs[len(impl.RunShield(s, list[:at]).Outs):], list[at].Id); !slices.Equal(of.Names, []string{"hit"}) {
					t.Fatalf("%d: %s, told from %q\n%s, or %s", i, shownEvent(list[at]), of.Names, shownRun(a), shownRun(b))
				}
				break
			}
		}
	}
	enough(t, told, 30, "the same", "1 flights and 1 fetches more")
	enough(t, told, 5, "1 flights and 0 fetches more")
	if other < 50 {
		t.Errorf("only %d runs were others by their draws", other)
	}
}

// leftOfDraw is what else two runs of one ask differ in than a flight for what is fresh, with nobody who waits for it.
func leftOfDraw(never, drawn impl.RunResult) string {
	outs := drawn.Outs
	if !sameOut(never.Outs[0], outs[0]) || len(outs) > 2 || len(outs) == 2 && outs[1].Kind != impl.OutFetch {
		return "something else is told"
	}
	a, b := never.Shield, drawn.Shield
	count := len(a.Flights)
	switch more := b.Flights[count:]; {
	case !slices.EqualFunc(a.Flights, b.Flights[:count], sameFlight) || len(more) > 1:
		return "other flights"
	case len(more) == 1 && (!more[0].Back || len(more[0].Waiters) > 0 || more[0].Id != a.Next || b.Next != a.Next+1 || len(outs) == 2 != more[0].Out):
		return "another flight"
	case len(more) == 0 && (a.Next != b.Next || len(outs) > 1):
		return "no flight, and yet something of it"
	case len(more) == 1:
		if e := entryIn(&b, more[0].Key); e != nil && entryIn(&a, more[0].Key).Pins < 20 {
			e.Pins--
		}
	}
	b.Next, b.Flights, b.Origins = a.Next, a.Flights, a.Origins
	if !sameShield(a, b) {
		return "something else is turned"
	}
	return ""
}

// Promise 17: after a hard purge of all nothing is kept: who asks is told nothing from ahead of it.
func TestPromise17NothingIsKeptBehindAPurgeOfAll(t *testing.T) {
	source, asked, answered := rand.New(rand.NewSource(177)), 0, map[string]int{}
	for i := range 400 {
		s := drawnStart(source)
		list, shields := drawnRun(source, s, 30)
		purged := impl.RunShield(s, append(list, purging(impl.EvAll, "", true)))
		left := purged.Shield
		if len(purged.Outs) != len(impl.RunShield(s, list).Outs) || len(heldIn(left.Store)) > 0 || impl.CostIn(left.Store).Value != 0 || slices.ContainsFunc(left.Flights, func(f impl.Flight) bool { return !f.Doomed }) {
			t.Fatalf("%d: %s is left of %s", i, shownShield(left), shownShield(shields[29]))
		}
		// All flights come back, and all of them are too old for those who ask now.
		behind := []impl.Event{}
		for at, get := range []impl.Request{request("GET", "a.com", "/x"), request("HEAD", "a.com", "/y"), request("GET", "b.org", "/x"), request("GET", "a.com", "/z")} {
			behind = append(behind, asking(100+int64(at), get))
		}
		for _, f := range left.Flights {
			behind = append(behind, replying(f.Id, oneOf[int64](source, 200, 200, 304, 503), "old", oneOf(source, stepHeads...)...))
		}
		for at, e := range slices.Clone(behind[:4]) {
			e.Id = 200 + int64(at)
			behind = append(behind, e)
		}
		told := impl.RunShield(left, behind)
		for id := int64(100); id < 204; id++ {
			for _, from := range impl.SourcesTo(told.Outs, id).Names {
				if asked++; from != "error" {
					t.Fatalf("%d: %d is told from %q: %s\n%s", i, id, from, shownEvents(behind), shownRun(told))
				}
			}
		}
		if len(heldIn(told.Shield.Store)) > 0 {
			t.Fatalf("%d: %s is kept: %s", i, shownShield(told.Shield), shownEvents(behind))
		}
		for _, o := range told.Outs {
			answered[o.Source]++
		}
	}
	enough(t, answered, 100, "miss", "error")
	if asked < 100 {
		t.Errorf("only %d who asked were told something", asked)
	}
}

// runArguments stand for a call of each function of chapter 16.
type runArguments struct {
	shield impl.Shield
	list   []impl.Event
	outs   []impl.Out
	id     int64
}

// manyRuns have a fault one time in so many (none, where that is 0); now and then there is too much.
func manyRuns(seed int64, count, wrong int) []runArguments {
	source := rand.New(rand.NewSource(seed))
	list := make([]runArguments, count)
	for i := range list {
		a := runArguments{shield: chosenStanding(source), id: source.Int63n(3)}
		a.list = drawnEvents(source, a.shield, oneOf(source, 0, 1, 3, 12), wrong)
		for range oneOf(source, 0, 1, 4, 30) {
			a.outs = append(a.outs, chosenOuts(source)...)
		}
		if wrong > 0 && source.Intn(wrong) == 0 {
			switch source.Intn(5) {
			case 0:
				turnShieldWrongly(source, &a.shield)
			case 1:
				a.id = edgeNumbers[source.Intn(len(edgeNumbers))]
			case 2:
				a.outs = append(a.outs, make([]impl.Out, 2000)...)
			case 3:
				a.outs = append(a.outs, tellingTo(a.id, numbered(21)...)...)
			case 4:
				a.list = append(a.list, make([]impl.Event, 60)...)
			}
		}
		list[i] = a
	}
	return list
}

type runAnswers struct {
	ran, drained     impl.RunResult
	answers, fetches impl.IntResult
	sources          impl.NamesResult
}

func askRuns(a runArguments) runAnswers {
	return runAnswers{ran: impl.RunShield(a.shield, a.list), drained: impl.DrainShield(a.shield), answers: impl.AnswersTo(a.outs, a.id), fetches: impl.FetchesIn(a.outs), sources: impl.SourcesTo(a.outs, a.id)}
}

func runsWanted(a runArguments) runAnswers {
	return runAnswers{ran: runWanted(a.shield, a.list), drained: drainWanted(a.shield), answers: answersToWanted(a.outs, a.id), fetches: fetchesWanted(a.outs), sources: sourcesWanted(a.outs, a.id)}
}

func (a runAnswers) equals(b runAnswers) bool {
	return sameRun(a.ran, b.ran) && sameRun(a.drained, b.drained) && a.answers == b.answers && a.fetches == b.fetches && a.sources.Code == b.sources.Code && slices.Equal(a.sources.Names, b.sources.Names)
}

// bare: nothing stands beside a code.
func (a runAnswers) bare() bool {
	return isBareRun(a.ran) && isBareRun(a.drained) && (a.answers.Code == impl.OK || a.answers.Value == 0) && (a.fetches.Code == impl.OK || a.fetches.Value == 0) && (a.sources.Code == impl.OK || len(a.sources.Names) == 0)
}

func TestManyRunsWithFaults(t *testing.T) {
	codes := map[string]int{}
	for i, a := range manyRuns(181, 4000, 2) {
		got, want := askRuns(a), runsWanted(a)
		if !got.equals(want) {
			t.Fatalf("%d: %s\n%s\n%s, %s, %+v, %+v, %+v\nwant %s, %s, %+v, %+v, %+v", i, shownShield(a.shield), shownEvents(a.list), shownRun(got.ran), shownRun(got.drained), got.answers, got.fetches, got.sources, shownRun(want.ran), shownRun(want.drained), want.answers, want.fetches, want.sources)
		}
		codes[fmt.Sprint("run ", got.ran.Code)]++
		codes[fmt.Sprint("drain ", got.drained.Code)]++
		codes[fmt.Sprint("answers ", got.answers.Code)]++
		codes[fmt.Sprint("fetches ", got.fetches.Code)]++
		codes[fmt.Sprint("sources ", got.sources.Code)]++
	}
	enough(t, codes, 20, "run 0", "run 2", "run 3", "run 8", "drain 0", "drain 3", "drain 8", "answers 0", "answers 2", "answers 3", "fetches 0", "fetches 2", "sources 0", "sources 2", "sources 3")
}

func givenEvents(list []impl.Event) []impl.Event {
	var own []impl.Event
	for _, e := range list {
		own = append(own, givenEvent(e))
	}
	return roomyList(own, impl.Event{Kind: impl.EvTick, Text: "behind"})
}

func givenRuns(a runArguments) runArguments {
	return runArguments{shield: givenShield(a.shield), list: givenEvents(a.list), outs: givenOuts(a.outs), id: a.id}
}

// wholeRuns have all that stands in the memory of the lists in them.
func wholeRuns(a runArguments) runArguments {
	whole := runArguments{shield: wholeShield(a.shield), outs: wholeOuts(a.outs), id: a.id}
	for _, e := range a.list[:cap(a.list)] {
		e.Request, e.Response = wholeRequest(e.Request), wholeResponse(e.Response)
		whole.list = append(whole.list, e)
	}
	return whole
}

func sameRuns(a, b runArguments) bool {
	return sameShield(a.shield, b.shield) && slices.EqualFunc(a.list, b.list, sameEvent) && slices.EqualFunc(a.outs, b.outs, sameOut) && a.id == b.id
}

func scribbleRun(r impl.RunResult) {
	scribbleShield(r.Shield)
	scribbleOuts(r.Outs)
	overwrite(r.Codes, -9)
}

func (a runAnswers) scribble() {
	scribbleRun(a.ran)
	scribbleRun(a.drained)
	overwrite(a.sources.Names, "spoiled")
}

func spoilRuns(a runArguments) {
	scribbleShield(a.shield)
	for _, e := range a.list[:cap(a.list)] {
		overwrite(e.Request.Headers, head("spoiled", "spoiled"))
		scribbleResponse(e.Response)
	}
	overwrite(a.list, impl.Event{Kind: -9, Text: "spoiled"})
	scribbleOuts(a.outs)
}

var chapter16 = chapter[runArguments, runAnswers]{
	ask: askRuns, equal: runAnswers.equals, bare: runAnswers.bare, given: givenRuns, whole: wholeRuns, same: sameRuns, spoil: spoilRuns, scribble: runAnswers.scribble,
}

func TestPromise1RunsHangOnArgumentsAlone(t *testing.T) {
	chapter16.hangsOnArguments(t, manyRuns(182, 1000, 4))
	// An empty list and none are the same.
	for i, a := range manyRuns(183, 1000, 4) {
		b := givenRuns(a)
		if len(b.list) == 0 {
			b.list = []impl.Event{}
		}
		if len(b.outs) == 0 {
			b.outs = []impl.Out{}
		}
		if len(b.shield.Flights) == 0 {
			b.shield.Flights = []impl.Flight{}
		}
		if !askRuns(b).equals(askRuns(a)) {
			t.Errorf("%d: with empty lists it is another answer", i)
		}
	}
}

func TestPromise1RunsLeaveArgumentsAsTheyWere(t *testing.T) {
	chapter16.leavesArguments(t, manyRuns(184, 1500, 6))
}

func TestPromise1RunsAreNewMemory(t *testing.T) {
	chapter16.tellsNewMemory(t, manyRuns(185, 1500, 6))
}

// Promise 1: no two lists of one answer share memory, nor does a list or a text with an argument.
func TestPromise1ListsOfRunsAreApart(t *testing.T) {
	outs, kept, flown, sources := 0, 0, 0, 0
	for i, a := range manyRuns(186, 1500, 8) {
		a := givenRuns(a)
		var given []region
		regionsIn(reflect.ValueOf(a.shield), "shield", &given, &given)
		regionsIn(reflect.ValueOf(a.list), "events", &given, &given)
		regionsIn(reflect.ValueOf(a.outs), "outs", &given, &given)
		told := askRuns(a)
		for _, answer := range []any{told.ran, told.drained, told.sources} {
			var lists, texts []region
			regionsIn(reflect.ValueOf(answer), "answer", &lists, &texts)
			if shared := sharedRegion(slices.Clone(lists)); shared != "" {
				t.Fatalf("%d: %s share memory", i, shared)
			}
			// Some texts of an answer are the same constant: they are held against those of the arguments alone.
			for _, piece := range append(lists, texts...) {
				for _, argument := range given {
					if piece.from < argument.to && argument.from < piece.to {
						t.Fatalf("%d: %s shares memory with %s", i, piece.what, argument.what)
					}
				}
			}
		}
		outs, kept, flown, sources = outs+len(told.ran.Outs), kept+len(heldIn(told.drained.Shield.Store)), flown+len(told.drained.Shield.Flights), sources+len(told.sources.Names)
	}
	if outs < 2000 || kept < 2000 || flown < 1000 || sources < 2000 {
		t.Errorf("only %d outs, %d entries, %d flights and %d sources were told", outs, kept, flown, sources)
	}
}
