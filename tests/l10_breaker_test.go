package tests

import (
	"fmt"
	"math"
	"math/rand"
	"slices"
	"testing"

	"loop.example/g00665/impl"
)

// The signatures and the types as the document tells them.
var (
	_ func(impl.Rules) int64                                         = impl.RulesFault
	_ func(impl.Breaker) int64                                       = impl.BreakerFault
	_ func(impl.Breaker) impl.IntResult                              = impl.BadIn
	_ func(impl.Breaker, impl.Rules, int64) impl.AllowResult         = impl.AllowFetch
	_ func(impl.Breaker, impl.Rules, int64, bool) impl.BreakerResult = impl.NoteOutcome
	_ func(impl.Rules, []impl.Trace) impl.StatesResult               = impl.RunTraces
	_ func(impl.Breaker, impl.Breaker) bool                          = impl.SameBreakers

	_ = impl.Rules{Window: int64(0), Min: int64(0), Ratio: int64(0), Cool: int64(0), Quota: int64(0)}
	_ = impl.Mark{At: int64(0), Good: false}
	_ = impl.Breaker{State: int64(0), Since: int64(0), Out: int64(0), Marks: []impl.Mark{}}
	_ = impl.Trace{At: int64(0), Ask: false, Good: false}
	_ = impl.BreakerResult{Code: int64(0), Breaker: impl.Breaker{}}
	_ = impl.AllowResult{Code: int64(0), Breaker: impl.Breaker{}, Allowed: false}
	_ = impl.StatesResult{Code: int64(0), States: []int64{}, Allowed: []bool{}}
)

var (
	goodOrBad  = []bool{true, false}
	plainRules = impl.Rules{Window: 1000, Min: 2, Ratio: 500, Cool: 500, Quota: 2}
)

// marked are outcomes at the same time: g is a good one, b a bad one.
func marked(at int64, letters string) []impl.Mark {
	var marks []impl.Mark
	for _, letter := range letters {
		marks = append(marks, impl.Mark{At: at, Good: letter == 'g'})
	}
	return marks
}

func goodAt(times ...int64) []impl.Mark {
	var marks []impl.Mark
	for _, at := range times {
		marks = append(marks, impl.Mark{At: at, Good: true})
	}
	return marks
}

func closedWith(since int64, marks ...impl.Mark) impl.Breaker {
	return impl.Breaker{State: impl.StateClosed, Since: since, Marks: marks}
}

func openSince(since int64) impl.Breaker {
	return impl.Breaker{State: impl.StateOpen, Since: since}
}

func halfWith(since, out int64) impl.Breaker {
	return impl.Breaker{State: impl.StateHalf, Since: since, Out: out}
}

func sameBreaker(a, b impl.Breaker) bool {
	return a.State == b.State && a.Since == b.Since && a.Out == b.Out && slices.Equal(a.Marks, b.Marks)
}

func sameAllow(a, b impl.AllowResult) bool {
	return a.Code == b.Code && a.Allowed == b.Allowed && sameBreaker(a.Breaker, b.Breaker)
}

func sameNote(a, b impl.BreakerResult) bool {
	return a.Code == b.Code && sameBreaker(a.Breaker, b.Breaker)
}

func sameStates(a, b impl.StatesResult) bool {
	return a.Code == b.Code && slices.Equal(a.States, b.States) && slices.Equal(a.Allowed, b.Allowed)
}

func within(n, least, most int64) bool {
	return n >= least && n <= most
}

func rulesWanted(r impl.Rules) int64 {
	if within(r.Window, 1, 1000000) && within(r.Min, 1, 50) && within(r.Ratio, 1, 1000) && within(r.Cool, 0, 1000000) && within(r.Quota, 1, 5) {
		return impl.OK
	}
	return impl.ErrRange
}

func breakerWanted(b impl.Breaker) int64 {
	if !within(b.State, 0, 2) || !isTime(b.Since) || !within(b.Out, 0, 5) {
		return impl.ErrRange
	}
	if len(b.Marks) > 60 {
		return impl.ErrMany
	}
	for _, m := range b.Marks {
		if !isTime(m.At) {
			return impl.ErrRange
		}
	}
	for i := 1; i < len(b.Marks); i++ {
		if b.Marks[i].At < b.Marks[i-1].At {
			return impl.ErrForm
		}
	}
	if len(b.Marks) != 0 && b.State != 0 {
		return impl.ErrState
	}
	if b.Out != 0 && b.State != 2 {
		return impl.ErrState
	}
	return impl.OK
}

func badWanted(b impl.Breaker) impl.IntResult {
	if code := breakerWanted(b); code != impl.OK {
		return impl.IntResult{Code: code}
	}
	told := impl.IntResult{}
	for _, m := range b.Marks {
		if !m.Good {
			told.Value++
		}
	}
	return told
}

// turnWanted is the code that both turns of a breaker ask ahead.
func turnWanted(b impl.Breaker, r impl.Rules, now int64) int64 {
	if code := breakerWanted(b); code != impl.OK {
		return code
	}
	if code := rulesWanted(r); code != impl.OK {
		return code
	}
	if !isTime(now) || now < b.Since {
		return impl.ErrRange
	}
	for _, m := range b.Marks {
		if now < m.At {
			return impl.ErrRange
		}
	}
	return impl.OK
}

func allowWanted(b impl.Breaker, r impl.Rules, now int64) impl.AllowResult {
	if code := turnWanted(b, r, now); code != impl.OK {
		return impl.AllowResult{Code: code}
	}
	switch {
	case b.State == 0:
		return impl.AllowResult{Breaker: b, Allowed: true}
	case b.State == 1 && now-b.Since >= r.Cool:
		b.State, b.Out = 2, 1
		return impl.AllowResult{Breaker: b, Allowed: true}
	case b.State == 2 && b.Out < r.Quota:
		b.Out++
		return impl.AllowResult{Breaker: b, Allowed: true}
	}
	return impl.AllowResult{Breaker: b}
}

func noteWanted(b impl.Breaker, r impl.Rules, now int64, good bool) impl.BreakerResult {
	if code := turnWanted(b, r, now); code != impl.OK {
		return impl.BreakerResult{Code: code}
	}
	if b.State == 1 {
		return impl.BreakerResult{Breaker: b}
	}
	if b.State == 2 && good {
		return impl.BreakerResult{Breaker: impl.Breaker{State: 0, Since: b.Since}}
	}
	if b.State == 2 {
		return impl.BreakerResult{Breaker: impl.Breaker{State: 1, Since: now}}
	}
	marks, bad := []impl.Mark{}, int64(0)
	for _, m := range b.Marks {
		if heldSum(m.At, r.Window) > now {
			marks = append(marks, m)
		}
	}
	if len(marks) == 60 {
		marks = marks[1:]
	}
	marks = append(marks, impl.Mark{At: now, Good: good})
	for _, m := range marks {
		if !m.Good {
			bad++
		}
	}
	if int64(len(marks)) >= r.Min && 1000*bad >= r.Ratio*int64(len(marks)) {
		return impl.BreakerResult{Breaker: impl.Breaker{State: 1, Since: now}}
	}
	return impl.BreakerResult{Breaker: impl.Breaker{State: 0, Since: b.Since, Marks: marks}}
}

func tracesWanted(r impl.Rules, list []impl.Trace) impl.StatesResult {
	if code := rulesWanted(r); code != impl.OK {
		return impl.StatesResult{Code: code}
	}
	if len(list) > 100 {
		return impl.StatesResult{Code: impl.ErrMany}
	}
	told, b := impl.StatesResult{}, impl.Breaker{}
	for _, trace := range list {
		step := impl.AllowResult{}
		if trace.Ask {
			step = allowWanted(b, r, trace.At)
		} else {
			noted := noteWanted(b, r, trace.At, trace.Good)
			step = impl.AllowResult{Code: noted.Code, Breaker: noted.Breaker}
		}
		if step.Code != impl.OK {
			return impl.StatesResult{Code: step.Code}
		}
		b = step.Breaker
		told.States, told.Allowed = append(told.States, b.State), append(told.Allowed, step.Allowed)
	}
	return told
}

func checkAllow(t *testing.T, what string, b impl.Breaker, r impl.Rules, now int64, want impl.AllowResult) {
	t.Helper()
	if got := impl.AllowFetch(b, r, now); !sameAllow(got, want) {
		t.Errorf("%s: AllowFetch(%+v, %+v, %d) = %+v, want %+v", what, b, r, now, got, want)
	}
}

func checkNote(t *testing.T, what string, b impl.Breaker, r impl.Rules, now int64, good bool, want impl.BreakerResult) {
	t.Helper()
	if got := impl.NoteOutcome(b, r, now, good); !sameNote(got, want) {
		t.Errorf("%s: NoteOutcome(%+v, %+v, %d, %t) = %+v, want %+v", what, b, r, now, good, got, want)
	}
}

// checkTurnCode asks all that turn a breaker: nothing stands beside the code.
func checkTurnCode(t *testing.T, what string, b impl.Breaker, r impl.Rules, now int64, code int64) {
	t.Helper()
	checkAllow(t, what, b, r, now, impl.AllowResult{Code: code})
	for _, good := range goodOrBad {
		checkNote(t, what, b, r, now, good, impl.BreakerResult{Code: code})
	}
}

// checkTurns: a breaker without a fault at a time that fits has no code.
func checkTurns(t *testing.T, what string, b impl.Breaker, r impl.Rules, now int64) {
	t.Helper()
	if got := turnWanted(b, r, now); got != impl.OK {
		t.Fatalf("%s: %+v, %+v, %d has the code %d", what, b, r, now, got)
	}
	checkAllow(t, what, b, r, now, allowWanted(b, r, now))
	for _, good := range goodOrBad {
		checkNote(t, what, b, r, now, good, noteWanted(b, r, now, good))
	}
}

func TestBreakerBounds(t *testing.T) {
	if impl.StateClosed != 0 || impl.StateOpen != 1 || impl.StateHalf != 2 || impl.MaxMarks != 60 || impl.MaxQuota != 5 {
		t.Error("constants")
	}
}

// ruleField is a field of rules, with its bounds.
type ruleField struct {
	what        string
	of          func(r *impl.Rules) *int64
	least, most int64
}

func ruleFields() []ruleField {
	return []ruleField{
		{"Window", func(r *impl.Rules) *int64 { return &r.Window }, 1, 1000000},
		{"Min", func(r *impl.Rules) *int64 { return &r.Min }, 1, 50},
		{"Ratio", func(r *impl.Rules) *int64 { return &r.Ratio }, 1, 1000},
		{"Cool", func(r *impl.Rules) *int64 { return &r.Cool }, 0, 1000000},
		{"Quota", func(r *impl.Rules) *int64 { return &r.Quota }, 1, 5},
	}
}

func TestRulesFault(t *testing.T) {
	if impl.RulesFault(plainRules) != impl.OK || impl.RulesFault(impl.Rules{}) != impl.ErrRange {
		t.Error("plain rules, or none")
	}
	if got := impl.RulesFault(impl.Rules{Window: 1, Min: 1, Ratio: 1, Quota: 1}); got != impl.OK {
		t.Errorf("the least rules have the code %d", got)
	}
	if got := impl.RulesFault(impl.Rules{Window: 1000000, Min: 50, Ratio: 1000, Cool: 1000000, Quota: 5}); got != impl.OK {
		t.Errorf("the greatest rules have the code %d", got)
	}
	for _, field := range ruleFields() {
		numbers := append([]int64{field.least - 1, field.least, field.least + 1, field.most - 1, field.most, field.most + 1}, edgeNumbers...)
		for _, n := range numbers {
			r, want := plainRules, int64(impl.ErrRange)
			*field.of(&r) = n
			if n >= field.least && n <= field.most {
				want = impl.OK
			}
			if got := impl.RulesFault(r); got != want {
				t.Errorf("%s of %d: the code %d, want %d", field.what, n, got, want)
			}
			if got := impl.RunTraces(r, nil); !sameStates(got, impl.StatesResult{Code: want}) {
				t.Errorf("%s of %d: RunTraces of nothing = %+v, want the code %d", field.what, n, got, want)
			}
		}
	}
}

func checkBreakerCode(t *testing.T, what string, b impl.Breaker, want int64) {
	t.Helper()
	if got := impl.BreakerFault(b); got != want {
		t.Errorf("%s: BreakerFault(%+v) = %d, want %d", what, b, got, want)
	}
	if got := impl.BadIn(b); want != impl.OK && got != (impl.IntResult{Code: want}) {
		t.Errorf("%s: BadIn(%+v) = %+v, want the code %d", what, b, got, want)
	}
}

func TestBreakerFaultNumbers(t *testing.T) {
	checkBreakerCode(t, "a new one", impl.Breaker{}, impl.OK)
	checkBreakerCode(t, "a new one with an empty list", impl.Breaker{Marks: []impl.Mark{}}, impl.OK)
	for _, n := range append([]int64{3, 4, 5, 6, 7, 255, 256, 258}, edgeNumbers...) {
		stateCode, sinceCode, outCode := int64(impl.ErrRange), int64(impl.ErrRange), int64(impl.ErrRange)
		if n == 0 || n == 1 || n == 2 {
			stateCode = impl.OK
		}
		if isTime(n) {
			sinceCode = impl.OK
		}
		if n >= 0 && n <= 5 {
			outCode = impl.OK
		}
		checkBreakerCode(t, "State", impl.Breaker{State: n}, stateCode)
		for state := range int64(3) {
			checkBreakerCode(t, "Since", impl.Breaker{State: state, Since: n}, sinceCode)
		}
		checkBreakerCode(t, "Out", halfWith(7, n), outCode)
	}
}

func TestBreakerFaultOfMarks(t *testing.T) {
	for count := range 64 {
		want := int64(impl.OK)
		if count > 60 {
			want = impl.ErrMany
		}
		checkBreakerCode(t, "so many marks", closedWith(0, make([]impl.Mark, count)...), want)
	}
	checkBreakerCode(t, "very many marks", closedWith(0, make([]impl.Mark, 100000)...), impl.ErrMany)
	for _, n := range edgeNumbers {
		want := int64(impl.ErrRange)
		if isTime(n) {
			want = impl.OK
		}
		checkBreakerCode(t, "one mark", closedWith(0, goodAt(n)...), want)
		checkBreakerCode(t, "the first mark", closedWith(0, goodAt(n, impl.MaxTime, impl.MaxTime)...), want)
		checkBreakerCode(t, "the last mark", closedWith(0, goodAt(0, 0, n)...), want)
	}
	for _, row := range []struct {
		times []int64
		want  int64
	}{
		{[]int64{0, 0}, impl.OK}, {[]int64{5, 5, 5}, impl.OK}, {[]int64{0, 1, 2}, impl.OK}, {[]int64{0, impl.MaxTime}, impl.OK}, {[]int64{impl.MaxTime, impl.MaxTime}, impl.OK},
		{[]int64{1, 0}, impl.ErrForm}, {[]int64{5, 6, 5}, impl.ErrForm}, {[]int64{5, 4, 6}, impl.ErrForm}, {[]int64{0, 0, 1, 0}, impl.ErrForm}, {[]int64{impl.MaxTime, 0}, impl.ErrForm},
		{[]int64{5, 9, 7, 8}, impl.ErrForm}, {[]int64{3, 2, 1}, impl.ErrForm},
		// A time that is none is asked of all marks ahead of their order.
		{[]int64{5, 4, impl.MaxTime + 1}, impl.ErrRange}, {[]int64{5, 4, -1}, impl.ErrRange}, {[]int64{-1, 5, 4}, impl.ErrRange}, {[]int64{math.MinInt64, math.MaxInt64}, impl.ErrRange},
	} {
		checkBreakerCode(t, "times", closedWith(0, goodAt(row.times...)...), row.want)
		// Since and the marks do not tell of each other.
		checkBreakerCode(t, "times ahead of Since", closedWith(impl.MaxTime, goodAt(row.times...)...), row.want)
	}
}

func TestBreakerFaultOfStates(t *testing.T) {
	for state := range int64(3) {
		for out := range int64(6) {
			for count := range 3 {
				want := int64(impl.OK)
				if count > 0 && state != impl.StateClosed || out > 0 && state != impl.StateHalf {
					want = impl.ErrState
				}
				checkBreakerCode(t, "marks and Out", impl.Breaker{State: state, Out: out, Marks: marked(3, "gb"[:count])}, want)
			}
		}
	}
}

type breakerTurn struct {
	what string
	turn func(b *impl.Breaker)
	want int64
}

// breakerTurns give a closed breaker of two marks a fault, in the order in which they are asked.
func breakerTurns() []breakerTurn {
	return []breakerTurn{
		{"state below", func(b *impl.Breaker) { b.State = -1 }, impl.ErrRange},
		{"state above", func(b *impl.Breaker) { b.State = 3 }, impl.ErrRange},
		{"since below", func(b *impl.Breaker) { b.Since = -1 }, impl.ErrRange},
		{"since above", func(b *impl.Breaker) { b.Since = impl.MaxTime + 1 }, impl.ErrRange},
		{"out below", func(b *impl.Breaker) { b.Out = -1 }, impl.ErrRange},
		{"out above", func(b *impl.Breaker) { b.Out = 6 }, impl.ErrRange},
		{"many", func(b *impl.Breaker) { b.Marks = append(b.Marks, make([]impl.Mark, 59)...) }, impl.ErrMany},
		{"mark below", func(b *impl.Breaker) { b.Marks[1].At = -1 }, impl.ErrRange},
		{"mark above", func(b *impl.Breaker) { b.Marks[0].At = math.MaxInt64 }, impl.ErrRange},
		{"falling", func(b *impl.Breaker) { b.Marks[0].At, b.Marks[1].At = 9, 8 }, impl.ErrForm},
		{"open with marks", func(b *impl.Breaker) { b.State = impl.StateOpen }, impl.ErrState},
		{"half with marks", func(b *impl.Breaker) { b.State = impl.StateHalf }, impl.ErrState},
		{"closed with tries", func(b *impl.Breaker) { b.Out = 1 }, impl.ErrState},
	}
}

// Those that stand ahead are applied last, so that a later fault does not hide them; of each pair the one with the
// earlier code is told.
func TestBreakerFaultInOrder(t *testing.T) {
	turns := breakerTurns()
	// Two that turn the same field leave only the one that is applied last.
	field := []string{"state", "state", "since", "since", "out", "out", "many", "marks", "marks", "marks", "state", "state", "out"}
	for first := range turns {
		for later := first; later < len(turns); later++ {
			if later != first && field[first] == field[later] {
				continue
			}
			b := closedWith(5, marked(7, "gb")...)
			turns[later].turn(&b)
			turns[first].turn(&b)
			checkBreakerCode(t, turns[first].what+" ahead of "+turns[later].what, b, turns[first].want)
			checkTurnCode(t, turns[first].what+" ahead of "+turns[later].what, b, plainRules, 10, turns[first].want)
		}
	}
}

// The fault of a breaker is asked ahead of that of the rules, and both ahead of the time.
func TestTurnCodesInOrder(t *testing.T) {
	for _, turn := range breakerTurns() {
		b := closedWith(5, marked(7, "gb")...)
		turn.turn(&b)
		for _, now := range []int64{-1, 0, 5, 6, 7, 10, impl.MaxTime, impl.MaxTime + 1} {
			checkTurnCode(t, turn.what+" and wrong rules", b, impl.Rules{}, now, turn.want)
			checkTurnCode(t, turn.what, b, plainRules, now, turn.want)
		}
	}
	for _, field := range ruleFields() {
		for _, n := range []int64{field.least - 1, field.most + 1, math.MinInt64, math.MaxInt64} {
			r := plainRules
			*field.of(&r) = n
			for _, b := range []impl.Breaker{{}, closedWith(5, marked(7, "gb")...), openSince(5), halfWith(5, 1)} {
				for _, now := range []int64{-1, 0, 7, 5000, impl.MaxTime} {
					checkTurnCode(t, field.what+" of the rules", b, r, now, impl.ErrRange)
				}
			}
		}
	}
	// A code of the breaker that is not that of the rules tells which is asked first.
	if got := impl.AllowFetch(impl.Breaker{Out: 1}, impl.Rules{}, -1).Code; got != impl.ErrState {
		t.Errorf("the code %d is told", got)
	}
}

func TestTurnTimes(t *testing.T) {
	for _, b := range []impl.Breaker{{}, closedWith(50), openSince(50), halfWith(50, 0), halfWith(50, 5), closedWith(50, goodAt(20, 30)...)} {
		for _, now := range edgeNumbers {
			if isTime(now) && now >= b.Since {
				checkTurns(t, "a time", b, plainRules, now)
			} else {
				checkTurnCode(t, "no time, or below Since", b, plainRules, now, impl.ErrRange)
			}
		}
	}
	for _, b := range []impl.Breaker{closedWith(50), openSince(50), halfWith(50, 1), closedWith(50, goodAt(20, 30)...)} {
		checkTurnCode(t, "far below Since", b, plainRules, 0, impl.ErrRange)
		checkTurnCode(t, "below Since", b, plainRules, 49, impl.ErrRange)
		checkTurns(t, "at Since", b, plainRules, 50)
		checkTurns(t, "above Since", b, plainRules, 51)
	}
	// Of several marks the latest one tells, wherever Since is.
	for _, since := range []int64{0, 40, 59, 60} {
		for _, times := range [][]int64{{60}, {10, 60}, {60, 60}, {10, 20, 60, 60}} {
			b := closedWith(since, goodAt(times...)...)
			checkTurnCode(t, "below the At of a mark", b, plainRules, 59, impl.ErrRange)
			checkTurns(t, "the same as the At of a mark", b, plainRules, 60)
			checkTurns(t, "above the At of a mark", b, plainRules, 61)
		}
	}
	last := closedWith(impl.MaxTime, goodAt(impl.MaxTime)...)
	checkTurnCode(t, "below the greatest time", last, plainRules, impl.MaxTime-1, impl.ErrRange)
	checkTurnCode(t, "above the greatest time", last, plainRules, impl.MaxTime+1, impl.ErrRange)
	checkTurns(t, "at the greatest time", last, plainRules, impl.MaxTime)
}

func TestBadIn(t *testing.T) {
	for _, row := range []struct {
		letters string
		want    int64
	}{{"", 0}, {"g", 0}, {"b", 1}, {"gb", 1}, {"bg", 1}, {"bbb", 3}, {"gggg", 0}, {"bgbgb", 3}} {
		if got := impl.BadIn(closedWith(9, marked(4, row.letters)...)); got != (impl.IntResult{Value: row.want}) {
			t.Errorf("BadIn of %q = %+v, want %d", row.letters, got, row.want)
		}
	}
	for bad := range 61 {
		marks := append(make([]impl.Mark, bad), marked(0, "gggggggggggggggggggggggggggggggggggggggggggggggggggggggggggg"[bad:])...)
		if got := impl.BadIn(closedWith(0, marks...)); got != (impl.IntResult{Value: int64(bad)}) {
			t.Errorf("%d of %d are bad, and %+v is told", bad, len(marks), got)
		}
	}
	for _, b := range []impl.Breaker{openSince(3), halfWith(3, 2)} {
		if got := impl.BadIn(b); got != (impl.IntResult{}) {
			t.Errorf("BadIn(%+v) = %+v", b, got)
		}
	}
}

// A closed one allows at any time, and nothing of it changes: marks that do not count any more stay, and so do bad ones.
func TestAllowClosed(t *testing.T) {
	for _, b := range []impl.Breaker{{}, closedWith(10), closedWith(10, marked(10, "g")...), closedWith(3, marked(10, "bbbbbb")...), closedWith(0, make([]impl.Mark, 60)...)} {
		for _, now := range []int64{10, 11, 1009, 1010, 1011, 500000, impl.MaxTime} {
			checkAllow(t, "closed", b, plainRules, now, impl.AllowResult{Breaker: b, Allowed: true})
		}
	}
}

func TestAllowOpen(t *testing.T) {
	for _, since := range []int64{0, 1, 700, impl.MaxTime - 1000000} {
		for _, cool := range []int64{1, 2, 500, 999999, 1000000} {
			r, b := plainRules, openSince(since)
			r.Cool = cool
			still := impl.AllowResult{Breaker: b}
			checkAllow(t, "just opened", b, r, since, still)
			checkAllow(t, "just ahead of the end of Cool", b, r, since+cool-1, still)
			tried := impl.AllowResult{Breaker: halfWith(since, 1), Allowed: true}
			checkAllow(t, "at the end of Cool", b, r, since+cool, tried)
			if since+cool < impl.MaxTime {
				checkAllow(t, "just behind the end of Cool", b, r, since+cool+1, tried)
			}
			checkAllow(t, "at the greatest time", b, r, impl.MaxTime, tried)
		}
		r := plainRules
		r.Cool = 0
		checkAllow(t, "no Cool", openSince(since), r, since, impl.AllowResult{Breaker: halfWith(since, 1), Allowed: true})
	}
	// Near the greatest time the end of Cool may be beyond all times.
	checkAllow(t, "it never cools", openSince(impl.MaxTime), plainRules, impl.MaxTime, impl.AllowResult{Breaker: openSince(impl.MaxTime)})
	checkAllow(t, "it just does not cool", openSince(impl.MaxTime-499), plainRules, impl.MaxTime, impl.AllowResult{Breaker: openSince(impl.MaxTime - 499)})
	checkAllow(t, "it just cools", openSince(impl.MaxTime-500), plainRules, impl.MaxTime, impl.AllowResult{Breaker: halfWith(impl.MaxTime-500, 1), Allowed: true})
	// Neither the Window nor the Quota tells of an open one.
	checkAllow(t, "a quota of one", openSince(0), impl.Rules{Window: 1, Min: 50, Ratio: 1000, Cool: 5, Quota: 1}, 5, impl.AllowResult{Breaker: halfWith(0, 1), Allowed: true})
}

func TestAllowHalf(t *testing.T) {
	for quota := int64(1); quota <= 5; quota++ {
		for out := range int64(6) {
			r, b := plainRules, halfWith(30, out)
			r.Quota = quota
			want := impl.AllowResult{Breaker: b}
			if out < quota {
				want = impl.AllowResult{Breaker: halfWith(30, out+1), Allowed: true}
			}
			// Time does not tell of one that is half, nor does Cool.
			for _, now := range []int64{30, 31, 529, 530, 100000, impl.MaxTime} {
				checkAllow(t, "half", b, r, now, want)
			}
		}
	}
	checkAllow(t, "below its quota", halfWith(0, 1), plainRules, 0, impl.AllowResult{Breaker: halfWith(0, 2), Allowed: true})
	checkAllow(t, "at its quota", halfWith(0, 2), plainRules, 0, impl.AllowResult{Breaker: halfWith(0, 2)})
	checkAllow(t, "above its quota", halfWith(0, 5), plainRules, 0, impl.AllowResult{Breaker: halfWith(0, 5)})
}

// lenient rules open nothing that has a good outcome among its marks.
func lenient(window int64) impl.Rules {
	return impl.Rules{Window: window, Min: 50, Ratio: 1000, Cool: 500, Quota: 1}
}

func checkTimesLeft(t *testing.T, what string, before []int64, window, now int64, left ...int64) {
	t.Helper()
	for _, since := range []int64{0, 5} {
		for _, good := range goodOrBad {
			want := append(goodAt(left...), impl.Mark{At: now, Good: good})
			checkNote(t, what, closedWith(since, goodAt(before...)...), lenient(window), now, good, impl.BreakerResult{Breaker: closedWith(since, want...)})
		}
	}
}

func TestNoteWindow(t *testing.T) {
	checkTimesLeft(t, "nothing there", nil, 1000, 5)
	checkTimesLeft(t, "the same time", []int64{5}, 1000, 5, 5)
	checkTimesLeft(t, "the same time, and the least window", []int64{5, 5}, 1, 5, 5, 5)
	checkTimesLeft(t, "a thousandth later, and the least window", []int64{5, 5}, 1, 6)
	for _, window := range []int64{2, 1000, 3000, 999999, 1000000} {
		checkTimesLeft(t, "the window ends just now", []int64{100}, window, 100+window)
		checkTimesLeft(t, "a thousandth ahead of its end", []int64{100}, window, 99+window, 100)
		checkTimesLeft(t, "a thousandth behind its end", []int64{100}, window, 101+window)
		checkTimesLeft(t, "a second behind its end", []int64{100}, window, 1100+window)
		checkTimesLeft(t, "of three the one in the middle ends just now", []int64{99, 100, 101}, window, 100+window, 101)
		checkTimesLeft(t, "several of a time end just now", []int64{100, 100, 100, 102}, window, 100+window, 102)
		checkTimesLeft(t, "all end", []int64{97, 98, 99, 100}, window, 100+window)
		checkTimesLeft(t, "none ends", []int64{100, 100, 100 + window - 1}, window, 99+window, 100, 100, 99+window)
	}
	checkTimesLeft(t, "a second ahead of its end", []int64{100, 1100, 2100}, 3000, 2100, 100, 1100, 2100)
	checkTimesLeft(t, "a second earlier, just now, a second later", []int64{1000, 2000, 3000}, 5000, 7000, 3000)
	// No sum goes beyond the greatest time: there all windows end.
	checkTimesLeft(t, "just ahead of the greatest time", []int64{impl.MaxTime - 1, impl.MaxTime - 1}, 1000, impl.MaxTime-1, impl.MaxTime-1, impl.MaxTime-1)
	checkTimesLeft(t, "at the greatest time", []int64{impl.MaxTime - 1, impl.MaxTime, impl.MaxTime}, 1000, impl.MaxTime)
	checkTimesLeft(t, "at the greatest time, and the least window", []int64{impl.MaxTime}, 1, impl.MaxTime)
	checkTimesLeft(t, "at the greatest time, and the greatest window", []int64{0, impl.MaxTime}, 1000000, impl.MaxTime)
}

// Bad marks whose window is over do not open a breaker any more, and good ones do not keep it closed.
func TestNoteWhatCounts(t *testing.T) {
	r := impl.Rules{Window: 1000, Min: 3, Ratio: 600, Cool: 500, Quota: 1}
	bads := closedWith(0, marked(100, "bb")...)
	checkNote(t, "bad ones count", bads, r, 1099, false, impl.BreakerResult{Breaker: openSince(1099)})
	checkNote(t, "bad ones end just now", bads, r, 1100, false, impl.BreakerResult{Breaker: closedWith(0, marked(1100, "b")...)})
	goods := closedWith(0, append(marked(100, "ggg"), marked(500, "bb")...)...)
	checkNote(t, "good ones count", goods, r, 1099, false, impl.BreakerResult{Breaker: closedWith(0, append(slices.Clone(goods.Marks), marked(1099, "b")...)...)})
	checkNote(t, "good ones end just now", goods, r, 1100, false, impl.BreakerResult{Breaker: openSince(1100)})
}

func TestNoteBeyondMaxMarks(t *testing.T) {
	for _, count := range []int{0, 1, 58, 59, 60} {
		for _, good := range goodOrBad {
			var marks []impl.Mark
			for at := range count {
				marks = append(marks, impl.Mark{At: int64(at), Good: at%3 != 0})
			}
			want := append(slices.Clone(marks), impl.Mark{At: 99, Good: good})
			if count == 60 {
				want = want[1:]
			}
			checkNote(t, "so many marks", closedWith(2, marks...), lenient(1000), 99, good, impl.BreakerResult{Breaker: closedWith(2, want...)})
		}
	}
	// What goes by its window goes ahead of what goes for want of room.
	marks := append(goodAt(0), goodAt(slices.Repeat([]int64{50}, 59)...)...)
	checkNote(t, "one ends just now, and there is room", closedWith(0, marks...), lenient(100), 100, true, impl.BreakerResult{Breaker: closedWith(0, append(slices.Clone(marks[1:]), goodAt(100)...)...)})
	// The first one goes ahead of asking how many are bad.
	exact := impl.Rules{Window: 1000, Min: 50, Ratio: 500, Cool: 0, Quota: 1}
	thirty := append(append(marked(1, "b"), goodAt(slices.Repeat([]int64{2}, 30)...)...), slices.Repeat(marked(3, "b"), 29)...)
	checkNote(t, "a bad one goes, a bad one comes", closedWith(0, thirty...), exact, 4, false, impl.BreakerResult{Breaker: openSince(4)})
	checkNote(t, "a bad one goes, a good one comes", closedWith(0, thirty...), exact, 4, true, impl.BreakerResult{Breaker: closedWith(0, append(slices.Clone(thirty[1:]), goodAt(4)...)...)})
	few := append(append(marked(1, "g"), goodAt(slices.Repeat([]int64{2}, 30)...)...), slices.Repeat(marked(3, "b"), 29)...)
	checkNote(t, "a good one goes, a bad one comes", closedWith(0, few...), exact, 4, false, impl.BreakerResult{Breaker: openSince(4)})
	// The share of the bad ones is not rounded.
	just := impl.Rules{Window: 1000, Min: 1, Ratio: 17, Cool: 0, Quota: 1}
	one := append(goodAt(slices.Repeat([]int64{2}, 59)...), marked(3, "g")...)
	checkNote(t, "one of sixty is 16.6 thousandths", closedWith(0, one...), just, 4, false, impl.BreakerResult{Breaker: closedWith(0, append(slices.Clone(one[1:]), marked(4, "b")...)...)})
	just.Ratio = 16
	checkNote(t, "one of sixty is not below 16", closedWith(0, one...), just, 4, false, impl.BreakerResult{Breaker: openSince(4)})
}

func TestNoteMinAndRatio(t *testing.T) {
	for _, row := range []struct {
		min, ratio int64
		before     string
		good       bool
		opens      bool
	}{
		// Just below Min and just at it.
		{1, 1000, "", false, true}, {2, 1000, "", false, false}, {2, 1000, "b", false, true}, {3, 1000, "b", false, false}, {3, 1, "bb", false, true}, {4, 1, "bb", false, false},
		{50, 1, "bbbbbbbbbbbbbbbbbbbbbbbbbbbbbbbbbbbbbbbbbbbbbbbb", false, false}, {50, 1, "bbbbbbbbbbbbbbbbbbbbbbbbbbbbbbbbbbbbbbbbbbbbbbbbb", false, true},
		// Just below Ratio and just at it.
		{2, 500, "g", false, true}, {2, 501, "g", false, false}, {3, 500, "gg", false, false}, {4, 500, "ggb", false, true}, {4, 501, "ggb", false, false},
		{3, 333, "gg", false, true}, {3, 334, "gg", false, false}, {3, 666, "gb", false, true}, {3, 667, "gb", false, false},
		{1, 1000, "g", false, false}, {1, 1000, "bbb", false, true}, {1, 999, "gbbb", false, false}, {1, 800, "gbbb", false, true}, {1, 801, "gbbb", false, false},
		{1, 100, "ggggggggg", false, true}, {1, 101, "ggggggggg", false, false}, {1, 1, "ggggggggggggggggggggggggggggggggggggggggggggggggggggggggggg", false, true},
		// Good outcomes alone open nothing, however small the Ratio is.
		{1, 1, "", true, false}, {1, 1, "ggg", true, false}, {50, 1, "ggg", true, false},
		// A good one may be what is missing to Min.
		{2, 500, "b", true, true}, {2, 501, "b", true, false}, {3, 600, "bb", true, true}, {3, 667, "bb", true, false}, {4, 1, "bb", true, false},
	} {
		b := closedWith(3, marked(7, row.before)...)
		r := impl.Rules{Window: 1000, Min: row.min, Ratio: row.ratio, Cool: 5, Quota: 1}
		want := impl.BreakerResult{Breaker: closedWith(3, append(marked(7, row.before), impl.Mark{At: 8, Good: row.good})...)}
		if row.opens {
			want = impl.BreakerResult{Breaker: openSince(8)}
		}
		checkNote(t, fmt.Sprintf("%+v", row), b, r, 8, row.good, want)
	}
}

func TestNoteHalf(t *testing.T) {
	for out := range int64(6) {
		for _, now := range []int64{30, 31, 529, 530, 100000, impl.MaxTime} {
			for _, r := range []impl.Rules{plainRules, lenient(1), {Window: 1, Min: 1, Ratio: 1, Cool: 0, Quota: 1}} {
				checkNote(t, "a good try", halfWith(30, out), r, now, true, impl.BreakerResult{Breaker: closedWith(30)})
				checkNote(t, "a bad try", halfWith(30, out), r, now, false, impl.BreakerResult{Breaker: openSince(now)})
			}
		}
	}
}

func TestNoteOpen(t *testing.T) {
	for _, good := range goodOrBad {
		for _, now := range []int64{30, 31, 529, 530, 531, 100000, impl.MaxTime} {
			checkNote(t, "an open one", openSince(30), plainRules, now, good, impl.BreakerResult{Breaker: openSince(30)})
			checkNote(t, "an open one without Cool", openSince(30), impl.Rules{Window: 1, Min: 1, Ratio: 1, Cool: 0, Quota: 1}, now, good, impl.BreakerResult{Breaker: openSince(30)})
		}
	}
}

// tracesOf reads a letter and a time each: a asks, g and b are outcomes.
func tracesOf(letters string, times ...int64) []impl.Trace {
	var list []impl.Trace
	for i, letter := range letters {
		list = append(list, impl.Trace{At: times[i], Ask: letter == 'a', Good: letter == 'g'})
	}
	return list
}

func checkTraces(t *testing.T, what string, r impl.Rules, list []impl.Trace, want impl.StatesResult) {
	t.Helper()
	if got := impl.RunTraces(r, list); !sameStates(got, want) {
		t.Errorf("%s: RunTraces(%+v, %+v) = %+v, want %+v", what, r, list, got, want)
	}
}

func TestRunTraces(t *testing.T) {
	checkTraces(t, "nothing", plainRules, nil, impl.StatesResult{})
	checkTraces(t, "an empty list", plainRules, []impl.Trace{}, impl.StatesResult{})
	checkTraces(t, "one ask", plainRules, tracesOf("a", 0), impl.StatesResult{States: []int64{0}, Allowed: []bool{true}})
	checkTraces(t, "one outcome", plainRules, tracesOf("b", 0), impl.StatesResult{States: []int64{0}, Allowed: []bool{false}})
	checkTraces(t, "through all states", plainRules, tracesOf("agbaaaaagabb", 0, 0, 10, 10, 509, 510, 510, 510, 600, 600, 700, 700), impl.StatesResult{
		States:  []int64{0, 0, 1, 1, 1, 2, 2, 2, 0, 0, 0, 1},
		Allowed: []bool{true, false, false, false, false, true, true, false, false, true, false, false},
	})
	checkTraces(t, "a bad try", plainRules, tracesOf("bbaabaa", 0, 0, 499, 500, 600, 1099, 1100), impl.StatesResult{
		States: []int64{0, 1, 1, 2, 1, 1, 2}, Allowed: []bool{false, false, false, true, false, false, true},
	})
	// The window of the first one ends just now, and a thousandth later.
	checkTraces(t, "a window that ends", plainRules, tracesOf("bbb", 0, 1000, 1999), impl.StatesResult{States: []int64{0, 0, 1}, Allowed: make([]bool, 3)})
	checkTraces(t, "a window that has not ended", plainRules, tracesOf("bb", 0, 999), impl.StatesResult{States: []int64{0, 1}, Allowed: make([]bool, 2)})
	// What an Ask has as Good tells nothing, and that an outcome is told of an open one neither.
	asks := []impl.Trace{{At: 0}, {At: 0}, {At: 500, Ask: true, Good: true}, {At: 500, Ask: true}, {At: 500, Ask: true, Good: true}}
	checkTraces(t, "an Ask that is Good", plainRules, asks, impl.StatesResult{States: []int64{0, 1, 2, 2, 2}, Allowed: []bool{false, false, true, true, false}})
	checkTraces(t, "outcomes of an open one", plainRules, tracesOf("bbgbga", 0, 0, 100, 200, 300, 500), impl.StatesResult{
		States: []int64{0, 1, 1, 1, 1, 2}, Allowed: []bool{false, false, false, false, false, true},
	})
}

func TestRunTracesCounts(t *testing.T) {
	for _, count := range []int{1, 2, 59, 60, 61, 99, 100} {
		asks, goods := make([]impl.Trace, count), make([]impl.Trace, count)
		for i := range count {
			asks[i], goods[i] = impl.Trace{At: int64(i), Ask: true}, impl.Trace{At: int64(i), Good: true}
		}
		checkTraces(t, "asks", plainRules, asks, impl.StatesResult{States: make([]int64, count), Allowed: slices.Repeat([]bool{true}, count)})
		checkTraces(t, "good outcomes", plainRules, goods, impl.StatesResult{States: make([]int64, count), Allowed: make([]bool, count)})
	}
	for _, count := range []int{101, 102, 200, 100000} {
		checkTraces(t, "too many", plainRules, make([]impl.Trace, count), impl.StatesResult{Code: impl.ErrMany})
		checkTraces(t, "too many, and wrong times", plainRules, slices.Repeat([]impl.Trace{{At: -1}}, count), impl.StatesResult{Code: impl.ErrMany})
		checkTraces(t, "too many, and wrong rules", impl.Rules{}, make([]impl.Trace, count), impl.StatesResult{Code: impl.ErrRange})
	}
}

func TestRunTracesCodes(t *testing.T) {
	wrong := impl.StatesResult{Code: impl.ErrRange}
	for place := range 100 {
		for _, at := range []int64{-1, impl.MaxTime + 1, math.MinInt64, math.MaxInt64} {
			list := make([]impl.Trace, 100)
			for i := range list {
				list[i] = impl.Trace{At: int64(i), Ask: i%2 == 0, Good: true}
			}
			list[place].At = at
			checkTraces(t, "no time in between", plainRules, list, wrong)
		}
	}
	checkTraces(t, "an outcome below a mark", plainRules, tracesOf("gg", 5, 4), wrong)
	checkTraces(t, "an outcome at a mark", plainRules, tracesOf("gg", 5, 5), impl.StatesResult{States: make([]int64, 2), Allowed: make([]bool, 2)})
	checkTraces(t, "an ask below a mark", plainRules, tracesOf("ga", 5, 4), wrong)
	checkTraces(t, "an ask below Since", plainRules, tracesOf("bba", 5, 5, 4), wrong)
	checkTraces(t, "an outcome below Since of an open one", plainRules, tracesOf("bbg", 5, 5, 4), wrong)
	checkTraces(t, "a code behind much that is right", plainRules, tracesOf("gabbaaga", 0, 0, 1, 2, 3, 600, 601, 0), wrong)
	// A good try leaves Since as it was: that is when the breaker was opened.
	checkTraces(t, "earlier than a good try", plainRules, tracesOf("bbaga", 1, 1, 600, 601, 1), impl.StatesResult{States: []int64{0, 1, 2, 0, 0}, Allowed: []bool{false, false, true, false, true}})
	checkTraces(t, "earlier than a bad try", plainRules, tracesOf("bbaba", 1, 1, 600, 601, 600), wrong)
	// An ask leaves no time behind: what comes behind it may be earlier.
	checkTraces(t, "earlier than an ask", plainRules, tracesOf("aag", 9, 3, 0), impl.StatesResult{States: make([]int64, 3), Allowed: []bool{true, true, false}})
	checkTraces(t, "between the marks that opened it", plainRules, tracesOf("bba", 3, 8, 7), wrong)
}

func TestSameBreakers(t *testing.T) {
	made := func() impl.Breaker { return impl.Breaker{State: 1, Since: 2, Out: 3, Marks: marked(4, "gb")} }
	turns := []func(b *impl.Breaker){
		func(b *impl.Breaker) { b.State++ }, func(b *impl.Breaker) { b.Since-- }, func(b *impl.Breaker) { b.Out++ }, func(b *impl.Breaker) { b.Marks = nil },
		func(b *impl.Breaker) { b.Marks = b.Marks[:1] }, func(b *impl.Breaker) { b.Marks = b.Marks[1:] }, func(b *impl.Breaker) { slices.Reverse(b.Marks) },
		func(b *impl.Breaker) { b.Marks = append(b.Marks, impl.Mark{}) }, func(b *impl.Breaker) { b.Marks = append([]impl.Mark{{}}, b.Marks...) },
		func(b *impl.Breaker) { b.Marks[0].At++ }, func(b *impl.Breaker) { b.Marks[1].At-- },
		func(b *impl.Breaker) { b.Marks[0].Good = false }, func(b *impl.Breaker) { b.Marks[1].Good = true },
	}
	if !impl.SameBreakers(made(), made()) {
		t.Error("the same breakers are not the same")
	}
	for i, turn := range turns {
		a, b := made(), made()
		turn(&b)
		if impl.SameBreakers(a, b) || impl.SameBreakers(b, a) {
			t.Errorf("turn %d: they are the same", i)
		}
		turn(&a)
		if !impl.SameBreakers(a, b) {
			t.Errorf("turn %d: they are not the same", i)
		}
	}
	if !impl.SameBreakers(impl.Breaker{}, impl.Breaker{Marks: []impl.Mark{}}) {
		t.Error("nothing and an empty list are not the same")
	}
	// Faults do not tell.
	for _, wrong := range []impl.Breaker{{State: -1}, {State: 7, Since: math.MinInt64}, {Out: 9}, closedWith(0, make([]impl.Mark, 500)...), closedWith(0, goodAt(9, 3, -1)...)} {
		if !impl.SameBreakers(wrong, wrong) || impl.SameBreakers(wrong, impl.Breaker{}) {
			t.Errorf("a breaker with a fault: %+v", wrong)
		}
	}
}

// chosenRules have small spans, which meet each other often; now and then one is at a bound, and none is wrong.
func chosenRules(source *rand.Rand) impl.Rules {
	r := impl.Rules{Window: 1 + source.Int63n(12), Min: 1 + source.Int63n(5), Cool: source.Int63n(8), Quota: 1 + source.Int63n(5)}
	r.Ratio = []int64{1, 200, 250, 333, 334, 500, 501, 666, 667, 750, 999, 1000}[source.Intn(12)]
	switch source.Intn(12) {
	case 0:
		r.Window = 1000000
	case 1:
		r.Min = 50
	case 2:
		r.Cool = 1000000
	case 3:
		r.Ratio = 1 + source.Int63n(1000)
	}
	return r
}

// chosenBreaker has no fault; its times stand near each other, at times near the greatest one.
func chosenBreaker(source *rand.Rand) impl.Breaker {
	at := source.Int63n(20)
	if source.Intn(6) == 0 {
		at = impl.MaxTime - 10 - source.Int63n(20)
	}
	b := impl.Breaker{State: source.Int63n(3), Since: at + source.Int63n(10)}
	switch b.State {
	case impl.StateHalf:
		b.Out = source.Int63n(6)
	case impl.StateClosed:
		count, bads := source.Intn(9), 1+source.Intn(6)
		if source.Intn(4) == 0 {
			count = 57 + source.Intn(4)
		}
		for range count {
			b.Marks = append(b.Marks, impl.Mark{At: at, Good: source.Intn(bads) != 0})
			if source.Intn(2) == 0 && at < impl.MaxTime-10 {
				at += source.Int63n(1 + 24/int64(count+1))
			}
		}
	}
	return b
}

// turnTime stands at or near where something of a breaker ends.
func turnTime(source *rand.Rand, b impl.Breaker, r impl.Rules) int64 {
	if source.Intn(12) == 0 {
		return edgeNumbers[source.Intn(len(edgeNumbers))]
	}
	at, behind := b.Since, r.Cool
	if len(b.Marks) > 0 {
		at, behind = b.Marks[source.Intn(len(b.Marks))].At, r.Window
	}
	if source.Intn(3) == 0 {
		behind = 0
	}
	return max(at, b.Since) + behind + source.Int63n(5) - 1
}

// turnWrongly gives a breaker or its rules what is most likely a fault.
func turnWrongly(source *rand.Rand, b *impl.Breaker, r *impl.Rules) {
	n := edgeNumbers[source.Intn(len(edgeNumbers))]
	switch source.Intn(8) {
	case 0:
		b.State = n
	case 1:
		b.Since = n
	case 2:
		b.Out = []int64{n, 1, 6}[source.Intn(3)]
	case 3:
		b.State = source.Int63n(3)
	case 4:
		b.Marks = append(b.Marks, impl.Mark{At: n})
	case 5:
		b.Marks = append(b.Marks, make([]impl.Mark, 56)...)
	case 6:
		slices.Reverse(b.Marks)
	case 7:
		*ruleFields()[source.Intn(5)].of(r) = n
	}
}

// chosenTraces go on in time, in small steps; one time in about so many is another one (never, where that is 0).
func chosenTraces(source *rand.Rand, wrong int) []impl.Trace {
	count, at, asks, bads := source.Intn(30), int64(0), 2+source.Intn(3), 1+source.Intn(4)
	if source.Intn(5) == 0 {
		count = 98 + source.Intn(4)
	}
	if wrong == 0 {
		count = min(count, 100)
	}
	list := make([]impl.Trace, count)
	for i := range list {
		at += max(0, source.Int63n(6)-2)
		list[i] = impl.Trace{At: at, Ask: source.Intn(asks) == 0, Good: source.Intn(bads) != 0}
		if wrong > 0 && source.Intn(wrong) == 0 {
			list[i].At = []int64{at - 1, edgeNumbers[source.Intn(len(edgeNumbers))]}[source.Intn(2)]
		}
	}
	return list
}

// breakerArguments stand for a call of each function of chapter 10.
type breakerArguments struct {
	breaker, other impl.Breaker
	rules          impl.Rules
	now            int64
	traces         []impl.Trace
}

func manyBreakers(seed int64, count, wrong int) []breakerArguments {
	source := rand.New(rand.NewSource(seed))
	list := make([]breakerArguments, count)
	for i := range list {
		a := breakerArguments{breaker: chosenBreaker(source), rules: chosenRules(source), traces: chosenTraces(source, wrong*20)}
		if wrong > 0 && source.Intn(wrong) == 0 {
			turnWrongly(source, &a.breaker, &a.rules)
		}
		a.now = turnTime(source, a.breaker, a.rules)
		a.other = []impl.Breaker{a.breaker, chosenBreaker(source)}[source.Intn(2)]
		list[i] = a
	}
	return list
}

type breakerAnswers struct {
	faults [2]int64
	bad    impl.IntResult
	allow  impl.AllowResult
	notes  [2]impl.BreakerResult
	traces impl.StatesResult
	same   bool
}

func askBreaker(a breakerArguments) breakerAnswers {
	return breakerAnswers{
		faults: [2]int64{impl.RulesFault(a.rules), impl.BreakerFault(a.breaker)}, bad: impl.BadIn(a.breaker), allow: impl.AllowFetch(a.breaker, a.rules, a.now),
		notes:  [2]impl.BreakerResult{impl.NoteOutcome(a.breaker, a.rules, a.now, true), impl.NoteOutcome(a.breaker, a.rules, a.now, false)},
		traces: impl.RunTraces(a.rules, a.traces), same: impl.SameBreakers(a.breaker, a.other),
	}
}

func breakersWanted(a breakerArguments) breakerAnswers {
	return breakerAnswers{
		faults: [2]int64{rulesWanted(a.rules), breakerWanted(a.breaker)}, bad: badWanted(a.breaker), allow: allowWanted(a.breaker, a.rules, a.now),
		notes:  [2]impl.BreakerResult{noteWanted(a.breaker, a.rules, a.now, true), noteWanted(a.breaker, a.rules, a.now, false)},
		traces: tracesWanted(a.rules, a.traces), same: sameBreaker(a.breaker, a.other),
	}
}

func (a breakerAnswers) equals(b breakerAnswers) bool {
	return a.faults == b.faults && a.bad == b.bad && sameAllow(a.allow, b.allow) && slices.EqualFunc(a.notes[:], b.notes[:], sameNote) && sameStates(a.traces, b.traces) && a.same == b.same
}

func TestManyBreakers(t *testing.T) {
	codes, turns, traceCodes := map[int64]int{}, map[string]int{}, map[int64]int{}
	for i, a := range manyBreakers(57, 60000, 4) {
		got, want := askBreaker(a), breakersWanted(a)
		if !got.equals(want) {
			t.Fatalf("%d: %+v:\n%+v\nwant\n%+v", i, a, got, want)
		}
		codes[got.allow.Code]++
		traceCodes[got.traces.Code]++
		if got.allow.Code == impl.OK {
			turns[fmt.Sprintf("%d ask %t", a.breaker.State, got.allow.Allowed)]++
			turns[fmt.Sprintf("%d to %d and %d", a.breaker.State, got.notes[0].Breaker.State, got.notes[1].Breaker.State)]++
		}
	}
	for _, code := range []int64{impl.OK, impl.ErrMany, impl.ErrRange, impl.ErrForm, impl.ErrState} {
		if codes[code] < 100 {
			t.Errorf("only %d breakers told the code %d", codes[code], code)
		}
	}
	for _, turn := range []string{"0 ask true", "1 ask true", "1 ask false", "2 ask true", "2 ask false", "0 to 0 and 0", "0 to 0 and 1", "0 to 1 and 1", "1 to 1 and 1", "2 to 0 and 1"} {
		if turns[turn] < 100 {
			t.Errorf("only %d times: %s", turns[turn], turn)
		}
	}
	for _, code := range []int64{impl.OK, impl.ErrMany, impl.ErrRange} {
		if traceCodes[code] < 100 {
			t.Errorf("only %d traces told the code %d", traceCodes[code], code)
		}
	}
}

// All short traces of asks, good and bad outcomes with small steps between them.
func TestShortTraces(t *testing.T) {
	const length = 5
	for _, r := range []impl.Rules{{Window: 2, Min: 2, Ratio: 500, Cool: 1, Quota: 1}, {Window: 1, Min: 1, Ratio: 1000, Cool: 2, Quota: 2}, {Window: 3, Min: 3, Ratio: 334, Cool: 0, Quota: 1}} {
		for number := range 59049 { // nine steps, five times
			var list [length]impl.Trace
			at, rest := int64(0), number
			for i := range list {
				at += int64(rest / 3 % 3)
				list[i] = impl.Trace{At: at, Ask: rest%3 == 0, Good: rest%3 == 1}
				rest /= 9
			}
			if got, want := impl.RunTraces(r, list[:]), tracesWanted(r, list[:]); !sameStates(got, want) {
				t.Fatalf("RunTraces(%+v, %+v) = %+v, want %+v", r, list, got, want)
			}
		}
	}
}

// Traces are what the two turns of a breaker tell, one behind the other.
func TestTracesStepByStep(t *testing.T) {
	for i, a := range manyBreakers(58, 3000, 0) {
		told, b := impl.RunTraces(a.rules, a.traces), impl.Breaker{}
		if told.Code != impl.OK || len(told.States) != len(a.traces) || len(told.Allowed) != len(a.traces) {
			t.Fatalf("%d: RunTraces of %d traces = %+v", i, len(a.traces), told)
		}
		for at, trace := range a.traces {
			allowed := false
			if trace.Ask {
				ask := impl.AllowFetch(b, a.rules, trace.At)
				b, allowed = ask.Breaker, ask.Allowed
			} else {
				b = impl.NoteOutcome(b, a.rules, trace.At, trace.Good).Breaker
			}
			if impl.BreakerFault(b) != impl.OK || told.States[at] != b.State || told.Allowed[at] != allowed {
				t.Fatalf("%d: trace %d: %+v, %t, and %+v is told", i, at, b, allowed, told)
			}
		}
	}
}

// Promise 11: an open breaker allows nothing until it has cooled, whatever is noted meanwhile.
func TestPromise11OpenAllowsNothing(t *testing.T) {
	source := rand.New(rand.NewSource(59))
	for range 3000 {
		r, since := chosenRules(source), chosenTime(source)/2
		b := openSince(since)
		for now := since; now < since+min(r.Cool, 20); now++ {
			ask := impl.AllowFetch(b, r, now)
			note := impl.NoteOutcome(b, r, now, source.Intn(2) == 0)
			if ask.Code != impl.OK || ask.Allowed || !impl.SameBreakers(ask.Breaker, b) || note.Code != impl.OK || !impl.SameBreakers(note.Breaker, b) {
				t.Fatalf("%+v of %+v at %d: %+v, %+v", b, r, now, ask, note)
			}
			b = []impl.Breaker{ask.Breaker, note.Breaker}[source.Intn(2)]
		}
		if ask := impl.AllowFetch(b, r, since+r.Cool); !ask.Allowed || ask.Breaker.State != impl.StateHalf || ask.Breaker.Out != 1 {
			t.Fatalf("%+v of %+v has cooled: %+v", b, r, ask)
		}
	}
}

// Promise 11: one that is half has no more out than its quota, however often somebody asks, and just its quota if many do.
func TestPromise11HalfAllowsItsQuota(t *testing.T) {
	source := rand.New(rand.NewSource(60))
	for range 3000 {
		r, since := chosenRules(source), chosenTime(source)/2
		b, now, allowed := openSince(since), since+r.Cool, int64(0)
		for range 12 {
			ask := impl.AllowFetch(b, r, now)
			if ask.Allowed {
				allowed++
			}
			if ask.Code != impl.OK || ask.Breaker.Out != allowed || allowed > r.Quota || ask.Breaker.State != impl.StateHalf {
				t.Fatalf("%+v of %+v: %+v, and %d are out", b, r, ask, allowed)
			}
			b, now = ask.Breaker, now+source.Int63n(3)
		}
		if allowed != r.Quota {
			t.Fatalf("%+v: only %d are out", r, allowed)
		}
		// A good try closes it, and then all are allowed; a bad one opens it anew, and it has to cool from then on.
		closed, open := impl.NoteOutcome(b, r, now, true).Breaker, impl.NoteOutcome(b, r, now, false).Breaker
		if closed.State != impl.StateClosed || closed.Out != 0 || len(closed.Marks) != 0 {
			t.Fatalf("a good try of %+v leaves %+v", b, closed)
		}
		for range 10 {
			ask := impl.AllowFetch(closed, r, now)
			if !ask.Allowed || !impl.SameBreakers(ask.Breaker, closed) {
				t.Fatalf("%+v: %+v", closed, ask)
			}
		}
		if !sameBreaker(open, openSince(now)) || impl.AllowFetch(open, r, now).Allowed != (r.Cool == 0) || !impl.AllowFetch(open, r, now+r.Cool).Allowed {
			t.Fatalf("a bad try of %+v leaves %+v", b, open)
		}
	}
}

// tooMany tells from all outcomes since a breaker was closed last whether the bad ones are too many.
func tooMany(outcomes []impl.Trace, r impl.Rules, now int64) bool {
	var counting []impl.Trace
	for _, o := range outcomes {
		if now-o.At < r.Window {
			counting = append(counting, o)
		}
	}
	counting = counting[max(0, len(counting)-60):]
	bad := 0
	for _, o := range counting {
		if !o.Good {
			bad++
		}
	}
	return int64(len(counting)) >= r.Min && 1000*int64(bad) >= r.Ratio*int64(len(counting))
}

// Promise 11: a closed breaker is opened by too many bad outcomes, told from all that came since it was closed, and by nothing else.
func TestPromise11TooManyBadOutcomesOpen(t *testing.T) {
	opened, stayed := 0, 0
	for i, a := range manyBreakers(61, 6000, 0) {
		told := impl.RunTraces(a.rules, a.traces)
		state, outcomes := int64(impl.StateClosed), []impl.Trace{}
		for at, trace := range a.traces {
			before := state
			state = told.States[at]
			switch {
			case before != impl.StateClosed:
				outcomes = nil
			case trace.Ask && (state != impl.StateClosed || !told.Allowed[at]):
				t.Fatalf("%d: trace %d: an ask of a closed one: %+v", i, at, told)
			case !trace.Ask:
				outcomes = append(outcomes, trace)
				want := int64(impl.StateClosed)
				if tooMany(outcomes, a.rules, trace.At) {
					want = impl.StateOpen
					opened++
				} else {
					stayed++
				}
				if state != want {
					t.Fatalf("%d: trace %d: %+v of %+v tells %+v", i, at, a.traces, a.rules, told)
				}
			}
		}
	}
	if opened < 3000 || stayed < 10000 {
		t.Errorf("only %d opened, and %d stayed closed", opened, stayed)
	}
}

// Promise 11: in all traces nothing is allowed between an opening and the end of Cool, and a try is out ahead of a closing.
func TestPromise11TracesKeepTheRules(t *testing.T) {
	tries := 0
	for i, a := range manyBreakers(62, 6000, 0) {
		told := impl.RunTraces(a.rules, a.traces)
		state, since, out := int64(impl.StateClosed), int64(0), int64(0)
		for at, trace := range a.traces {
			next, allowed := told.States[at], told.Allowed[at]
			cooled := trace.At-since >= a.rules.Cool
			right := true
			switch state {
			case impl.StateClosed:
				right = next != impl.StateHalf && allowed == trace.Ask
			case impl.StateOpen:
				right = allowed == (trace.Ask && cooled) && (next == impl.StateHalf) == allowed && next != impl.StateClosed
			case impl.StateHalf:
				right = allowed == (trace.Ask && out < a.rules.Quota) && (next == impl.StateHalf) == trace.Ask && (next == impl.StateClosed) == (!trace.Ask && trace.Good)
			}
			if !right {
				t.Fatalf("%d: trace %d: %+v of %+v tells %+v", i, at, a.traces, a.rules, told)
			}
			if next == impl.StateOpen && state != next {
				since = trace.At
			}
			if next != impl.StateHalf {
				out = 0
			} else if allowed {
				out++
				tries++
			}
			state = next
		}
	}
	if tries < 3000 {
		t.Errorf("only %d tries", tries)
	}
}

// bare: nothing stands beside a code.
func (a breakerAnswers) bare() bool {
	for _, note := range a.notes {
		if note.Code != impl.OK && !sameNote(note, impl.BreakerResult{Code: note.Code}) {
			return false
		}
	}
	return (a.bad.Code == impl.OK || a.bad.Value == 0) && (a.allow.Code == impl.OK || sameAllow(a.allow, impl.AllowResult{Code: a.allow.Code})) &&
		(a.traces.Code == impl.OK || sameStates(a.traces, impl.StatesResult{Code: a.traces.Code}))
}

// Promise 1: asked again in another order the functions of chapter 10 tell the same, and beside a code nothing.
func TestPromise1BreakersHangOnArgumentsAlone(t *testing.T) {
	list := manyBreakers(63, 5000, 3)
	first := make([]breakerAnswers, len(list))
	for i, a := range list {
		first[i] = askBreaker(a)
		if !first[i].bare() {
			t.Errorf("%d: something stands beside a code", i)
		}
	}
	for i, a := range slices.Backward(list) {
		if !askBreaker(a).equals(first[i]) {
			t.Errorf("%d: asked again it is another answer", i)
		}
	}
	// Capacities and empty lists do not tell.
	for i, a := range list {
		if len(a.breaker.Marks) == 0 {
			a.breaker.Marks = []impl.Mark{}
		}
		a.breaker.Marks, a.traces = roomyList(a.breaker.Marks, impl.Mark{At: 1}), roomyList(a.traces, impl.Trace{Ask: true})
		if !askBreaker(a).equals(first[i]) {
			t.Errorf("%d: in other memory it is another answer", i)
		}
	}
}

// givenBreaker is in memory of its own, with something behind each of its lists.
func givenBreaker(a breakerArguments) breakerArguments {
	a.breaker.Marks, a.other.Marks = roomyList(a.breaker.Marks, impl.Mark{At: 3, Good: true}), roomyList(a.other.Marks, impl.Mark{At: 3, Good: true})
	a.traces = roomyList(a.traces, impl.Trace{At: 3, Ask: true, Good: true})
	return a
}

// wholeBreaker has all that stands in the memory of its lists in them.
func wholeBreaker(a breakerArguments) breakerArguments {
	a.breaker.Marks, a.other.Marks = slices.Clone(a.breaker.Marks[:cap(a.breaker.Marks)]), slices.Clone(a.other.Marks[:cap(a.other.Marks)])
	a.traces = slices.Clone(a.traces[:cap(a.traces)])
	return a
}

func sameBreakerArguments(a, b breakerArguments) bool {
	return sameBreaker(a.breaker, b.breaker) && sameBreaker(a.other, b.other) && a.rules == b.rules && a.now == b.now && slices.Equal(a.traces, b.traces)
}

func (a breakerAnswers) scribble() {
	for _, marks := range [][]impl.Mark{a.allow.Breaker.Marks, a.notes[0].Breaker.Marks, a.notes[1].Breaker.Marks} {
		for i := range marks[:cap(marks)] {
			marks[:cap(marks)][i] = impl.Mark{At: -9}
		}
	}
	clear(a.traces.States[:cap(a.traces.States)])
	clear(a.traces.Allowed[:cap(a.traces.Allowed)])
}

// Promise 1: what came in is left as it was, what stands behind it in memory, too, and no answer shares its memory.
func TestPromise1BreakersAreLeftAsTheyWere(t *testing.T) {
	for i, a := range manyBreakers(64, 5000, 8) {
		given := givenBreaker(a)
		kept := wholeBreaker(given)
		answers := askBreaker(given)
		if !sameBreakerArguments(wholeBreaker(given), kept) {
			t.Fatalf("%d: an argument was changed", i)
		}
		answers.scribble()
		if !sameBreakerArguments(wholeBreaker(given), kept) {
			t.Fatalf("%d: an answer shares its memory with an argument", i)
		}
	}
}

// Promise 1: an answer stays as it is, whatever becomes of what it was made from.
func TestPromise1BreakersAreNewMemory(t *testing.T) {
	for i, a := range manyBreakers(65, 5000, 8) {
		want, given := askBreaker(a), givenBreaker(a)
		got := askBreaker(given)
		for at := range given.breaker.Marks {
			given.breaker.Marks[at] = impl.Mark{At: -9}
		}
		clear(given.traces)
		if !got.equals(want) {
			t.Fatalf("%d: an answer changed with its arguments", i)
		}
	}
}
