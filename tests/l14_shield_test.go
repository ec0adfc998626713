package tests

import (
	"fmt"
	"math"
	"math/rand"
	"regexp"
	"slices"
	"strings"
	"testing"

	"loop.example/g00665/impl"
)

// The signatures and the types as the document tells them.
var (
	_ func(impl.Config) int64                     = impl.ConfigFault
	_ func(impl.Shield) int64                     = impl.ShieldFault
	_ func(impl.Config) impl.ShieldResult         = impl.NewShield
	_ func(impl.Shield, string) impl.OriginResult = impl.OriginOf
	_ func(impl.Shield) impl.IntResult            = impl.WaitingIn
	_ func(impl.Shield, string) impl.IntResult    = impl.OutTo
	_ func(impl.Shield, impl.Shield) bool         = impl.SameShields

	_ = impl.Config{
		Budget: int64(0), Guard: int64(0), ObjCost: int64(0), Neg: int64(0), Early: int64(0), FetchTime: int64(0), WaitTime: int64(0), WaitCap: int64(0),
		Names: []string{}, Lanes: impl.Lanes{}, Rules: impl.Rules{},
	}
	_ = impl.Origin{Host: "", Bulk: impl.Bulk{}, Breaker: impl.Breaker{}}
	_ = impl.Shield{Config: impl.Config{}, Now: int64(0), Next: int64(0), Store: impl.Store{}, Origins: []impl.Origin{}, Flights: []impl.Flight{}}
	_ = impl.ShieldResult{Code: int64(0), Shield: impl.Shield{}}
	_ = impl.OriginResult{Code: int64(0), Origin: impl.Origin{}}
)

func busyConfig() impl.Config {
	return impl.Config{
		Budget: 5000, Guard: 2000, ObjCost: 500, Neg: 9, Early: 7, FetchTime: 1000, WaitTime: 2000, WaitCap: 4,
		Names: []string{"Accept", "x-y"}, Lanes: impl.Lanes{Slots: 3, Cap: 4, Time: 500}, Rules: plainRules,
	}
}

func toHost(f impl.Flight, host string) impl.Flight {
	f.Get.Host = host
	return f
}

// busyShield has something in all of its fields, and no fault; flights of several origins stand side by side in it.
func busyShield() impl.Shield {
	return impl.Shield{
		Config: busyConfig(), Now: 1000, Next: 60,
		Store: impl.Store{Budget: 5000, Guard: 2000, Trial: []impl.Entry{fullEntry("t1"), plain("t2"), plain("t3")}, Kept: []impl.Entry{plain("k1"), fullEntry("k2")}},
		Origins: []impl.Origin{
			{Host: "a.com", Bulk: bulkOf(2, 13, 1200, 17, 1300), Breaker: closedWith(5, marked(900, "gb")...)},
			{Host: "b-2.org", Breaker: halfWith(700, 1)},
			{Host: "c", Bulk: bulkOf(1, 20, 1400), Breaker: openSince(1000)},
		},
		Flights: []impl.Flight{
			toHost(outFor(10, "f10", 101, 5, 102, 6), "a.com"), toHost(unsent(13, "f13", 103, 5), "A.com"), toHost(outFor(15, "f15"), "c"),
			toHost(unsent(17, "f17", 104, 7), "a.COM"), toHost(unsent(20, "f20", 105, 5, 106, 5, 107, 9), "C"), toHost(outFor(59, "f59", 108, 9, 109, 9), "A.COM"),
		},
	}
}

// The working-out of the document once more.
func configWanted(c impl.Config) int64 {
	if !within(c.Budget, 0, 1000000) || !within(c.Guard, 0, c.Budget) {
		return impl.ErrRange
	}
	if !within(c.ObjCost, 0, c.Budget) || !isTime(c.Neg) || !within(c.Early, 0, 1000000) || !within(c.FetchTime, 1, 1000000) || !within(c.WaitTime, 0, 1000000) || !within(c.WaitCap, 1, 10) {
		return impl.ErrRange
	}
	if code := namesWanted(c.Names); code != impl.OK {
		return code
	}
	if code := lanesWanted(c.Lanes); code != impl.OK {
		return code
	}
	return rulesWanted(c.Rules)
}

var smallHostPattern = regexp.MustCompile(`\A[a-z0-9.-]{1,60}\z`)

func originWanted(o impl.Origin, s impl.Shield) int64 {
	if !smallHostPattern.MatchString(o.Host) {
		return impl.ErrText
	}
	if code := bulkWanted(o.Bulk, s.Config.Lanes); code != impl.OK {
		return code
	}
	if code := breakerWanted(o.Breaker); code != impl.OK {
		return code
	}
	for _, m := range o.Breaker.Marks {
		if s.Now < m.At {
			return impl.ErrRange
		}
	}
	return codeWhere(s.Now >= o.Breaker.Since, impl.ErrRange)
}

func originsWanted(s impl.Shield) int64 {
	if len(s.Origins) > 6 {
		return impl.ErrMany
	}
	for _, o := range s.Origins {
		if code := originWanted(o, s); code != impl.OK {
			return code
		}
	}
	for i := range s.Origins {
		for j := range i {
			if s.Origins[i].Host == s.Origins[j].Host {
				return impl.ErrTaken
			}
		}
	}
	return impl.OK
}

// sentWanted are the Ids of the flights to a host that are out, and of those that are not.
func sentWanted(s impl.Shield, host string) (out, waits []int64) {
	for _, f := range s.Flights {
		switch {
		case strings.ToLower(f.Get.Host) != host:
		case f.Out:
			out = append(out, f.Id)
		default:
			waits = append(waits, f.Id)
		}
	}
	return out, waits
}

func stateWanted(s impl.Shield) bool {
	hosts := map[string]int{}
	for i, o := range s.Origins {
		hosts[o.Host] = i
	}
	for _, f := range s.Flights {
		at, known := hosts[strings.ToLower(f.Get.Host)]
		if f.Id >= s.Next || !known || !f.Out && placeInQueue(s.Origins[at].Bulk, f.Id) < 0 {
			return false
		}
	}
	for _, o := range s.Origins {
		out, waits := sentWanted(s, o.Host)
		if int64(len(out)) != o.Bulk.Busy || len(waits) != len(o.Bulk.Queue) {
			return false
		}
	}
	for _, e := range slices.Concat(s.Store.Trial, s.Store.Kept) {
		if e.Meta.At > s.Now || len(e.Headers) > 17 {
			return false
		}
	}
	return true
}

func shieldWanted(s impl.Shield) int64 {
	if code := configWanted(s.Config); code != impl.OK {
		return code
	}
	if !isTime(s.Now) || !isTime(s.Next) {
		return impl.ErrRange
	}
	if code := storeFaultWanted(s.Store); code != impl.OK {
		return code
	}
	if s.Store.Budget != s.Config.Budget || s.Store.Guard != s.Config.Guard {
		return impl.ErrForm
	}
	if code := originsWanted(s); code != impl.OK {
		return code
	}
	if code := flightsWanted(s.Flights); code != impl.OK {
		return code
	}
	return codeWhere(stateWanted(s), impl.ErrState)
}

func newShieldWanted(c impl.Config) impl.ShieldResult {
	if code := configWanted(c); code != impl.OK {
		return impl.ShieldResult{Code: code}
	}
	return impl.ShieldResult{Shield: impl.Shield{Config: c, Store: impl.Store{Budget: c.Budget, Guard: c.Guard}}}
}

func originOfWanted(s impl.Shield, host string) impl.OriginResult {
	if code := shieldWanted(s); code != impl.OK {
		return impl.OriginResult{Code: code}
	}
	for _, o := range s.Origins {
		if o.Host == host {
			return impl.OriginResult{Origin: o}
		}
	}
	return impl.OriginResult{Code: impl.ErrNone}
}

func waitingWanted(s impl.Shield) impl.IntResult {
	told := impl.IntResult{Code: shieldWanted(s)}
	for _, f := range s.Flights {
		if told.Code == impl.OK {
			told.Value += int64(len(f.Waiters))
		}
	}
	return told
}

func outToWanted(s impl.Shield, host string) impl.IntResult {
	told := impl.IntResult{Code: shieldWanted(s)}
	if out, _ := sentWanted(s, host); told.Code == impl.OK {
		told.Value = int64(len(out))
	}
	return told
}

func sameConfig(a, b impl.Config) bool {
	return a.Budget == b.Budget && a.Guard == b.Guard && a.ObjCost == b.ObjCost && a.Neg == b.Neg && a.Early == b.Early && a.FetchTime == b.FetchTime && a.WaitTime == b.WaitTime && a.WaitCap == b.WaitCap &&
		slices.Equal(a.Names, b.Names) && a.Lanes == b.Lanes && a.Rules == b.Rules
}

func sameOrigin(a, b impl.Origin) bool {
	return a.Host == b.Host && sameBulk(a.Bulk, b.Bulk) && sameBreaker(a.Breaker, b.Breaker)
}

func sameShield(a, b impl.Shield) bool {
	return sameConfig(a.Config, b.Config) && a.Now == b.Now && a.Next == b.Next && sameStore(a.Store, b.Store) && slices.EqualFunc(a.Origins, b.Origins, sameOrigin) && slices.EqualFunc(a.Flights, b.Flights, sameFlight)
}

func sameMade(a, b impl.ShieldResult) bool {
	return a.Code == b.Code && sameShield(a.Shield, b.Shield)
}

func sameFound(a, b impl.OriginResult) bool {
	return a.Code == b.Code && sameOrigin(a.Origin, b.Origin)
}

func shownShield(s impl.Shield) string {
	text := fmt.Sprintf("%+v now %d next %d store (%s)", s.Config, s.Now, s.Next, shownStore(s.Store))
	for _, o := range s.Origins {
		text += fmt.Sprintf(" origin %s %+v %d since %d out %d, %d marks", shown(o.Host), o.Bulk, o.Breaker.State, o.Breaker.Since, o.Breaker.Out, len(o.Breaker.Marks))
	}
	for _, f := range s.Flights {
		text += fmt.Sprintf(" flight %d %s to %s out %v, %d wait", f.Id, shown(f.Key), shown(f.Get.Host), f.Out, len(f.Waiters))
	}
	return text
}

// askedHosts are those of a shield, written in more than one way, and some that are none.
func askedHosts(s impl.Shield) []string {
	hosts := []string{"", "a.com", "A.com", "no.where", "a_b", strings.Repeat("h", 61), "\xff"}
	for _, o := range s.Origins {
		hosts = append(hosts, o.Host, strings.ToUpper(o.Host), o.Host+".", " "+o.Host)
	}
	return hosts
}

// checkShieldCode asks all functions that ask the fault of a shield: nothing stands beside a code.
func checkShieldCode(t *testing.T, what string, s impl.Shield, want int64) {
	t.Helper()
	if got := impl.ShieldFault(s); got != want {
		t.Errorf("%s: ShieldFault of %s = %d, want %d", what, shownShield(s), got, want)
	}
	waiting := impl.IntResult{Code: want}
	if want == impl.OK {
		waiting = waitingWanted(s)
	}
	if got := impl.WaitingIn(s); got != waiting {
		t.Errorf("%s: WaitingIn %s = %+v, want %+v", what, shownShield(s), got, waiting)
	}
	for _, host := range askedHosts(s) {
		origin, out := impl.OriginResult{Code: want}, impl.IntResult{Code: want}
		if want == impl.OK {
			origin, out = originOfWanted(s, host), outToWanted(s, host)
		}
		if got := impl.OriginOf(s, host); !sameFound(got, origin) {
			t.Errorf("%s: OriginOf %s in %s = %+v, want %+v", what, shown(host), shownShield(s), got, origin)
		}
		if got := impl.OutTo(s, host); got != out {
			t.Errorf("%s: OutTo %s in %s = %+v, want %+v", what, shown(host), shownShield(s), got, out)
		}
	}
}

// checkConfigCode asks all functions that ask the fault of a config, that of a shield with it among them.
func checkConfigCode(t *testing.T, what string, c impl.Config, want int64) {
	t.Helper()
	if got := impl.ConfigFault(c); got != want {
		t.Errorf("%s: ConfigFault(%+v) = %d, want %d", what, c, got, want)
	}
	made := impl.ShieldResult{Code: want}
	if want == impl.OK {
		made = newShieldWanted(c)
	}
	if got := impl.NewShield(c); !sameMade(got, made) {
		t.Errorf("%s: NewShield(%+v) = %+v, want %+v", what, c, got, made)
	}
	checkShieldCode(t, what+", with nothing in it", impl.Shield{Config: c, Store: impl.Store{Budget: c.Budget, Guard: c.Guard}}, want)
	if want != impl.OK {
		s := busyShield()
		s.Config = c
		checkShieldCode(t, what+", with all else", s, want)
		s.Now, s.Next, s.Store.Trial, s.Origins, s.Flights = -1, -1, manyPlain(41), make([]impl.Origin, 7), make([]impl.Flight, 25)
		checkShieldCode(t, what+", and all behind it wrong", s, want)
	}
}

func TestShieldBounds(t *testing.T) {
	if impl.MaxOrigins != 6 {
		t.Errorf("MaxOrigins is %d", impl.MaxOrigins)
	}
	if want := shieldWanted(busyShield()); want != impl.OK {
		t.Fatalf("the busy shield has the fault %d", want)
	}
	checkShieldCode(t, "busy", busyShield(), impl.OK)
	checkShieldCode(t, "nothing at all", impl.Shield{}, impl.ErrRange)
}

// configField is a number of a config, with its bounds.
type configField struct {
	what        string
	of          func(c *impl.Config) *int64
	least, most int64
}

// configFields: where one number bounds another one, that is at 5000.
func configFields() []configField {
	list := []configField{
		{"Budget", func(c *impl.Config) *int64 { return &c.Budget }, 2000, 1000000},
		{"Guard", func(c *impl.Config) *int64 { return &c.Guard }, 0, 5000},
		{"ObjCost", func(c *impl.Config) *int64 { return &c.ObjCost }, 0, 5000},
		{"Neg", func(c *impl.Config) *int64 { return &c.Neg }, 0, impl.MaxTime},
		{"Early", func(c *impl.Config) *int64 { return &c.Early }, 0, 1000000},
		{"FetchTime", func(c *impl.Config) *int64 { return &c.FetchTime }, 1, 1000000},
		{"WaitTime", func(c *impl.Config) *int64 { return &c.WaitTime }, 0, 1000000},
		{"WaitCap", func(c *impl.Config) *int64 { return &c.WaitCap }, 1, 10},
	}
	for _, lane := range laneFields() {
		list = append(list, configField{lane.what, func(c *impl.Config) *int64 { return lane.of(&c.Lanes) }, lane.least, lane.most})
	}
	for _, rule := range ruleFields() {
		list = append(list, configField{rule.what, func(c *impl.Config) *int64 { return rule.of(&c.Rules) }, rule.least, rule.most})
	}
	return list
}

func TestConfigNumbers(t *testing.T) {
	for _, field := range configFields() {
		for _, n := range append([]int64{field.least - 1, field.least, field.least + 1, field.most - 1, field.most, field.most + 1, 256, 257}, edgeNumbers...) {
			c := busyConfig()
			*field.of(&c) = n
			checkConfigCode(t, fmt.Sprint(field.what, " of ", n), c, codeWhere(within(n, field.least, field.most), impl.ErrRange))
		}
	}
	least := impl.Config{FetchTime: 1, WaitCap: 1, Lanes: impl.Lanes{Slots: 1}, Rules: impl.Rules{Window: 1, Min: 1, Ratio: 1, Quota: 1}}
	checkConfigCode(t, "the least", least, impl.OK)
	checkConfigCode(t, "the greatest", impl.Config{
		Budget: 1000000, Guard: 1000000, ObjCost: 1000000, Neg: impl.MaxTime, Early: 1000000, FetchTime: 1000000, WaitTime: 1000000, WaitCap: 10, Names: slices.Repeat([]string{strings.Repeat("N", 64)}, 4),
		Lanes: impl.Lanes{Slots: 8, Cap: 8, Time: 1000000}, Rules: impl.Rules{Window: 1000000, Min: 50, Ratio: 1000, Cool: 1000000, Quota: 5},
	}, impl.OK)
	checkConfigCode(t, "nothing", impl.Config{}, impl.ErrRange)
	// Guard and ObjCost are bounded by Budget, each for itself.
	for _, budget := range []int64{0, 1, 2, 50, 999999, 1000000} {
		for _, n := range []int64{-1, 0, 1, 2, 50, 51, 999999, 1000000, 1000001} {
			guard, cost := least, least
			guard.Budget, guard.Guard, cost.Budget, cost.ObjCost = budget, n, budget, n
			checkConfigCode(t, "Guard and Budget", guard, codeWhere(within(n, 0, budget), impl.ErrRange))
			checkConfigCode(t, "ObjCost and Budget", cost, codeWhere(within(n, 0, budget), impl.ErrRange))
			cost.Guard = budget
			checkConfigCode(t, "ObjCost beside Guard", cost, codeWhere(within(n, 0, budget), impl.ErrRange))
		}
	}
}

func TestConfigNames(t *testing.T) {
	for _, row := range namesRows() {
		c := busyConfig()
		c.Names = row.names
		checkConfigCode(t, fmt.Sprintf("Names %q", row.names), c, row.want)
		// They are asked ahead of the lanes and the rules, and behind the numbers.
		if row.want != impl.OK {
			c.Lanes, c.Rules = impl.Lanes{}, impl.Rules{}
			checkConfigCode(t, "Names, and wrong lanes", c, row.want)
			c.WaitCap = 0
			checkConfigCode(t, "Names, and a wrong number", c, impl.ErrRange)
		}
	}
}

// configTurn gives a config a fault.
type configTurn struct {
	what  string
	field string
	turn  func(c *impl.Config)
	want  int64
}

// configTurns stand in the order in which they are asked.
func configTurns() []configTurn {
	return []configTurn{
		{"budget below", "budget", func(c *impl.Config) { c.Budget = -1 }, impl.ErrRange},
		{"budget above", "budget", func(c *impl.Config) { c.Budget = 1000001 }, impl.ErrRange},
		{"guard below", "guard", func(c *impl.Config) { c.Guard = -1 }, impl.ErrRange},
		{"guard above", "guard", func(c *impl.Config) { c.Guard = c.Budget + 1 }, impl.ErrRange},
		{"cost above", "cost", func(c *impl.Config) { c.ObjCost = 5001 }, impl.ErrRange},
		{"neg", "neg", func(c *impl.Config) { c.Neg = -1 }, impl.ErrRange},
		{"early", "early", func(c *impl.Config) { c.Early = 1000001 }, impl.ErrRange},
		{"fetch", "fetch", func(c *impl.Config) { c.FetchTime = 0 }, impl.ErrRange},
		{"wait", "wait", func(c *impl.Config) { c.WaitTime = 1000001 }, impl.ErrRange},
		{"cap", "cap", func(c *impl.Config) { c.WaitCap = 11 }, impl.ErrRange},
		{"many names", "names", func(c *impl.Config) { c.Names = []string{"a", "b", "", "d", "e"} }, impl.ErrMany},
		{"no word", "names", func(c *impl.Config) { c.Names = []string{"a", "b c"} }, impl.ErrText},
		{"lanes", "lanes", func(c *impl.Config) { c.Lanes.Slots = 9 }, impl.ErrRange},
		{"rules", "rules", func(c *impl.Config) { c.Rules.Quota = 0 }, impl.ErrRange},
	}
}

func TestConfigFaultInOrder(t *testing.T) {
	turns := configTurns()
	for first := range turns {
		for later := first; later < len(turns); later++ {
			// Two that turn the same leave only the one that is applied last.
			if later != first && turns[first].field == turns[later].field {
				continue
			}
			c := busyConfig()
			turns[later].turn(&c)
			turns[first].turn(&c)
			checkConfigCode(t, turns[first].what+" ahead of "+turns[later].what, c, turns[first].want)
		}
	}
	checkConfigCode(t, "no word, then too many names", impl.Config{FetchTime: 1, WaitCap: 1, Names: []string{"", "", "", "", ""}}, impl.ErrMany)
}

func TestShieldNowAndNext(t *testing.T) {
	for _, n := range edgeNumbers {
		now, next := busyShield(), busyShield()
		now.Now, next.Next = n, n
		switch {
		case !isTime(n):
			checkShieldCode(t, "a Now that is none", now, impl.ErrRange)
			checkShieldCode(t, "a Next that is none", next, impl.ErrRange)
		case n >= 1000:
			checkShieldCode(t, "a Now", now, impl.OK)
			checkShieldCode(t, "a Next", next, impl.OK)
		default:
			// An origin is told from a time that has not come then; some flights have no Id yet.
			checkShieldCode(t, "a Now ahead of what is there", now, impl.ErrRange)
			checkShieldCode(t, "a Next ahead of what is there", next, shieldWanted(next))
		}
		bare := impl.NewShield(busyConfig()).Shield
		bare.Now = n
		checkShieldCode(t, "a Now, and nothing there", bare, codeWhere(isTime(n), impl.ErrRange))
		bare.Now, bare.Next = 0, n
		checkShieldCode(t, "a Next, and nothing there", bare, codeWhere(isTime(n), impl.ErrRange))
	}
}

func TestShieldStoreFaults(t *testing.T) {
	turns := storeTurns()
	for _, turn := range turns {
		s := busyShield()
		s.Config.Budget, s.Config.Guard, s.Store = 1000, 500, storeOf(1000, 500, "ab", "cd")
		checkShieldCode(t, "another store", s, impl.OK)
		turn.turn(&s.Store)
		checkShieldCode(t, turn.what, s, turn.want)
		s.Origins, s.Flights = make([]impl.Origin, 7), make([]impl.Flight, 25)
		checkShieldCode(t, turn.what+", and all behind it wrong", s, turn.want)
	}
	for _, row := range entryRows() {
		for place := range 5 {
			s := busyShield()
			s.Config.Budget, s.Store.Budget = 1000000, 1000000
			s.Config.Guard, s.Store.Guard = 1000000, 1000000
			lists := slices.Concat(s.Store.Trial, s.Store.Kept)
			row.turn(&lists[place])
			s.Store.Trial, s.Store.Kept = lists[:3], lists[3:]
			want := row.want
			if want == impl.OK {
				want = shieldWanted(s)
			}
			checkShieldCode(t, row.what, s, want)
		}
	}
}

func TestShieldStoreOfAnotherConfig(t *testing.T) {
	for _, n := range []int64{1, -1, 1000, -2000} {
		budget, guard, both := busyShield(), busyShield(), busyShield()
		budget.Store.Budget += n
		guard.Store.Guard += n
		both.Store.Budget, both.Store.Guard = both.Store.Budget+n, both.Store.Guard+n
		for _, s := range []impl.Shield{budget, guard, both} {
			want := storeFaultWanted(s.Store)
			if want == impl.OK {
				want = impl.ErrForm
			}
			checkShieldCode(t, "a store of another config", s, want)
			s.Origins, s.Flights = make([]impl.Origin, 7), make([]impl.Flight, 25)
			checkShieldCode(t, "a store of another config, and all behind it wrong", s, want)
			if want == impl.ErrForm {
				s = impl.Shield{Config: s.Config, Store: impl.Store{Budget: s.Store.Budget, Guard: s.Store.Guard}}
				checkShieldCode(t, "an empty store of another config", s, want)
			}
		}
	}
	s := busyShield()
	s.Config.Budget = s.Config.Guard
	checkShieldCode(t, "a config of another store", s, impl.ErrForm)
	s = busyShield()
	s.Store.Budget, s.Store.Guard = 2000, 5000
	checkShieldCode(t, "both the wrong way round", s, impl.ErrRange)
}

// idle are origins with these Hosts, new ones.
func idle(hosts ...string) []impl.Origin {
	var list []impl.Origin
	for _, host := range hosts {
		list = append(list, impl.Origin{Host: host})
	}
	return list
}

// withOrigins is a shield with these origins and nothing else in it.
func withOrigins(list ...impl.Origin) impl.Shield {
	s := impl.NewShield(busyConfig()).Shield
	s.Origins = list
	return s
}

func TestShieldCountOfOrigins(t *testing.T) {
	hosts := []string{"a", "b", "c", "d", "e", "f", "g", "h"}
	for count := range 9 {
		checkShieldCode(t, fmt.Sprint(count, " origins"), withOrigins(idle(hosts[:count]...)...), codeWhere(count <= 6, impl.ErrMany))
		// That there are too many is asked ahead of what they are.
		want := impl.ErrText
		switch {
		case count == 0:
			want = impl.OK
		case count > 6:
			want = impl.ErrMany
		}
		checkShieldCode(t, fmt.Sprint(count, " wrong origins"), withOrigins(make([]impl.Origin, count)...), int64(want))
	}
	s := busyShield()
	s.Origins = append(s.Origins, idle("d", "e", "f")...)
	checkShieldCode(t, "as many as may be, with flights", s, impl.OK)
	s.Origins = append(s.Origins, idle("g")...)
	checkShieldCode(t, "one more, with flights", s, impl.ErrMany)
	checkShieldCode(t, "very many", withOrigins(make([]impl.Origin, 10000)...), impl.ErrMany)
}

func TestShieldHosts(t *testing.T) {
	hosts := slices.Concat(askHosts, []string{"a.com", "com", "h.", "x--y", "aB", "Ab", "z", "Z", "9", strings.Repeat("h", 60), strings.Repeat("h", 59) + "H", "a.com/", "a com", "a\tb"})
	for _, host := range hosts {
		want := codeWhere(smallHostPattern.MatchString(host), impl.ErrText)
		for place := range 3 {
			list := idle("x.org", "y.org", "z.org")
			list[place].Host = host
			checkShieldCode(t, "the Host "+shown(host), withOrigins(list...), want)
			// It is asked ahead of the bulkhead and the breaker.
			list[place].Bulk.Busy, list[place].Breaker.State = -1, -1
			if want == impl.OK {
				checkShieldCode(t, "the Host "+shown(host)+", and all else wrong", withOrigins(list...), impl.ErrRange)
			} else {
				checkShieldCode(t, "the Host "+shown(host)+", and all else wrong", withOrigins(list...), want)
			}
		}
	}
	for _, host := range []string{"A.com", "B-2.org", "C"} {
		s := busyShield()
		for i, o := range s.Origins {
			if strings.EqualFold(o.Host, host) {
				s.Origins[i].Host = host
			}
		}
		checkShieldCode(t, "one in large letters", s, impl.ErrText)
	}
}

// turnOfOrigin gives an origin a fault (or its config, in lanes).
type turnOfOrigin struct {
	what string
	turn func(o *impl.Origin, c *impl.Config)
	want int64
}

// originTurns stand in the order in which they are asked; the times are those of a shield at 1000.
func originTurns() []turnOfOrigin {
	list := []turnOfOrigin{
		{"no host", func(o *impl.Origin, _ *impl.Config) { o.Host = "" }, impl.ErrText},
		{"a large letter", func(o *impl.Origin, _ *impl.Config) { o.Host = "a.Com" }, impl.ErrText},
	}
	for _, bulk := range bulkTurns() {
		list = append(list, turnOfOrigin{bulk.what, func(o *impl.Origin, c *impl.Config) { bulk.turn(&o.Bulk, &c.Lanes) }, bulk.want})
	}
	for _, breaker := range breakerTurns() {
		list = append(list, turnOfOrigin{breaker.what, func(o *impl.Origin, _ *impl.Config) { breaker.turn(&o.Breaker) }, breaker.want})
	}
	return append(list,
		turnOfOrigin{"since ahead", func(o *impl.Origin, _ *impl.Config) { o.Breaker.Since = 1001 }, impl.ErrRange},
		turnOfOrigin{"a mark ahead", func(o *impl.Origin, _ *impl.Config) { o.Breaker.Marks[1].At = 1001 }, impl.ErrRange})
}

// turnedOrigins is a shield at 1000 with three origins of which faults can be made; it is asked for their faults alone.
func turnedOrigins() impl.Shield {
	list := idle("x.org", "y.org", "z.org")
	for i := range list {
		list[i].Bulk, list[i].Breaker = bulkOf(2, 11, 5, 12, 4, 13, 9), closedWith(5, marked(7, "gb")...)
	}
	s := withOrigins(list...)
	s.Now, s.Config.Lanes = 1000, plainLanes
	return s
}

func TestShieldOriginFaults(t *testing.T) {
	checkShieldCode(t, "nobody is there who is out or waits", turnedOrigins(), impl.ErrState)
	for i, one := range originTurns() {
		for place := range 3 {
			s := turnedOrigins()
			one.turn(&s.Origins[place], &s.Config)
			checkShieldCode(t, one.what, s, one.want)
			// Behind all of an origin, and of all origins, two of one Host and the flights are asked.
			s.Flights = make([]impl.Flight, 25)
			s.Origins = append(s.Origins, idle("same", "same")...)
			checkShieldCode(t, one.what+", and all behind it wrong", s, one.want)
		}
		// Each origin is asked all codes ahead of the next one.
		for _, other := range originTurns() {
			if one.want == other.want {
				continue
			}
			s := turnedOrigins()
			lanes := s.Config.Lanes
			one.turn(&s.Origins[0], &s.Config)
			other.turn(&s.Origins[2], &s.Config)
			if s.Config.Lanes != lanes {
				// Wrong lanes are a fault of the config.
				checkShieldCode(t, one.what+" of the first, "+other.what+" of the last", s, impl.ErrRange)
				continue
			}
			checkShieldCode(t, fmt.Sprint(i, ": ", one.what+" of the first, "+other.what+" of the last"), s, one.want)
		}
	}
}

// Of one origin the Host is asked ahead of the bulkhead, that ahead of the breaker, and that ahead of what is ahead of Now.
func TestShieldOriginFaultsInOrder(t *testing.T) {
	for place := range 3 {
		s := turnedOrigins()
		o := &s.Origins[place]
		o.Breaker.Marks[1].At = 1001
		checkShieldCode(t, "a mark ahead", s, impl.ErrRange)
		o.Breaker.Marks[0].At = 1002
		checkShieldCode(t, "marks that fall, ahead", s, impl.ErrForm)
		o.Bulk.Queue[0].Id = 12
		checkShieldCode(t, "two wait with one Id, and marks that fall", s, impl.ErrTaken)
		o.Host += "_"
		checkShieldCode(t, "a wrong Host, and all else", s, impl.ErrText)
		s = turnedOrigins()
		o = &s.Origins[place]
		o.Breaker.Since, o.Breaker.Out = 1001, 1
		checkShieldCode(t, "tries of a closed one, and Since ahead", s, impl.ErrState)
		o.Bulk.Queue = append(o.Bulk.Queue, waitingAt(14, 5, 15, 5)...)
		checkShieldCode(t, "too many wait, and tries of a closed one", s, impl.ErrMany)
	}
}

// A Since and the At of a mark at Now, and just above it.
func TestShieldTimesOfBreakers(t *testing.T) {
	for _, now := range []int64{0, 1, 1000, impl.MaxTime - 1, impl.MaxTime} {
		for place := range 3 {
			for _, from := range []int64{now, now + 1} {
				// Above the greatest time it is no time at all: that is the same code.
				want := codeWhere(from == now, impl.ErrRange)
				check := func(what string, b impl.Breaker) {
					t.Helper()
					s := withOrigins(idle("x.org", "y.org", "z.org")...)
					s.Now, s.Origins[place].Breaker = now, b
					checkShieldCode(t, fmt.Sprint(what, " at ", from, " of the origin ", place, " at ", now), s, want)
				}
				check("Since of a closed one", closedWith(from))
				check("Since of an open one", openSince(from))
				check("Since of one that is half", halfWith(from, 2))
				check("the only mark", closedWith(0, goodAt(from)...))
				check("the last mark", closedWith(now, goodAt(0, now, from)...))
				check("all marks", closedWith(now, goodAt(from, from, from)...))
				check("the last of many", closedWith(now, append(slices.Repeat(goodAt(now), 59), goodAt(from)...)...))
				check("a bad mark", closedWith(0, marked(from, "b")...))
			}
		}
	}
	for place := range 3 {
		s := busyShield()
		s.Origins[place].Breaker = openSince(1000)
		checkShieldCode(t, "Since at Now", s, impl.OK)
		s.Origins[place].Breaker = openSince(1001)
		checkShieldCode(t, "Since above Now", s, impl.ErrRange)
		s.Origins[place].Breaker = closedWith(0, goodAt(999, 1000)...)
		checkShieldCode(t, "a mark at Now", s, impl.OK)
		s.Origins[place].Breaker = closedWith(0, goodAt(1000, 1001)...)
		checkShieldCode(t, "a mark above Now", s, impl.ErrRange)
	}
	// Who waits may wait beyond Now, and may be over.
	s := busyShield()
	s.Origins[0].Bulk.Queue[0].Due, s.Origins[2].Bulk.Queue[0].Due = 0, impl.MaxTime
	checkShieldCode(t, "who waits", s, impl.OK)
}

func TestShieldOneHostTwice(t *testing.T) {
	for first := range 6 {
		for later := range 6 {
			list := idle("a", "b", "c", "d", "e", "f")
			list[later].Host = strings.Clone(list[first].Host)
			want := codeWhere(first == later, impl.ErrTaken)
			checkShieldCode(t, "two with one Host", withOrigins(list...), want)
			// What else they have does not tell; a fault of any origin is asked ahead.
			list[later].Breaker = openSince(0)
			checkShieldCode(t, "two with one Host, else different", withOrigins(list...), want)
			list[5].Breaker.Out = 1
			checkShieldCode(t, "two with one Host, and a wrong breaker", withOrigins(list...), impl.ErrState)
		}
	}
	s := busyShield()
	s.Origins[1].Host = "a.com"
	checkShieldCode(t, "two with one Host", s, impl.ErrTaken)
	s.Flights[0].Get.Method = "PUT"
	checkShieldCode(t, "two with one Host, and a wrong flight", s, impl.ErrTaken)
	checkShieldCode(t, "Hosts that are near", withOrigins(idle("a", "aa", "a.", ".a", "-a", "a-")...), impl.OK)
}

func TestShieldFlightFaults(t *testing.T) {
	for i, turn := range flightTurns() {
		for place := range 6 {
			s := busyShield()
			s.Flights[place].Out, s.Flights[place].Due = true, 5
			s.Flights[place].Waiters = manyWaiters(201, 3)
			turn.turn(&s.Flights[place])
			checkShieldCode(t, fmt.Sprint(i, ": ", turn.what, " of the flight ", place), s, turn.want)
		}
	}
	for i, turn := range flightsTurns() {
		s := busyShield()
		list := slices.Clone(s.Flights[:4])
		for at := range list {
			list[at].Waiters = manyWaiters(int64(200+10*at), 2)
		}
		s.Flights = turn.turn(list)
		checkShieldCode(t, fmt.Sprint(i, ": ", turn.what), s, turn.want)
	}
	for place, row := range getRows() {
		s := busyShield()
		s.Flights[place%6].Get = row.get
		if row.want == impl.OK {
			s.Flights[place%6].Get.Host = busyShield().Flights[place%6].Get.Host
		}
		checkShieldCode(t, "a Get with "+row.what, s, row.want)
	}
}

// flown is a shield with these origins and flights; Next is 100.
func flown(origins []impl.Origin, flights ...impl.Flight) impl.Shield {
	s := withOrigins(origins...)
	s.Next, s.Flights = 100, flights
	return s
}

// busyAt is an origin of which so many are out, and these wait.
func busyAt(host string, busy int64, waits ...int64) impl.Origin {
	o := impl.Origin{Host: host, Bulk: impl.Bulk{Busy: busy}}
	for _, id := range waits {
		o.Bulk.Queue = append(o.Bulk.Queue, impl.Wait{Id: id, Due: 500})
	}
	return o
}

// fly is a flight to a host that is out, and wait one that is not.
func fly(id int64, host string) impl.Flight {
	return toHost(outFor(id, fmt.Sprint("k", id)), host)
}

func wait(id int64, host string) impl.Flight {
	return toHost(unsent(id, fmt.Sprint("k", id)), host)
}

func TestShieldIdsOfFlights(t *testing.T) {
	for _, next := range []int64{0, 1, 2, 10, 1000, impl.MaxTime - 1, impl.MaxTime} {
		for _, id := range []int64{next - 2, next - 1, next, next + 1} {
			if !isTime(id) {
				continue
			}
			want := codeWhere(id < next, impl.ErrState)
			s := flown([]impl.Origin{busyAt("a.com", 1)}, fly(id, "a.com"))
			s.Next = next
			checkShieldCode(t, fmt.Sprint("one that is out, ", id, " and ", next), s, want)
			s = flown([]impl.Origin{busyAt("a.com", 0, id)}, wait(id, "a.com"))
			s.Next = next
			checkShieldCode(t, fmt.Sprint("one that waits, ", id, " and ", next), s, want)
			if id >= 5 {
				s = flown([]impl.Origin{busyAt("a.com", 3)}, fly(3, "a.com"), fly(4, "a.com"), fly(id, "a.com"))
				s.Next = next
				checkShieldCode(t, fmt.Sprint("the last of three, ", id, " and ", next), s, want)
			}
		}
	}
	// Nobody has to fly with the Id ahead of Next.
	s := busyShield()
	s.Next = impl.MaxTime
	checkShieldCode(t, "a Next far above", s, impl.OK)
	s.Next = 59
	checkShieldCode(t, "a Next just at the last one", s, impl.ErrState)
}

func TestShieldFlightWithoutOrigin(t *testing.T) {
	for _, f := range []impl.Flight{fly(7, "a.com"), wait(7, "a.com")} {
		for _, list := range [][]impl.Origin{nil, {}, idle("b.com"), idle("a.co", "a.com.", "com", "a-com", "xa.com"), {busyAt("b.com", 1)}, {busyAt("b.com", 0, 7)}, {busyAt("b.com", 1, 7)}} {
			checkShieldCode(t, "a flight without an origin", flown(list, f), impl.ErrState)
		}
		// Each of several may be the one that has none.
		for place := range 3 {
			flights := []impl.Flight{fly(3, "x.org"), fly(5, "x.org"), fly(9, "x.org")}
			checkShieldCode(t, "three with an origin", flown([]impl.Origin{busyAt("x.org", 3)}, flights...), impl.OK)
			one := f
			one.Id = flights[place].Id
			flights[place] = one
			checkShieldCode(t, "one without an origin", flown([]impl.Origin{busyAt("x.org", 2)}, flights...), impl.ErrState)
			checkShieldCode(t, "one without an origin, counted", flown([]impl.Origin{busyAt("x.org", 3)}, flights...), impl.ErrState)
			checkShieldCode(t, "one without an origin, that waits", flown([]impl.Origin{busyAt("x.org", 2, one.Id)}, flights...), impl.ErrState)
		}
	}
	checkShieldCode(t, "an origin without a flight", flown(idle("a.com")), impl.OK)
	checkShieldCode(t, "origins without flights beside one with", flown(append(idle("b", "c"), busyAt("a", 1)), fly(3, "a")), impl.OK)
}

// The origin of a flight is that of its Host in small letters.
func TestShieldHostsOfFlights(t *testing.T) {
	for _, host := range []string{"a-b.com", "A-B.COM", "A-b.com", "a-b.coM", "a-B.Com"} {
		checkShieldCode(t, "out to "+host, flown([]impl.Origin{busyAt("a-b.com", 1)}, fly(7, host)), impl.OK)
		checkShieldCode(t, "waits for "+host, flown([]impl.Origin{busyAt("a-b.com", 0, 7)}, wait(7, host)), impl.OK)
		checkShieldCode(t, "both", flown([]impl.Origin{busyAt("a-b.com", 1, 7)}, fly(3, "A-B.com"), wait(7, host)), impl.OK)
		checkShieldCode(t, "none is counted", flown(idle("a-b.com"), fly(7, host)), impl.ErrState)
		if got := impl.OutTo(flown([]impl.Origin{busyAt("a-b.com", 2)}, fly(3, "A-B.com"), fly(7, host)), "a-b.com"); got != (impl.IntResult{Value: 2}) {
			t.Errorf("OutTo with flights to %s: %+v", host, got)
		}
	}
	long := strings.Repeat("h", 60)
	checkShieldCode(t, "a long Host", flown([]impl.Origin{busyAt(long, 1)}, fly(7, strings.ToUpper(long))), impl.OK)
	// Its Key does not tell.
	f := fly(7, "a.com")
	f.Key = "b.com/"
	checkShieldCode(t, "a Key of another host", flown([]impl.Origin{busyAt("a.com", 1)}, f), impl.OK)
	checkShieldCode(t, "a Key of another host alone", flown([]impl.Origin{busyAt("b.com", 1)}, f), impl.ErrState)
}

func TestShieldWhoIsOutAndWhoWaits(t *testing.T) {
	one := func(busy int64, waits ...int64) []impl.Origin { return []impl.Origin{busyAt("a", busy, waits...)} }
	two := func(busy int64, waits []int64, busyB int64, waitsB []int64) []impl.Origin {
		return []impl.Origin{busyAt("a", busy, waits...), busyAt("b", busyB, waitsB...)}
	}
	ids := func(list ...int64) []int64 { return list }
	for _, row := range []struct {
		what    string
		origins []impl.Origin
		flights []impl.Flight
		want    int64
	}{
		{"nobody", one(0), nil, impl.OK},
		{"out", one(1), []impl.Flight{fly(7, "a")}, impl.OK}, {"out, and not counted", one(0), []impl.Flight{fly(7, "a")}, impl.ErrState},
		{"not out, and waits", one(0, 7), []impl.Flight{wait(7, "a")}, impl.OK}, {"not out, and does not wait", one(0), []impl.Flight{wait(7, "a")}, impl.ErrState}, {"not out, and another waits", one(0, 8), []impl.Flight{wait(7, "a")}, impl.ErrState},
		{"not out, and counted as out", one(1), []impl.Flight{wait(7, "a")}, impl.ErrState}, {"not out, waits, and is counted as out", one(1, 7), []impl.Flight{wait(7, "a")}, impl.ErrState},
		{"out, and waits", one(1, 7), []impl.Flight{fly(7, "a")}, impl.ErrState}, {"out, waits, and is not counted", one(0, 7), []impl.Flight{fly(7, "a")}, impl.ErrState}, {"out, and waits for one that is not out", one(1, 7), []impl.Flight{fly(7, "a"), wait(8, "a")}, impl.ErrState},
		{"the numbers are right, and the wrong one waits", one(1, 3), []impl.Flight{fly(3, "a"), wait(7, "a")}, impl.ErrState}, {"the numbers are right, and one of two wrong ones waits", one(1, 7, 3), []impl.Flight{fly(3, "a"), wait(7, "a"), wait(9, "a")}, impl.ErrState},
		{"more out than Busy", one(1), []impl.Flight{fly(3, "a"), fly(7, "a")}, impl.ErrState}, {"fewer out than Busy", one(3), []impl.Flight{fly(3, "a"), fly(7, "a")}, impl.ErrState}, {"as many out as Busy", one(2), []impl.Flight{fly(3, "a"), fly(7, "a")}, impl.OK}, {"nobody out, and Busy", one(1), nil, impl.ErrState},
		{"more wait than in the bulkhead", one(0, 3), []impl.Flight{wait(3, "a"), wait(7, "a")}, impl.ErrState}, {"fewer wait than in the bulkhead", one(0, 3, 7, 9), []impl.Flight{wait(3, "a"), wait(7, "a")}, impl.ErrState}, {"as many wait", one(0, 3, 7), []impl.Flight{wait(3, "a"), wait(7, "a")}, impl.OK}, {"in another order", one(0, 7, 3), []impl.Flight{wait(3, "a"), wait(7, "a")}, impl.OK}, {"nobody there who waits", one(0, 3), nil, impl.ErrState},
		{"one more out makes up for one fewer that waits", one(1, 7), []impl.Flight{fly(3, "a"), fly(7, "a")}, impl.ErrState}, {"a free slot, and some wait", one(1, 7, 9), []impl.Flight{fly(3, "a"), wait(7, "a"), wait(9, "a")}, impl.OK},
		{"side by side", two(1, ids(5), 2, ids(4, 8)), []impl.Flight{fly(1, "a"), fly(2, "b"), fly(3, "b"), wait(4, "b"), wait(5, "a"), wait(8, "b")}, impl.OK},
		{"side by side, numbers out exchanged", two(2, ids(5), 1, ids(4, 8)), []impl.Flight{fly(1, "a"), fly(2, "b"), fly(3, "b"), wait(4, "b"), wait(5, "a"), wait(8, "b")}, impl.ErrState},
		{"side by side, who waits exchanged", two(1, ids(4, 8), 2, ids(5)), []impl.Flight{fly(1, "a"), fly(2, "b"), fly(3, "b"), wait(4, "b"), wait(5, "a"), wait(8, "b")}, impl.ErrState},
		{"side by side, one waits for the other origin", two(1, ids(4), 2, ids(5, 8)), []impl.Flight{fly(1, "a"), fly(2, "b"), fly(3, "b"), wait(4, "b"), wait(5, "a"), wait(8, "b")}, impl.ErrState},
		{"it waits for the other origin", two(0, nil, 0, ids(7)), []impl.Flight{wait(7, "a")}, impl.ErrState}, {"it waits for the origin behind it, too", two(0, ids(7), 0, ids(7)), []impl.Flight{wait(7, "a")}, impl.ErrState}, {"it waits for the origin ahead of it, too", two(0, ids(7), 0, ids(7)), []impl.Flight{wait(7, "b")}, impl.ErrState},
		{"each waits for the other's", two(0, ids(8), 0, ids(7)), []impl.Flight{wait(7, "a"), wait(8, "b")}, impl.ErrState}, {"each waits for its own", two(0, ids(7), 0, ids(8)), []impl.Flight{wait(7, "a"), wait(8, "b")}, impl.OK},
		{"it is counted at the other origin", two(0, nil, 1, nil), []impl.Flight{fly(7, "a")}, impl.ErrState}, {"it is counted at both", two(1, nil, 1, nil), []impl.Flight{fly(7, "a")}, impl.ErrState},
		{"who is gone ahead still waits for the next origin", two(0, ids(7), 0, ids(8)), []impl.Flight{wait(7, "a"), wait(9, "b")}, impl.ErrState}, {"a queue of the first is none of the second", two(0, ids(7, 9), 0, ids(8)), []impl.Flight{wait(7, "a"), wait(8, "a"), wait(9, "b")}, impl.ErrState},
	} {
		checkShieldCode(t, row.what, flown(row.origins, row.flights...), row.want)
		if got := shieldWanted(flown(row.origins, row.flights...)); got != row.want {
			t.Errorf("%s: the second working-out tells %d", row.what, got)
		}
		turned := slices.Clone(row.origins)
		slices.Reverse(turned)
		checkShieldCode(t, row.what+", origins in another order", flown(turned, row.flights...), row.want)
	}
}

// All small shields of two origins and three flights, each of which is out or not, to one of both hosts or to none.
func TestSmallShields(t *testing.T) {
	queues, right, wrong := [][]int64{nil, {1}, {2}, {3}, {2, 1}, {1, 3}, {2, 3}, {3, 2, 1}}, 0, 0
	for kinds := range 6 * 6 * 6 {
		var list []impl.Flight
		for i, rest := 0, kinds; i < 3; i, rest = i+1, rest/6 {
			host := []string{"a", "B", "c"}[rest%3]
			list = append(list, []impl.Flight{fly(int64(i+1), host), wait(int64(i+1), host)}[rest/3%2])
		}
		for _, queueA := range queues {
			for _, queueB := range queues {
				for busy := range int64(9) {
					s := flown([]impl.Origin{busyAt("a", busy%3, queueA...), busyAt("b", busy/3, queueB...)}, list...)
					want := shieldWanted(s)
					if got := impl.ShieldFault(s); got != want {
						t.Fatalf("%s: %d, want %d", shownShield(s), got, want)
					}
					if want == impl.OK {
						right++
					} else {
						wrong++
					}
				}
			}
		}
	}
	if right < 60 || wrong < 1000 {
		t.Errorf("only %d are right, and %d wrong", right, wrong)
	}
}

func TestShieldEntries(t *testing.T) {
	for place := range 5 {
		entry := func(s *impl.Shield) *impl.Entry {
			if place < 3 {
				return &s.Store.Trial[place]
			}
			return &s.Store.Kept[place-3]
		}
		for _, now := range []int64{1000, 1001, impl.MaxTime - 1, impl.MaxTime} {
			for _, at := range []int64{0, 1, 999, now - 1, now, now + 1, now + 2, impl.MaxTime - 1, impl.MaxTime, impl.MaxTime + 1} {
				s := busyShield()
				s.Now = now
				entry(&s).Meta.At = at
				want := impl.ErrState
				switch {
				case !isTime(at):
					want = impl.ErrRange
				case at <= now:
					want = impl.OK
				}
				checkShieldCode(t, fmt.Sprint("entry ", place, " came at ", at, ", and it is ", now), s, int64(want))
			}
		}
		for count := range 23 {
			s := busyShield()
			entry(&s).Headers = apartLines(count)
			want := impl.ErrState
			switch {
			case count > 20:
				want = impl.ErrMany
			case count <= 17:
				want = impl.OK
			}
			checkShieldCode(t, fmt.Sprint("entry ", place, " with ", count, " head lines"), s, int64(want))
			entry(&s).Headers = sameLines(head("a", "b"), count)
			checkShieldCode(t, fmt.Sprint("entry ", place, " with ", count, " head lines that are alike"), s, int64(want))
		}
		// The other spans of an entry are bounded by no Now, and neither is a Due.
		s := busyShield()
		entry(&s).Meta = impl.Meta{At: 1000, Age: impl.MaxTime, Life: impl.MaxTime, Swr: impl.MaxTime, Sie: impl.MaxTime, Soft: true, NoCache: true}
		entry(&s).Pins = 20
		checkShieldCode(t, "the greatest spans", s, impl.OK)
	}
	// Pins do not have to be those of flights, nor Keys.
	s := busyShield()
	s.Store.Trial[1].Key, s.Store.Trial[1].Pins = "f13", 0
	s.Store.Kept[0].Key, s.Store.Kept[0].Pins = "f15", 7
	checkShieldCode(t, "entries of flights", s, impl.OK)
	s.Flights[0].Due, s.Flights[0].Waiters[0].Due = impl.MaxTime, impl.MaxTime
	checkShieldCode(t, "flights that may be out for long", s, impl.OK)
	s.Flights[0].Waiters = manyWaiters(201, 10)
	checkShieldCode(t, "more wait for a flight than WaitCap", s, impl.OK)
}

// turnOfShield gives the busy shield a fault.
type turnOfShield struct {
	what  string
	field string
	turn  func(s *impl.Shield)
	want  int64
}

// shieldTurns stand in the order in which they are asked.
func shieldTurns() []turnOfShield {
	return []turnOfShield{
		{"a wrong config", "config", func(s *impl.Shield) { s.Config.Names = []string{"a b"} }, impl.ErrText},
		{"now below", "now", func(s *impl.Shield) { s.Now = -1 }, impl.ErrRange},
		{"now above", "now", func(s *impl.Shield) { s.Now = impl.MaxTime + 1 }, impl.ErrRange},
		{"next below", "next", func(s *impl.Shield) { s.Next = -1 }, impl.ErrRange},
		{"next above", "next", func(s *impl.Shield) { s.Next = impl.MaxTime + 1 }, impl.ErrRange},
		{"many entries", "trial", func(s *impl.Shield) { s.Store.Trial = manyPlain(39) }, impl.ErrMany},
		{"a wrong entry", "kept 0", func(s *impl.Shield) { s.Store.Kept[0].Headers = []impl.Header{head("", "")} }, impl.ErrText},
		{"one key twice", "trial", func(s *impl.Shield) { s.Store.Trial[1].Key = s.Store.Trial[2].Key }, impl.ErrTaken},
		{"too much is kept", "kept 1", func(s *impl.Shield) { s.Store.Kept[1].Body = make([]byte, 2000) }, impl.ErrFull},
		{"another budget", "budget", func(s *impl.Shield) { s.Store.Budget-- }, impl.ErrForm},
		{"another guard", "guard", func(s *impl.Shield) { s.Config.Guard++ }, impl.ErrForm},
		{"many origins", "origins", func(s *impl.Shield) { s.Origins = append(s.Origins, idle("d", "e", "f", "g")...) }, impl.ErrMany},
		{"a wrong host", "host 0", func(s *impl.Shield) { s.Origins[0].Host = "A.com" }, impl.ErrText},
		{"a wrong bulkhead", "bulk 1", func(s *impl.Shield) { s.Origins[1].Bulk.Busy = 4 }, impl.ErrRange},
		{"a wrong breaker", "breaker 2", func(s *impl.Shield) { s.Origins[2].Breaker.Out = 1 }, impl.ErrState},
		{"one host twice", "host 1", func(s *impl.Shield) { s.Origins[1].Host = "c" }, impl.ErrTaken},
		{"many flights", "flights", func(s *impl.Shield) { s.Flights = append(s.Flights, manyFlights(500, 24)...) }, impl.ErrMany},
		{"a wrong flight", "get 5", func(s *impl.Shield) { s.Flights[5].Get.Path = "" }, impl.ErrText},
		{"ids that fall", "id 1", func(s *impl.Shield) { s.Flights[1].Id = 10 }, impl.ErrForm},
		{"one flight's key twice", "key 2", func(s *impl.Shield) { s.Flights[2].Key = "f20" }, impl.ErrTaken},
		{"next at an id", "next", func(s *impl.Shield) { s.Next = 59 }, impl.ErrState},
		{"a flight without an origin", "get 0", func(s *impl.Shield) { s.Flights[0].Get.Host = "d" }, impl.ErrState},
		{"one that does not wait", "queue 2", func(s *impl.Shield) { s.Origins[2].Bulk.Queue[0].Id = 21 }, impl.ErrState},
		{"fewer out", "busy 0", func(s *impl.Shield) { s.Origins[0].Bulk.Busy = 1 }, impl.ErrState},
		{"more that wait", "queue 2", func(s *impl.Shield) { s.Origins[2].Bulk.Queue = append(s.Origins[2].Bulk.Queue, waitingAt(22, 5)...) }, impl.ErrState},
		{"an entry from ahead", "trial 0", func(s *impl.Shield) { s.Store.Trial[0].Meta.At = 1001 }, impl.ErrState},
		{"an entry of many lines", "trial 2", func(s *impl.Shield) { s.Store.Trial[len(s.Store.Trial)-1].Headers = sameLines(head("a", "b"), 18) }, impl.ErrState},
	}
}

func TestShieldFaultInOrder(t *testing.T) {
	turns := shieldTurns()
	for first := range turns {
		for later := first; later < len(turns); later++ {
			// Two that turn the same leave only the one that is applied last.
			if later != first && turns[first].field == turns[later].field {
				continue
			}
			s := busyShield()
			if later != first {
				turns[later].turn(&s)
			}
			turns[first].turn(&s)
			checkShieldCode(t, turns[first].what+" ahead of "+turns[later].what, s, turns[first].want)
		}
	}
}

func TestOriginOf(t *testing.T) {
	list := busyShield().Origins
	for count := range 4 {
		// With none of them there is nobody to fly, too.
		s := busyShield()
		s.Origins, s.Flights = s.Origins[:count], nil
		for i := range s.Origins {
			s.Origins[i].Bulk = impl.Bulk{}
		}
		for place, o := range list {
			want := impl.OriginResult{Code: impl.ErrNone}
			if place < count {
				want = impl.OriginResult{Origin: impl.Origin{Host: o.Host, Breaker: o.Breaker}}
			}
			if got := impl.OriginOf(s, strings.Clone(o.Host)); !sameFound(got, want) {
				t.Errorf("%d origins: OriginOf %q = %+v, want %+v", count, o.Host, got, want)
			}
		}
	}
	for place, o := range list {
		s := busyShield()
		if got := impl.OriginOf(s, o.Host); !sameFound(got, impl.OriginResult{Origin: busyShield().Origins[place]}) {
			t.Errorf("OriginOf %q = %+v", o.Host, got)
		}
		for _, host := range []string{strings.ToUpper(o.Host), o.Host + ".", "." + o.Host, o.Host[1:], o.Host + "\x00", " " + o.Host} {
			if got := impl.OriginOf(s, host); !sameFound(got, impl.OriginResult{Code: impl.ErrNone}) {
				t.Errorf("OriginOf %q = %+v", host, got)
			}
		}
	}
	for _, host := range append([]string{"", "d", "a_b", "\xff", strings.Repeat("a", 100000)}, askHosts...) {
		if got := impl.OriginOf(busyShield(), host); !sameFound(got, originOfWanted(busyShield(), host)) {
			t.Errorf("OriginOf %s = %+v", shown(host), got)
		}
	}
	full := withOrigins(idle("a", "b", "c", "d", "e", "f")...)
	for i := range full.Origins {
		full.Origins[i].Breaker = openSince(0)
		full.Origins[i].Breaker.State = int64(i % 3)
	}
	for place, o := range full.Origins {
		if got := impl.OriginOf(full, o.Host); !sameFound(got, impl.OriginResult{Origin: full.Origins[place]}) {
			t.Errorf("OriginOf %q of six = %+v", o.Host, got)
		}
	}
}

func TestWaitingIn(t *testing.T) {
	if got := impl.WaitingIn(busyShield()); got != (impl.IntResult{Value: 9}) {
		t.Errorf("WaitingIn the busy shield = %+v", got)
	}
	if got := impl.WaitingIn(impl.NewShield(busyConfig()).Shield); got != (impl.IntResult{}) {
		t.Errorf("WaitingIn no flights = %+v", got)
	}
	// Those that wait in a bulkhead are flights: they do not count.
	for counts := range 4 * 4 * 4 {
		s, want := flown([]impl.Origin{busyAt("a", 1, 4), busyAt("b", 1)}, fly(3, "a"), wait(4, "A"), fly(5, "b")), int64(0)
		for i, rest := 0, counts; i < 3; i, rest = i+1, rest/4 {
			n := []int64{0, 1, 2, 10}[rest%4]
			s.Flights[i].Waiters = manyWaiters(int64(100*i), n)
			want += n
		}
		if got := impl.WaitingIn(s); got != (impl.IntResult{Value: want}) {
			t.Errorf("WaitingIn %s = %+v, want %d", shownShield(s), got, want)
		}
	}
	s := withOrigins(idle("a", "b", "c")...)
	for i := range int64(24) {
		f := fly(i, string(rune('a'+i/8)))
		f.Waiters = manyWaiters(100*i, 10)
		s.Flights = append(s.Flights, f)
	}
	s.Next, s.Config.Lanes.Slots = 24, 8
	for i := range s.Origins {
		s.Origins[i].Bulk.Busy = 8
	}
	if got := impl.WaitingIn(s); got != (impl.IntResult{Value: 240}) {
		t.Errorf("WaitingIn as many flights as may be = %+v", got)
	}
	checkShieldCode(t, "as many flights as may be", s, impl.OK)
}

func TestOutTo(t *testing.T) {
	for host, want := range map[string]int64{
		"a.com": 2, "b-2.org": 0, "c": 1, "A.com": 0, "A.COM": 0, "C": 0, "d": 0, "": 0, "a.com.": 0, ".com": 0, "a": 0, "\xff": 0, "a_b": 0, strings.Repeat("h", 100000): 0,
	} {
		if got := impl.OutTo(busyShield(), host); got != (impl.IntResult{Value: want}) {
			t.Errorf("OutTo %s = %+v, want %d", shown(host), got, want)
		}
	}
	for out := range int64(9) {
		for waits := range int64(9) {
			s := impl.NewShield(busyConfig()).Shield
			s.Config.Lanes = impl.Lanes{Slots: 8, Cap: 8, Time: 5}
			s.Next, s.Origins = 50, []impl.Origin{busyAt("b", 1), busyAt("a", out), busyAt("c", 0)}
			s.Flights = append(s.Flights, fly(0, "b"))
			for i := range out {
				s.Flights = append(s.Flights, fly(10+i, "A"))
			}
			for i := range waits {
				s.Flights = append(s.Flights, wait(20+i, "a"))
				s.Origins[1].Bulk.Queue = append(s.Origins[1].Bulk.Queue, impl.Wait{Id: 20 + i})
			}
			for host, want := range map[string]int64{"a": out, "b": 1, "c": 0, "A": 0} {
				if got := impl.OutTo(s, host); got != (impl.IntResult{Value: want}) {
					t.Errorf("OutTo %s in %s = %+v, want %d", host, shownShield(s), got, want)
				}
			}
		}
	}
}

// turnsOfShields each turn one field of the busy shield.
func turnsOfShields() []func(s *impl.Shield) {
	list := []func(s *impl.Shield){
		func(s *impl.Shield) { s.Now++ }, func(s *impl.Shield) { s.Now = -s.Now }, func(s *impl.Shield) { s.Next-- }, func(s *impl.Shield) { s.Next = 0 }, func(s *impl.Shield) { s.Now, s.Next = s.Next, s.Now },
		func(s *impl.Shield) { s.Config.Names = nil }, func(s *impl.Shield) { s.Config.Names = s.Config.Names[:1] }, func(s *impl.Shield) { s.Config.Names[0] = "accept" }, func(s *impl.Shield) { s.Config.Names[1] = "" }, func(s *impl.Shield) { slices.Reverse(s.Config.Names) }, func(s *impl.Shield) { s.Config.Names = append(s.Config.Names, "") },
		func(s *impl.Shield) { s.Config = impl.Config{} }, func(s *impl.Shield) { s.Store = impl.Store{} }, func(s *impl.Shield) { s.Origins = nil }, func(s *impl.Shield) { s.Flights = nil },
		func(s *impl.Shield) { s.Store.Budget++ }, func(s *impl.Shield) { s.Store.Guard-- }, func(s *impl.Shield) { s.Store.Trial, s.Store.Kept = s.Store.Kept, s.Store.Trial }, func(s *impl.Shield) { s.Store.Trial = s.Store.Trial[1:] }, func(s *impl.Shield) { s.Store.Kept = s.Store.Kept[:1] }, func(s *impl.Shield) { s.Store.Trial = nil }, func(s *impl.Shield) { s.Store.Kept = nil }, func(s *impl.Shield) { slices.Reverse(s.Store.Kept) }, func(s *impl.Shield) { s.Store.Kept = append(s.Store.Kept, plain("x")) },
		func(s *impl.Shield) { s.Origins = s.Origins[:2] }, func(s *impl.Shield) { s.Origins = s.Origins[1:] }, func(s *impl.Shield) { slices.Reverse(s.Origins) }, func(s *impl.Shield) { s.Origins = append(s.Origins, impl.Origin{}) }, func(s *impl.Shield) { s.Origins[1] = s.Origins[0] },
		func(s *impl.Shield) { s.Flights = s.Flights[:5] }, func(s *impl.Shield) { s.Flights = s.Flights[1:] }, func(s *impl.Shield) { slices.Reverse(s.Flights) }, func(s *impl.Shield) { s.Flights = append(s.Flights, impl.Flight{}) }, func(s *impl.Shield) { s.Flights[3] = s.Flights[2] },
		func(s *impl.Shield) { s.Origins[0].Bulk.Queue[1].Id++ }, func(s *impl.Shield) { s.Origins[0].Bulk.Queue[0].Due-- }, func(s *impl.Shield) { s.Origins[2].Bulk.Queue = nil }, func(s *impl.Shield) { slices.Reverse(s.Origins[0].Bulk.Queue) }, func(s *impl.Shield) { s.Origins[1].Bulk.Queue = []impl.Wait{{}} },
		func(s *impl.Shield) { s.Origins[0].Breaker.Marks[1].At++ }, func(s *impl.Shield) { s.Origins[0].Breaker.Marks[0].Good = false }, func(s *impl.Shield) { s.Origins[0].Breaker.Marks = nil }, func(s *impl.Shield) { slices.Reverse(s.Origins[0].Breaker.Marks) }, func(s *impl.Shield) { s.Origins[1].Breaker.Marks = []impl.Mark{{}} },
	}
	for _, field := range configFields() {
		list = append(list, func(s *impl.Shield) { *field.of(&s.Config)++ })
	}
	for place := range 3 {
		list = append(list,
			func(s *impl.Shield) { s.Origins[place].Host += "x" }, func(s *impl.Shield) { s.Origins[place].Host = strings.ToUpper(s.Origins[place].Host) }, func(s *impl.Shield) { s.Origins[place].Host = "" }, func(s *impl.Shield) { s.Origins[place].Bulk.Busy++ },
			func(s *impl.Shield) { s.Origins[place].Breaker.State = 9 }, func(s *impl.Shield) { s.Origins[place].Breaker.Since-- }, func(s *impl.Shield) { s.Origins[place].Breaker.Out++ })
	}
	for place := range 2 {
		for _, turn := range []func(e *impl.Entry){
			func(e *impl.Entry) { e.Key += "x" }, func(e *impl.Entry) { e.Status++ }, func(e *impl.Entry) { e.Pins++ }, func(e *impl.Entry) { e.Headers = append(e.Headers, head("a", "b")) }, func(e *impl.Entry) { e.Body = append(e.Body, 0) }, func(e *impl.Entry) { e.Tags = append(e.Tags, "") },
			func(e *impl.Entry) { e.Meta.At++ }, func(e *impl.Entry) { e.Meta.Age++ }, func(e *impl.Entry) { e.Meta.Life++ }, func(e *impl.Entry) { e.Meta.Swr++ }, func(e *impl.Entry) { e.Meta.Sie++ }, func(e *impl.Entry) { e.Meta.Soft = !e.Meta.Soft }, func(e *impl.Entry) { e.Meta.NoCache = !e.Meta.NoCache },
		} {
			list = append(list, func(s *impl.Shield) { turn(&s.Store.Trial[place]) }, func(s *impl.Shield) { turn(&s.Store.Kept[place]) })
		}
	}
	for _, turn := range turnsOfOneField() {
		// These are for flights with two lines and two who wait; the Due of one that waits is 0.
		list = append(list, func(s *impl.Shield) { turn(&s.Flights[0]) }, func(s *impl.Shield) { turn(&s.Flights[5]) })
	}
	return list
}

func TestSameShields(t *testing.T) {
	made := func() impl.Shield {
		s := busyShield()
		for i := range s.Flights {
			s.Flights[i].Get.Headers = []impl.Header{head("accept", "q"), head("b", "c")}
		}
		s.Flights[0].Get.Host, s.Flights[5].Get.Host = "b.com", "b.com"
		return s
	}
	if !impl.SameShields(made(), made()) || !impl.SameShields(busyShield(), busyShield()) {
		t.Error("the same shields are not the same")
	}
	for i, turn := range turnsOfShields() {
		a, b := made(), made()
		turn(&b)
		if impl.SameShields(a, b) || impl.SameShields(b, a) {
			t.Errorf("turn %d: they are the same", i)
		}
		turn(&a)
		if !impl.SameShields(a, b) {
			t.Errorf("turn %d: they are not the same", i)
		}
	}
}

func TestSameShieldsOfAny(t *testing.T) {
	bare := impl.Shield{Config: impl.Config{}, Store: impl.Store{}}
	empty := impl.Shield{Config: impl.Config{Names: []string{}}, Store: impl.Store{Trial: []impl.Entry{}, Kept: []impl.Entry{}}, Origins: []impl.Origin{}, Flights: []impl.Flight{}}
	if !impl.SameShields(bare, empty) || !impl.SameShields(empty, bare) {
		t.Error("nothing and an empty list are not the same")
	}
	bare.Origins, empty.Origins = idle("a"), []impl.Origin{{Host: "a", Bulk: impl.Bulk{Queue: []impl.Wait{}}, Breaker: impl.Breaker{Marks: []impl.Mark{}}}}
	bare.Flights, empty.Flights = make([]impl.Flight, 1), []impl.Flight{{Get: impl.Request{Headers: []impl.Header{}}, Waiters: []impl.Waiter{}}}
	bare.Store.Kept, empty.Store.Kept = make([]impl.Entry, 1), []impl.Entry{{Headers: []impl.Header{}, Body: []byte{}, Tags: []string{}}}
	if !impl.SameShields(bare, empty) || !impl.SameShields(empty, bare) {
		t.Error("nothing and an empty list in their lists are not the same")
	}
	// Faults do not tell.
	for _, turn := range shieldTurns() {
		a, b := busyShield(), busyShield()
		turn.turn(&a)
		turn.turn(&b)
		if !impl.SameShields(a, b) || impl.SameShields(a, busyShield()) {
			t.Errorf("a shield with a fault: %s", turn.what)
		}
	}
	for _, wrong := range []impl.Shield{
		{Now: math.MinInt64}, {Next: -1}, {Config: impl.Config{Names: make([]string, 500)}}, {Origins: make([]impl.Origin, 500)}, {Flights: make([]impl.Flight, 500)}, {Store: impl.Store{Trial: make([]impl.Entry, 500)}},
		{Origins: []impl.Origin{{Bulk: impl.Bulk{Queue: make([]impl.Wait, 500)}}}}, {Origins: []impl.Origin{{Breaker: closedWith(-1, make([]impl.Mark, 500)...)}}},
	} {
		if !impl.SameShields(wrong, wrong) || impl.SameShields(wrong, impl.Shield{}) || impl.SameShields(impl.Shield{}, wrong) {
			t.Errorf("a shield with a fault: %s", shownShield(wrong))
		}
	}
}

var shieldHosts = []string{"a.com", "b-2.org", "c", "x.y.z", "0", "a.co", strings.Repeat("h", 60)}

func chosenConfig(source *rand.Rand) impl.Config {
	c := impl.Config{
		Budget: 500000 + source.Int63n(500001), Neg: chosenTime(source), Early: source.Int63n(1000001), FetchTime: 1 + source.Int63n(1000000), WaitTime: source.Int63n(1000001), WaitCap: 1 + source.Int63n(10),
		Lanes: chosenLanes(source), Rules: chosenRules(source),
	}
	c.Guard, c.ObjCost = source.Int63n(c.Budget+1), source.Int63n(c.Budget+1)
	for range source.Intn(5) {
		c.Names = append(c.Names, keyNames[source.Intn(rightKeyNames)])
	}
	return c
}

// chosenShield has no fault.
func chosenShield(source *rand.Rand) impl.Shield {
	s := impl.Shield{Config: chosenConfig(source), Now: []int64{35, 60, impl.MaxTime}[source.Intn(3)], Store: chosenStore(source, 0), Flights: chosenFlights(source, []int{3, 8, 24}[source.Intn(3)])}
	for _, list := range [][]impl.Entry{s.Store.Trial, s.Store.Kept} {
		for i := range list {
			list[i].Meta.At = []int64{0, min(list[i].Meta.At, s.Now), s.Now}[source.Intn(3)]
			if source.Intn(4) == 0 {
				list[i].Headers = sameLines(head("a", "b"), 17)
			}
		}
	}
	s.Store.Guard = costWanted(s.Store.Kept...) + chosenRoom(source)
	s.Store.Budget = min(impl.MaxBudget, s.Store.Guard+costWanted(s.Store.Trial...)+chosenRoom(source))
	s.Config.Budget, s.Config.Guard, s.Config.ObjCost = s.Store.Budget, s.Store.Guard, source.Int63n(s.Store.Budget+1)
	for _, at := range source.Perm(len(shieldHosts))[:source.Intn(7)] {
		o := impl.Origin{Host: shieldHosts[at], Breaker: chosenBreaker(source)}
		if isAheadWanted(o.Breaker, s.Now) {
			o.Breaker = openSince(source.Int63n(s.Now + 1))
		}
		s.Origins = append(s.Origins, o)
	}
	seatFlights(source, &s)
	return s
}

func isAheadWanted(b impl.Breaker, now int64) bool {
	return b.Since > now || len(b.Marks) > 0 && b.Marks[len(b.Marks)-1].At > now
}

// seatFlights sends the flights of a shield to its origins: each is out or waits, as long as there is room.
func seatFlights(source *rand.Rand, s *impl.Shield) {
	var list []impl.Flight
	for _, f := range s.Flights {
		if len(s.Origins) == 0 {
			break
		}
		o := &s.Origins[source.Intn(len(s.Origins))]
		f.Get.Host = writtenAnew(source, o.Host)
		switch f.Out = source.Intn(2) == 0; {
		case f.Out && o.Bulk.Busy < s.Config.Lanes.Slots:
			o.Bulk.Busy++
		case int64(len(o.Bulk.Queue)) < s.Config.Lanes.Cap:
			f.Out, f.Due = false, 0
			o.Bulk.Queue = slices.Insert(o.Bulk.Queue, source.Intn(len(o.Bulk.Queue)+1), impl.Wait{Id: f.Id, Due: source.Int63n(99)})
		default:
			continue
		}
		list = append(list, f)
		s.Next = f.Id + 1
	}
	s.Flights, s.Next = list, min(impl.MaxTime, s.Next+source.Int63n(3))
}

// turnShieldWrongly gives a shield what is most likely a fault.
func turnShieldWrongly(source *rand.Rand, s *impl.Shield) {
	n := edgeNumbers[source.Intn(len(edgeNumbers))]
	if source.Intn(3) == 0 || len(s.Origins) == 0 || len(s.Flights) == 0 {
		switch source.Intn(6) {
		case 0:
			*[]*int64{&s.Now, &s.Next}[source.Intn(2)] = n
		case 1:
			fields := configFields()
			*fields[source.Intn(len(fields))].of(&s.Config) = n
		case 2:
			s.Config.Names = chosenNames(source, 6)
		case 3:
			faultIn(source, &s.Store)
		case 4:
			*[]*int64{&s.Store.Budget, &s.Store.Guard, &s.Config.Budget, &s.Config.Guard}[source.Intn(4)] += source.Int63n(3) - 1
		case 5:
			s.Origins = append(s.Origins, idle("d", "e", "f", "g")...)
		}
		return
	}
	o, f := &s.Origins[source.Intn(len(s.Origins))], &s.Flights[source.Intn(len(s.Flights))]
	switch source.Intn(12) {
	case 0:
		o.Host = askHosts[source.Intn(len(askHosts))]
	case 1:
		lanes := s.Config.Lanes
		turnBulkWrongly(source, &o.Bulk, &lanes)
	case 2:
		rules := s.Config.Rules
		turnWrongly(source, &o.Breaker, &rules)
	case 3:
		o.Host = s.Origins[0].Host
	case 4:
		turnFlightWrongly(source, f)
	case 5:
		s.Flights = turnFlightsWrongly(source, s.Flights)
	case 6:
		s.Next -= source.Int63n(4)
	case 7:
		f.Get.Host = askHosts[source.Intn(rightHosts)]
	case 8:
		f.Out = !f.Out
	case 9:
		o.Bulk.Busy += source.Int63n(3) - 1
	case 10:
		f.Id += source.Int63n(3) - 1
	case 11:
		s.Now -= source.Int63n(40)
	}
}

// shieldArguments stand for a call of each function of chapter 14.
type shieldArguments struct {
	shield, other impl.Shield
	config        impl.Config
	host          string
}

// manyShields have a fault one time in so many (none, where that is 0).
func manyShields(seed int64, count, wrong int) []shieldArguments {
	source := rand.New(rand.NewSource(seed))
	list := make([]shieldArguments, count)
	for i := range list {
		a := shieldArguments{shield: chosenShield(source), config: chosenConfig(source)}
		a.other = []impl.Shield{copyOfShield(a.shield), chosenShield(source)}[source.Intn(2)]
		a.host = shieldHosts[source.Intn(len(shieldHosts))]
		if count := len(a.shield.Origins); count > 0 && source.Intn(3) > 0 {
			a.host = a.shield.Origins[source.Intn(count)].Host
		}
		if source.Intn(6) == 0 {
			a.host = writtenAnew(source, a.host)
		}
		if wrong > 0 && source.Intn(wrong) == 0 {
			turnShieldWrongly(source, &a.shield)
		}
		if wrong > 0 && source.Intn(wrong) == 0 {
			turns := configTurns()
			turns[source.Intn(len(turns))].turn(&a.config)
		}
		list[i] = a
	}
	return list
}

type shieldAnswers struct {
	faults         [2]int64
	made           impl.ShieldResult
	origin         impl.OriginResult
	waiting, outTo impl.IntResult
	same           bool
}

func askShield(a shieldArguments) shieldAnswers {
	return shieldAnswers{
		faults: [2]int64{impl.ConfigFault(a.config), impl.ShieldFault(a.shield)}, made: impl.NewShield(a.config), origin: impl.OriginOf(a.shield, a.host),
		waiting: impl.WaitingIn(a.shield), outTo: impl.OutTo(a.shield, a.host), same: impl.SameShields(a.shield, a.other),
	}
}

func shieldsWanted(a shieldArguments) shieldAnswers {
	return shieldAnswers{
		faults: [2]int64{configWanted(a.config), shieldWanted(a.shield)}, made: newShieldWanted(a.config), origin: originOfWanted(a.shield, a.host),
		waiting: waitingWanted(a.shield), outTo: outToWanted(a.shield, a.host), same: sameShield(a.shield, a.other),
	}
}

func (a shieldAnswers) equals(b shieldAnswers) bool {
	return a.faults == b.faults && sameMade(a.made, b.made) && sameFound(a.origin, b.origin) && a.waiting == b.waiting && a.outTo == b.outTo && a.same == b.same
}

func TestManyShields(t *testing.T) {
	codes, turns := map[string]map[int64]int{"config": {}, "shield": {}, "origin": {}}, map[string]int{}
	for i, a := range manyShields(141, 8000, 2) {
		got, want := askShield(a), shieldsWanted(a)
		if !got.equals(want) {
			t.Fatalf("%d: %s, %s, %+v:\n%+v\nwant\n%+v", i, shownShield(a.shield), shown(a.host), a.config, got, want)
		}
		codes["config"][got.faults[0]]++
		codes["shield"][got.faults[1]]++
		codes["origin"][got.origin.Code]++
		if got.outTo.Value > 1 && len(got.origin.Origin.Bulk.Queue) > 1 {
			turns["some out and some wait"]++
		}
		if got.waiting.Value > 10 {
			turns["many wait"]++
		}
		if got.same && len(a.shield.Flights) > 2 {
			turns["the same"]++
		}
		if got.faults[1] == impl.OK && len(a.shield.Origins) == 6 && len(a.shield.Flights) > 10 {
			turns["much is going on"]++
		}
	}
	for what, wanted := range map[string][]int64{
		"config": {impl.OK, impl.ErrMany, impl.ErrRange, impl.ErrText}, "shield": {impl.OK, impl.ErrForm, impl.ErrMany, impl.ErrRange, impl.ErrText, impl.ErrTaken, impl.ErrFull, impl.ErrState}, "origin": {impl.OK, impl.ErrNone},
	} {
		for _, code := range wanted {
			if codes[what][code] < 20 {
				t.Errorf("only %d times %s told the code %d", codes[what][code], what, code)
			}
		}
	}
	for _, turn := range []string{"some out and some wait", "many wait", "the same", "much is going on"} {
		if turns[turn] < 50 {
			t.Errorf("only %d times: %s", turns[turn], turn)
		}
	}
}

// Promise 15: a new shield is a right one, and has nothing in it.
func TestPromise15NewShields(t *testing.T) {
	made := 0
	for i, a := range manyShields(142, 4000, 3) {
		told := impl.NewShield(a.config)
		if told.Code != impl.ConfigFault(a.config) {
			t.Fatalf("%d: the code %d of %+v", i, told.Code, a.config)
		}
		s := told.Shield
		if told.Code != impl.OK {
			if !sameShield(s, impl.Shield{}) {
				t.Fatalf("%d: a shield stands beside the code %d", i, told.Code)
			}
			continue
		}
		made++
		if impl.ShieldFault(s) != impl.OK || !sameConfig(s.Config, a.config) || s.Now != 0 || s.Next != 0 {
			t.Fatalf("%d: %s is made of %+v", i, shownShield(s), a.config)
		}
		if len(s.Origins)+len(s.Flights)+len(s.Store.Trial)+len(s.Store.Kept) != 0 || impl.CostIn(s.Store) != (impl.IntResult{}) || impl.WaitingIn(s) != (impl.IntResult{}) || !impl.SameStores(s.Store, impl.NewStore(a.config.Budget, a.config.Guard).Store) {
			t.Fatalf("%d: there is something in %s", i, shownShield(s))
		}
		for _, host := range append([]string{a.host, ""}, shieldHosts...) {
			if impl.OutTo(s, host) != (impl.IntResult{}) || impl.OriginOf(s, host).Code != impl.ErrNone {
				t.Fatalf("%d: there is an origin %s", i, shown(host))
			}
		}
		if !impl.SameShields(s, impl.NewShield(a.config).Shield) {
			t.Fatalf("%d: made once more it is another one", i)
		}
	}
	if made < 1500 {
		t.Errorf("only %d were made", made)
	}
	// With Names and without.
	for _, names := range [][]string{nil, {}, {"a"}, {"Accept", "b", "C", "~"}} {
		c := busyConfig()
		c.Names = names
		if got := impl.NewShield(c); got.Code != impl.OK || !slices.Equal(got.Shield.Config.Names, names) || impl.ShieldFault(got.Shield) != impl.OK {
			t.Errorf("NewShield with the Names %q: %+v", names, got)
		}
	}
}

// Promise 15, and what a right one is: what is out and what waits is told by it, origin by origin.
func TestPromise15RightShieldsTellWhatIsOut(t *testing.T) {
	found := 0
	for i, a := range manyShields(143, 3000, 0) {
		s, out, waits := a.shield, int64(0), 0
		if code := impl.ShieldFault(s); code != impl.OK {
			t.Fatalf("%d: %s has the fault %d", i, shownShield(s), code)
		}
		for _, o := range s.Origins {
			told := impl.OriginOf(s, o.Host)
			if told.Code != impl.OK || impl.OutTo(s, o.Host) != (impl.IntResult{Value: told.Origin.Bulk.Busy}) || told.Origin.Bulk.Busy > s.Config.Lanes.Slots {
				t.Fatalf("%d: %q is %+v, and %+v are out", i, o.Host, told, impl.OutTo(s, o.Host))
			}
			out, waits = out+told.Origin.Bulk.Busy, waits+len(told.Origin.Bulk.Queue)
			found++
		}
		if out+int64(waits) != int64(len(s.Flights)) {
			t.Fatalf("%d: %d are out and %d wait, of %d", i, out, waits, len(s.Flights))
		}
	}
	if found < 5000 {
		t.Errorf("only %d origins were found", found)
	}
}

// bare: nothing stands beside a code.
func (a shieldAnswers) bare() bool {
	return (a.made.Code == impl.OK || sameMade(a.made, impl.ShieldResult{Code: a.made.Code})) && (a.origin.Code == impl.OK || sameFound(a.origin, impl.OriginResult{Code: a.origin.Code})) &&
		(a.waiting.Code == impl.OK || a.waiting.Value == 0) && (a.outTo.Code == impl.OK || a.outTo.Value == 0)
}

func givenTexts(list []string) []string {
	own := make([]string, len(list))
	for i, text := range list {
		own[i] = strings.Clone(text)
	}
	return roomyList(own, "behind")
}

func givenOrigin(o impl.Origin) impl.Origin {
	return impl.Origin{
		Host: strings.Clone(o.Host), Bulk: impl.Bulk{Busy: o.Bulk.Busy, Queue: roomyList(o.Bulk.Queue, waitingAt(77, 78, 79, 80)...)},
		Breaker: impl.Breaker{State: o.Breaker.State, Since: o.Breaker.Since, Out: o.Breaker.Out, Marks: roomyList(o.Breaker.Marks, marked(7, "gb")...)},
	}
}

// givenShield is in memory of its own, with something behind each of its lists.
func givenShield(s impl.Shield) impl.Shield {
	var origins []impl.Origin
	for _, o := range s.Origins {
		origins = append(origins, givenOrigin(o))
	}
	s.Config.Names, s.Origins, s.Flights = givenTexts(s.Config.Names), roomyList(origins, givenOrigin(impl.Origin{Host: "behind"})), givenFlights(s.Flights)
	s.Store.Trial, s.Store.Kept = givenEntries(s.Store.Trial), givenEntries(s.Store.Kept)
	return s
}

func copyOfShield(s impl.Shield) impl.Shield {
	return givenShield(s)
}

func givenShields(a shieldArguments) shieldArguments {
	a.shield, a.other, a.host = givenShield(a.shield), givenShield(a.other), strings.Clone(a.host)
	a.config.Names = givenTexts(a.config.Names)
	return a
}

func wholeOrigin(o impl.Origin) impl.Origin {
	o.Bulk.Queue, o.Breaker.Marks = slices.Clone(o.Bulk.Queue[:cap(o.Bulk.Queue)]), slices.Clone(o.Breaker.Marks[:cap(o.Breaker.Marks)])
	return o
}

// wholeShield has all that stands in the memory of its lists in them.
func wholeShield(s impl.Shield) impl.Shield {
	var origins []impl.Origin
	for _, o := range s.Origins[:cap(s.Origins)] {
		origins = append(origins, wholeOrigin(o))
	}
	s.Config.Names, s.Origins, s.Flights = slices.Clone(s.Config.Names[:cap(s.Config.Names)]), origins, wholeFlights(s.Flights)
	s.Store.Trial, s.Store.Kept = wholeEntries(s.Store.Trial), wholeEntries(s.Store.Kept)
	return s
}

func wholeShields(a shieldArguments) shieldArguments {
	a.shield, a.other = wholeShield(a.shield), wholeShield(a.other)
	a.config.Names = slices.Clone(a.config.Names[:cap(a.config.Names)])
	return a
}

func sameShieldArguments(a, b shieldArguments) bool {
	return sameShield(a.shield, b.shield) && sameShield(a.other, b.other) && sameConfig(a.config, b.config) && a.host == b.host
}

// scribbleShield writes over all lists of a shield, and behind them.
func scribbleShield(s impl.Shield) {
	overwrite(s.Config.Names, "spoiled")
	scribbleEntries(s.Store.Trial)
	scribbleEntries(s.Store.Kept)
	for _, o := range s.Origins[:cap(s.Origins)] {
		scribbleOrigin(o)
	}
	overwrite(s.Origins, impl.Origin{Host: "spoiled"})
	for _, f := range s.Flights[:cap(s.Flights)] {
		scribbleFlight(f)
	}
	overwrite(s.Flights, impl.Flight{Id: -9, Key: "spoiled"})
}

func scribbleOrigin(o impl.Origin) {
	overwrite(o.Bulk.Queue, impl.Wait{Id: -9, Due: -9})
	overwrite(o.Breaker.Marks, impl.Mark{At: -9})
}

func (a shieldAnswers) scribble() {
	scribbleShield(a.made.Shield)
	scribbleOrigin(a.origin.Origin)
}

func spoilShields(a shieldArguments) {
	scribbleShield(a.shield)
	scribbleShield(a.other)
	overwrite(a.config.Names, "spoiled")
}

var chapter14 = chapter[shieldArguments, shieldAnswers]{
	ask: askShield, equal: shieldAnswers.equals, bare: shieldAnswers.bare, given: givenShields, whole: wholeShields, same: sameShieldArguments, spoil: spoilShields, scribble: shieldAnswers.scribble,
}

func TestPromise1ShieldsHangOnArgumentsAlone(t *testing.T) {
	chapter14.hangsOnArguments(t, manyShields(144, 1500, 3))
	// An empty list and none are the same.
	for i, a := range manyShields(145, 1500, 3) {
		a.config.Names, a.shield.Config.Names = nil, nil
		b := a
		b.config.Names, b.shield.Config.Names = []string{}, []string{}
		if len(a.shield.Flights)%2 == 0 {
			a.shield.Flights, a.shield.Origins = nil, idle("a.com")
			b.shield.Flights, b.shield.Origins = []impl.Flight{}, []impl.Origin{{Host: "a.com", Bulk: impl.Bulk{Queue: []impl.Wait{}}, Breaker: impl.Breaker{Marks: []impl.Mark{}}}}
			a.host, b.host = "a.com", "a.com"
		}
		if len(a.shield.Store.Trial)%2 == 0 {
			a.shield.Store.Trial, a.shield.Store.Kept = nil, nil
			b.shield.Store.Trial, b.shield.Store.Kept = []impl.Entry{}, []impl.Entry{}
		}
		if !askShield(b).equals(askShield(a)) {
			t.Errorf("%d: with empty lists it is another answer", i)
		}
	}
}

func TestPromise1ShieldsAreLeftAsTheyWere(t *testing.T) {
	chapter14.leavesArguments(t, manyShields(146, 2000, 8))
}

func TestPromise1ShieldsAreNewMemory(t *testing.T) {
	chapter14.tellsNewMemory(t, manyShields(147, 2000, 8))
}

// textsOfShield are all texts of a shield.
func textsOfShield(s impl.Shield) []string {
	texts := append(textsIn(slices.Concat(s.Store.Trial, s.Store.Kept)...), s.Config.Names...)
	for _, o := range s.Origins {
		texts = append(texts, o.Host)
	}
	for _, f := range s.Flights {
		texts = append(texts, textsOfFlight(f)...)
	}
	return texts
}

// Promise 1: the texts in what chapter 14 tells are new memory.
func TestPromise1ShieldTextsAreNewMemory(t *testing.T) {
	told := 0
	for i, a := range manyShields(148, 600, 0) {
		given := givenShields(a)
		arguments := slices.Concat(textsOfShield(given.shield), given.config.Names, []string{given.host})
		answers := askShield(given)
		pieces := append(textsOfShield(answers.made.Shield), answers.origin.Origin.Host)
		for at, piece := range pieces {
			for _, argument := range arguments {
				// Texts of one byte stand once in the runtime, whoever makes them.
				if len(piece) > 1 && shareMemory(piece, argument) {
					t.Fatalf("%d: %s shares memory with %s", i, shown(piece), shown(argument))
				}
			}
			for _, other := range pieces[:at] {
				if len(piece) > 1 && shareMemory(piece, other) {
					t.Fatalf("%d: %s and %s of the answers share memory", i, shown(piece), shown(other))
				}
			}
			told += len(piece)
		}
	}
	if told < 5000 {
		t.Errorf("only %d bytes were told", told)
	}
}

// Promise 1: no two lists of one answer share memory, nor do those of two answers.
func TestPromise1ListsOfShieldsAreApart(t *testing.T) {
	for i, a := range manyShields(149, 1000, 0) {
		first, second := impl.OriginOf(a.shield, a.host), impl.OriginOf(a.shield, a.host)
		want := wholeOrigin(givenOrigin(second.Origin))
		_ = append(first.Origin.Bulk.Queue, impl.Wait{Id: -9})
		_ = append(first.Origin.Breaker.Marks, impl.Mark{At: -9})
		scribbleOrigin(first.Origin)
		if !sameOrigin(wholeOrigin(givenOrigin(second.Origin)), want) {
			t.Fatalf("%d: two answers share a list", i)
		}
		made, more := impl.NewShield(a.config), impl.NewShield(a.config)
		scribbleShield(made.Shield)
		if !sameMade(more, newShieldWanted(a.config)) {
			t.Fatalf("%d: two shields share a list", i)
		}
	}
}
