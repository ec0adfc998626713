package tests

import (
	"cmp"
	"fmt"
	"math/rand"
	"reflect"
	"slices"
	"strings"
	"testing"
	"unsafe"

	"loop.example/g00665/impl"
)

// The signatures and the types as the document tells them.
var (
	_ func(impl.Event) int64                        = impl.EventFault
	_ func(impl.Shield, impl.Event) impl.StepResult = impl.StepShield
	_ func([]impl.Out, []impl.Out) bool             = impl.SameOuts

	_ = impl.Event{Kind: int64(0), Id: int64(0), Draw: int64(0), Request: impl.Request{}, Response: impl.Response{}, Text: "", Hard: false}
	_ = impl.Out{Kind: int64(0), Id: int64(0), Source: "", Response: impl.Response{}, Request: impl.Request{}}
	_ = impl.StepResult{Code: int64(0), Shield: impl.Shield{}, Outs: []impl.Out{}}
)

func asking(id int64, r impl.Request) impl.Event {
	return impl.Event{Kind: impl.EvAsk, Id: id, Request: r}
}

func replying(id, status int64, body string, list ...impl.Header) impl.Event {
	return impl.Event{Kind: impl.EvReply, Id: id, Response: response(status, body, list...)}
}

func failing(id int64) impl.Event {
	return impl.Event{Kind: impl.EvFail, Id: id}
}

func ticking(time int64) impl.Event {
	return impl.Event{Kind: impl.EvTick, Id: time}
}

func purging(kind int64, text string, hard bool) impl.Event {
	return impl.Event{Kind: kind, Text: text, Hard: hard}
}

func sameOut(a, b impl.Out) bool {
	return a.Kind == b.Kind && a.Id == b.Id && a.Source == b.Source && sameTold(a.Response, b.Response) && sameAsked(a.Request, b.Request)
}

func sameStep(a, b impl.StepResult) bool {
	return a.Code == b.Code && sameShield(a.Shield, b.Shield) && slices.EqualFunc(a.Outs, b.Outs, sameOut)
}

// saidIn are outs as a text: an answer is an Id, a source, a Status and a Body, a fetch an Id, where it goes and the mark of what is kept.
func saidIn(outs []impl.Out) string {
	var said []string
	for _, o := range outs {
		text := fmt.Sprint("fetch ", o.Id, " ", o.Request.Host, o.Request.Path)
		if mark := impl.JoinHeader(o.Request.Headers, "If-None-Match"); mark.Code == impl.OK {
			text += " if " + mark.Text
		}
		if o.Kind == impl.OutAnswer {
			text = strings.TrimSuffix(fmt.Sprint(o.Id, " ", o.Source, " ", o.Response.Status, " ", string(o.Response.Body)), " ")
		}
		said = append(said, text)
	}
	return strings.Join(said, "; ")
}

func shownEvent(e impl.Event) string {
	return fmt.Sprintf("event %d of %d, draw %d, %q, %s, %s %v", e.Kind, e.Id, e.Draw, e.Request, shownResponse(e.Response), shown(e.Text), e.Hard)
}

// The working-out of the document once more.
func isNoRequest(r impl.Request) bool {
	return r.Method+r.Host+r.Path == "" && len(r.Headers) == 0
}

func isNoResponse(r impl.Response) bool {
	return r.Status == 0 && len(r.Headers)+len(r.Body) == 0
}

func eventWanted(e impl.Event) int64 {
	if e.Kind < 1 || e.Kind > 7 {
		return impl.ErrForm
	}
	// One letter for each field that a kind names.
	named := []string{"", "IDQ", "IP", "I", "I", "TH", "TH", "H"}[e.Kind]
	for letter, zero := range map[string]bool{"I": e.Id == 0, "D": e.Draw == 0, "Q": isNoRequest(e.Request), "P": isNoResponse(e.Response), "T": e.Text == "", "H": !e.Hard} {
		if !zero && !strings.Contains(named, letter) {
			return impl.ErrForm
		}
	}
	if e.Kind <= 4 && !isTime(e.Id) || e.Kind == 1 && !within(e.Draw, 0, 999) {
		return impl.ErrRange
	}
	if e.Kind == 1 {
		return requestWanted(e.Request)
	}
	if e.Kind == 2 {
		return responseWanted(e.Response)
	}
	return codeWhere(len(e.Text) <= 500, impl.ErrMany)
}

// worked is a shield while the document is worked out; ways are which of its cases came about.
type worked struct {
	s    impl.Shield
	outs []impl.Out
	ways []string
}

func (w *worked) went(way ...any) {
	w.ways = append(w.ways, fmt.Sprint(way...))
}

func (w *worked) entry(key string) (impl.Entry, bool) {
	for _, e := range heldIn(w.s.Store) {
		if e.Key == key {
			return e, true
		}
	}
	return impl.Entry{}, false
}

func (w *worked) mayBeTold(key string) bool {
	e, has := w.entry(key)
	return has && serveWanted(e.Meta, w.s.Now, true)
}

func (w *worked) answer(to impl.Waiter, source string, r impl.Response) {
	w.outs = append(w.outs, impl.Out{Kind: 1, Id: to.Req, Source: source, Response: r})
}

func (w *worked) tell(key, source string, to impl.Waiter) {
	w.s.Store = touchWanted(w.s.Store, key).Store
	e, _ := w.entry(key)
	w.answer(to, source, answerWanted(e, w.s.Now, source, to.Head).Response)
}

func (w *worked) turnAway(key string, status int64, list []impl.Waiter) {
	for _, to := range list {
		if w.mayBeTold(key) {
			w.went("stale for ", status)
			w.tell(key, "stale", to)
			continue
		}
		w.went("error ", status)
		w.answer(to, "error", impl.Response{Status: status, Headers: []impl.Header{head("X-Cache", "error")}})
	}
}

func (w *worked) relay(r impl.Response, list []impl.Waiter) {
	for _, to := range list {
		w.went("relayed")
		w.answer(to, "miss", relayWanted(r, to.Head).Response)
	}
}

func (w *worked) flight(id int64) int {
	return slices.IndexFunc(w.s.Flights, func(f impl.Flight) bool { return f.Id == id })
}

func (w *worked) flightOf(key string) int {
	return slices.IndexFunc(w.s.Flights, func(f impl.Flight) bool { return f.Key == key })
}

func (w *worked) origin(host string) int {
	return slices.IndexFunc(w.s.Origins, func(o impl.Origin) bool { return o.Host == strings.ToLower(host) })
}

func (w *worked) pin(key string, by int64) {
	for _, list := range [][]impl.Entry{w.s.Store.Trial, w.s.Store.Kept} {
		for i, e := range list {
			if e.Key == key && within(e.Pins+by, 0, 20) {
				list[i].Pins += by
			} else if e.Key == key {
				w.went("pins stay at ", e.Pins)
			}
		}
	}
}

func (w *worked) send(id int64) {
	f := &w.s.Flights[w.flight(id)]
	f.Out, f.Due = true, heldSum(w.s.Now, w.s.Config.FetchTime)
	e, has := w.entry(f.Key)
	w.outs = append(w.outs, impl.Out{Kind: 2, Id: id, Request: fetchWanted(f.Get, e, has).Request})
}

func (w *worked) start(f impl.Flight, who string) bool {
	at, c := w.origin(f.Get.Host), w.s.Config
	if len(w.s.Flights) >= 24 {
		w.went(who, " refused: flights")
		return false
	}
	if at < 0 && len(w.s.Origins) >= 6 {
		w.went(who, " refused: origins")
		return false
	}
	if at < 0 {
		w.went(who, " at a new origin")
		w.s.Origins = append(w.s.Origins, impl.Origin{Host: strings.ToLower(f.Get.Host)})
		at = len(w.s.Origins) - 1
	}
	o := &w.s.Origins[at]
	started := o.Bulk.Busy < c.Lanes.Slots
	switch allowed := allowWanted(o.Breaker, c.Rules, w.s.Now); {
	case started && !allowed.Allowed:
		w.went(who, " refused: breaker ", o.Breaker.State)
		return false
	case started:
		w.went(who, " sent from ", o.Breaker.State)
		o.Breaker = allowed.Breaker
		o.Bulk.Busy++
	case int64(len(o.Bulk.Queue)) >= c.Lanes.Cap:
		w.went(who, " refused: queue")
		return false
	case o.Breaker.State == 1 && w.s.Now-o.Breaker.Since < c.Rules.Cool:
		w.went(who, " refused: cooling")
		return false
	default:
		w.went(who, " waits at ", o.Breaker.State)
		o.Bulk.Queue = append(o.Bulk.Queue, impl.Wait{Id: w.s.Next, Due: heldSum(w.s.Now, c.Lanes.Time)})
	}
	w.pin(f.Key, 1)
	f.Id = w.s.Next
	w.s.Next++
	w.s.Flights = append(w.s.Flights, f)
	if started {
		w.send(f.Id)
	}
	return true
}

func (w *worked) end(id int64) impl.Flight {
	at := w.flight(id)
	f := w.s.Flights[at]
	w.s.Flights = slices.Delete(slices.Clone(w.s.Flights), at, at+1)
	w.pin(f.Key, -1)
	return f
}

func (w *worked) free(host string, denied int) {
	o := &w.s.Origins[w.origin(host)]
	if len(o.Bulk.Queue) == 0 {
		w.went("free behind ", min(denied, 2), " denied")
		o.Bulk.Busy--
		return
	}
	next := o.Bulk.Queue[0].Id
	o.Bulk.Queue = slices.Clone(o.Bulk.Queue[1:])
	if allowed := allowWanted(o.Breaker, w.s.Config.Rules, w.s.Now); allowed.Allowed {
		w.went("next from ", o.Breaker.State)
		o.Breaker = allowed.Breaker
		w.send(next)
		return
	}
	w.went("denied by ", o.Breaker.State)
	f := w.end(next)
	w.turnAway(f.Key, 503, f.Waiters)
	w.free(host, denied+1)
}

func (w *worked) land(id int64, good bool) impl.Flight {
	o := &w.s.Origins[w.origin(w.s.Flights[w.flight(id)].Get.Host)]
	o.Breaker = noteWanted(o.Breaker, w.s.Config.Rules, w.s.Now, good).Breaker
	return w.end(id)
}

func (w *worked) asked(e impl.Event) int64 {
	for _, f := range w.s.Flights {
		for _, waits := range f.Waiters {
			if waits.Req == e.Id {
				return impl.ErrTaken
			}
		}
	}
	who := impl.Waiter{Req: e.Id, Head: e.Request.Method == "HEAD", Due: heldSum(w.s.Now, w.s.Config.WaitTime)}
	key := fullKeyWanted(e.Request, w.s.Config.Names).Text
	if len(key) > 500 {
		w.went("key too long")
		w.answer(who, "error", errorWanted(414).Response)
		return impl.OK
	}
	kept, has := w.entry(key)
	at := w.flightOf(key)
	phase := phaseWanted(kept.Meta, w.s.Now).Value
	w.went("ask in ", phase, " of ", has, ", flight ", at >= 0)
	back := impl.Flight{Key: key, Back: true, Get: e.Request}
	switch {
	case has && phase == 1:
		w.tell(key, "hit", who)
		if early := earlyWanted(kept.Meta, w.s.Now, w.s.Config.Early, e.Draw); early && at < 0 {
			w.start(back, "early")
		} else {
			w.went("hit, early ", early)
		}
	case has && phase == 2:
		w.tell(key, "stale", who)
		if at < 0 {
			w.start(back, "while")
		}
	case at < 0:
		if !w.start(impl.Flight{Key: key, Get: e.Request, Waiters: []impl.Waiter{who}}, "ask") {
			w.turnAway(key, 503, []impl.Waiter{who})
		}
	case int64(len(w.s.Flights[at].Waiters)) >= w.s.Config.WaitCap:
		w.went("no room at the flight")
		w.turnAway(key, 503, []impl.Waiter{who})
	default:
		f := &w.s.Flights[at]
		w.went("joins, back ", f.Back, ", doomed ", f.Doomed)
		who.Late = f.Doomed
		f.Back = false
		f.Waiters = append(slices.Clone(f.Waiters), who)
	}
	return impl.OK
}

func (w *worked) replied(e impl.Event) int64 {
	at := w.flight(e.Id)
	if at < 0 || !w.s.Flights[at].Out {
		return impl.ErrNone
	}
	r, asks := e.Response, impl.Ask{Names: w.s.Config.Names, Neg: w.s.Config.Neg, Now: w.s.Now}
	f := w.land(e.Id, r.Status <= 499)
	kept, has := w.entry(f.Key)
	var late, early []impl.Waiter
	for _, waits := range f.Waiters {
		if waits.Late && f.Doomed {
			waits.Late = false
			late = append(late, waits)
		} else {
			early = append(early, waits)
		}
	}
	switch {
	case f.Doomed:
		w.went("doomed, late ", len(late) > 0, ", early ", len(early) > 0)
		w.relay(r, early)
		w.free(f.Get.Host, 0)
		if len(late) > 0 && !w.start(impl.Flight{Key: f.Key, Get: f.Get, Waiters: late}, "late") {
			w.turnAway(f.Key, 503, late)
		}
		return impl.OK
	case r.Status >= 500:
		w.went("bad, entry ", has, ", told ", w.mayBeTold(f.Key))
		for _, to := range early {
			if w.mayBeTold(f.Key) {
				w.tell(f.Key, "stale", to)
			} else {
				w.relay(r, []impl.Waiter{to})
			}
		}
	case r.Status == 304:
		merged := mergeWanted(kept, r, asks)
		put := putWanted(w.s.Store, merged.Entry)
		w.went("unchanged, entry ", has, ", merge ", merged.Code, ", put ", put.Code)
		if has && merged.Code == impl.OK && put.Code == impl.OK {
			w.s.Store = put.Store
			for _, to := range early {
				w.tell(f.Key, "renewed", to)
			}
		} else {
			w.turnAway(f.Key, 502, early)
		}
	default:
		from := entryFromWanted(f.Key, r, asks)
		put := putWanted(w.s.Store, from.Entry)
		dear := costWanted(from.Entry) > w.s.Config.ObjCost
		w.went("new, entry ", has, ", from ", from.Code, ", dear ", from.Code == impl.OK && dear, ", put ", put.Code)
		if from.Code == impl.OK && !dear && put.Code == impl.OK {
			w.s.Store = put.Store
		} else {
			w.s.Store = without(w.s.Store, f.Key)
		}
		w.relay(r, early)
	}
	w.free(f.Get.Host, 0)
	return impl.OK
}

func (w *worked) gaveUp(id, status int64) {
	f := w.land(id, false)
	w.went("gave up for ", status, ", doomed ", f.Doomed)
	w.turnAway(f.Key, status, f.Waiters)
	w.free(f.Get.Host, 0)
}

func (w *worked) ticked(time int64) {
	outs := map[int64]int{}
	for _, f := range w.s.Flights {
		if f.Out {
			outs[f.Id]++
		}
	}
	w.s.Now = heldSum(w.s.Now, time)
	for i, f := range w.s.Flights {
		var waiting, over []impl.Waiter
		for _, waits := range f.Waiters {
			if waits.Due <= w.s.Now {
				over = append(over, waits)
			} else {
				waiting = append(waiting, waits)
			}
		}
		w.s.Flights[i].Waiters = waiting
		w.turnAway(f.Key, 504, over)
	}
	for i, o := range w.s.Origins {
		told := expireWanted(o.Bulk, w.s.Config.Lanes, w.s.Now)
		w.s.Origins[i].Bulk = told.Bulk
		for _, id := range told.Ids {
			w.went("waited too long at ", min(i, 1))
			f := w.end(id)
			w.turnAway(f.Key, 503, f.Waiters)
		}
	}
	for _, f := range slices.Clone(w.s.Flights) {
		if outs[f.Id] > 0 && f.Due <= w.s.Now {
			w.gaveUp(f.Id, 504)
		}
	}
}

func (w *worked) purged(e impl.Event) {
	meant := []func(impl.Entry) bool{withKey(e.Text), withTag(e.Text), withAny}[e.Kind-5]
	told := purgeWanted(w.s.Store, e.Hard, meant)
	w.s.Store = told.Store
	for i, f := range w.s.Flights {
		hit := []bool{f.Key == e.Text, slices.Contains(told.Keys, f.Key), true}[e.Kind-5]
		if w.went("purge ", e.Kind, ", hard ", e.Hard, ", flight ", hit); hit && e.Hard {
			w.s.Flights[i].Doomed = true
		}
	}
}

// steppedWanted tells the ways, too.
func steppedWanted(s impl.Shield, e impl.Event) (impl.StepResult, []string) {
	if code := shieldWanted(s); code != impl.OK {
		return impl.StepResult{Code: code}, nil
	}
	if code := eventWanted(e); code != impl.OK {
		return impl.StepResult{Code: code}, nil
	}
	w, code := worked{s: copyOfShield(s)}, int64(impl.OK)
	switch e.Kind {
	case 1:
		code = w.asked(e)
	case 2:
		code = w.replied(e)
	case 3:
		if at := w.flight(e.Id); at < 0 || !w.s.Flights[at].Out {
			code = impl.ErrNone
		} else {
			w.gaveUp(e.Id, 502)
		}
	case 4:
		w.ticked(e.Id)
	default:
		w.purged(e)
	}
	if code != impl.OK {
		return impl.StepResult{Code: code}, []string{fmt.Sprint("code ", code, " of ", e.Kind)}
	}
	return impl.StepResult{Shield: w.s, Outs: w.outs}, w.ways
}

func stepWanted(s impl.Shield, e impl.Event) impl.StepResult {
	told, _ := steppedWanted(s, e)
	return told
}

// What is chosen at random stands near each other in time, and in what is asked for.
var (
	stepHosts = []string{"a.com", "b.org", "c", "d", "e", "f", "g"}
	stepPaths = []string{"/x", "/y", "/z", "/x?b&a"}
	stepTimes = []int64{0, 1, 499, 500, 501, 1000, 1500, 2000}
	stepHeads = [][]impl.Header{
		{head("Cache-Control", "max-age=1")}, {head("Cache-Control", "max-age=2, stale-while-revalidate=1"), head("ETag", "v2"), head("Surrogate-Key", "t u")}, {head("Cache-Control", "max-age=1, stale-if-error=2"), head("ETag", "\"v3\"")},
		{head("Cache-Control", "max-age=0, stale-while-revalidate=2"), head("Surrogate-Key", "t")}, {head("Cache-Control", "no-cache, max-age=1"), head("ETag", "v4")}, {head("Cache-Control", "no-store")}, {head("Cache-Control", "private")}, {}, {head("Vary", "accept"), head("Cache-Control", "max-age=1")}, {head("Vary", "*"), head("Cache-Control", "max-age=1")},
	}
)

func oneOf[T any](source *rand.Rand, list ...T) T {
	return list[source.Intn(len(list))]
}

func chosenStepConfig(source *rand.Rand) impl.Config {
	c := impl.Config{
		Budget: oneOf[int64](source, 0, 150, 300, 600, 900, 1500, 20000, 1000000), Neg: oneOf[int64](source, 0, 1000, impl.MaxTime), Early: oneOf[int64](source, 0, 500, 1000, 1000000), FetchTime: oneOf[int64](source, 1, 500, 1000), WaitTime: oneOf[int64](source, 0, 500, 1000, 1500), WaitCap: oneOf[int64](source, 1, 2, 3, 10),
		Lanes: impl.Lanes{Slots: oneOf[int64](source, 1, 2, 2, 8), Cap: oneOf[int64](source, 0, 1, 3, 8), Time: oneOf[int64](source, 0, 500, 1000)},
		Rules: impl.Rules{Window: oneOf[int64](source, 1, 1000, 3000), Min: 1 + source.Int63n(3), Ratio: oneOf[int64](source, 1, 500, 1000), Cool: oneOf[int64](source, 0, 500, 500, 1500), Quota: 1 + source.Int63n(3)},
	}
	c.Guard, c.ObjCost = oneOf(source, 0, c.Budget/2, c.Budget), oneOf(source, c.Budget, c.Budget, c.Budget/2)
	c.Names = oneOf(source, nil, nil, nil, []string{"accept"}, []string{"A", "accept", "b", "c"})
	return c
}

func chosenGet(source *rand.Rand) impl.Request {
	r := request(oneOf(source, "GET", "GET", "HEAD"), stepHosts[min(source.Intn(7), source.Intn(7), source.Intn(7))], stepPaths[min(source.Intn(4), source.Intn(4))])
	if source.Intn(5) == 0 {
		r.Host = strings.ToUpper(r.Host)
	}
	switch source.Intn(16) {
	case 0:
		r.Headers = []impl.Header{head("Accept", oneOf(source, "q", "r"))}
	case 1:
		r.Headers = []impl.Header{head("If-None-Match", "v1"), head("b", "c"), head("if-modified-since", "0")}
	case 2:
		long := strings.Repeat("v", 100+source.Intn(101))
		r.Headers = []impl.Header{head("a", long), head("b", long), head("c", long)}
	}
	return r
}

func chosenKeptMeta(source *rand.Rand, now int64) impl.Meta {
	return impl.Meta{
		At: max(0, now-oneOf(source, stepTimes...)), Age: oneOf[int64](source, 0, 0, 500), Life: oneOf[int64](source, 0, 1000, 2000), Swr: oneOf[int64](source, 0, 1000), Sie: oneOf[int64](source, 0, 1000, 3000), Soft: source.Intn(8) == 0, NoCache: source.Intn(8) == 0,
	}
}

// chosenStanding is a shield without a fault, of small requests; much goes on in it.
func chosenStanding(source *rand.Rand) impl.Shield {
	s := impl.Shield{Config: chosenStepConfig(source), Now: oneOf[int64](source, 10000, 10000, 10000, impl.MaxTime-1000, impl.MaxTime), Next: 5}
	names, keys := s.Config.Names, map[string]int{}
	for range source.Intn(16) {
		key := fullKeyWanted(chosenGet(source), names).Text
		e := impl.Entry{Key: key, Status: oneOf[int64](source, 200, 200, 404), Headers: oneOf(source, stepHeads...), Body: []byte(oneOf(source, "", "kept", strings.Repeat("k", 100))), Meta: chosenKeptMeta(source, s.Now), Pins: oneOf[int64](source, 0, 0, 1, 2, 19, 20)}
		if source.Intn(12) == 0 {
			e.Headers = with(e.Headers, apartLines(17-len(e.Headers))...)
		}
		e.Tags = oneOf(source, nil, []string{"t"}, []string{"t", "u"})
		s.Store.Budget, s.Store.Guard = s.Config.Budget, s.Config.Guard
		list := oneOf(source, &s.Store.Trial, &s.Store.Kept)
		*list = append(*list, e)
		if keys[key]++; keys[key] > 1 || len(key) > 500 || storeFaultWanted(s.Store) != impl.OK {
			*list = (*list)[:len(*list)-1]
		}
	}
	if source.Intn(5) == 0 {
		// Nobody may go, and there is no room for more.
		for i := range s.Store.Trial {
			s.Store.Trial[i].Pins = 1
		}
		s.Config.Budget = costWanted(heldIn(s.Store)...)
		s.Config.Guard, s.Config.ObjCost = min(s.Config.Guard, s.Config.Budget), s.Config.Budget
	}
	s.Store.Budget, s.Store.Guard = s.Config.Budget, s.Config.Guard
	chosenFlown(source, &s)
	if source.Intn(3) == 0 {
		for _, host := range stepHosts[:6] {
			if len(s.Origins) < 6 && !slices.ContainsFunc(s.Origins, func(o impl.Origin) bool { return o.Host == host }) {
				s.Origins = append(s.Origins, impl.Origin{Host: host})
			}
		}
	}
	for i := range s.Origins {
		s.Origins[i].Breaker = chosenStepBreaker(source, s)
	}
	return s
}

func chosenStepBreaker(source *rand.Rand, s impl.Shield) impl.Breaker {
	since := s.Now - oneOf(source, 0, s.Config.Rules.Cool, max(0, s.Config.Rules.Cool-1), 500)
	switch source.Intn(6) {
	case 0:
		return openSince(since)
	case 1:
		return halfWith(since, source.Int63n(s.Config.Rules.Quota+1))
	case 2:
		return closedWith(0, marked(s.Now, oneOf(source, "g", "gb", "gggggg", strings.Repeat("g", 60)))...)
	}
	return impl.Breaker{}
}

// chosenFlown seats flights of their own keys, as long as there is room; now and then there are as many as may be.
func chosenFlown(source *rand.Rand, s *impl.Shield) {
	count, crowd, req := source.Intn(7), source.Intn(12) == 0, int64(100)
	if crowd {
		count, s.Config.Lanes.Slots, s.Config.Lanes.Cap = 24, 8, 8
	}
	for range count {
		get := chosenGet(source)
		if crowd {
			get = request("GET", stepHosts[len(s.Flights)%oneOf(source, 2, 6)], fmt.Sprint("/", len(s.Flights)))
		}
		key, at := fullKeyWanted(get, s.Config.Names).Text, slices.IndexFunc(s.Origins, func(o impl.Origin) bool { return o.Host == strings.ToLower(get.Host) })
		if len(key) > 500 || slices.ContainsFunc(s.Flights, func(f impl.Flight) bool { return f.Key == key }) || at < 0 && len(s.Origins) >= 6 {
			continue
		}
		if at < 0 {
			s.Origins, at = append(s.Origins, impl.Origin{Host: strings.ToLower(get.Host)}), len(s.Origins)
		}
		f, bulk := impl.Flight{Id: s.Next, Key: key, Back: source.Intn(4) == 0, Doomed: source.Intn(3) == 0, Get: get}, &s.Origins[at].Bulk
		for range source.Intn(int(min(5, s.Config.WaitCap+2))) {
			f.Waiters, req = append(f.Waiters, impl.Waiter{Req: req, Head: source.Intn(3) == 0, Due: min(impl.MaxTime, s.Now+oneOf(source, stepTimes...)), Late: source.Intn(2) == 0}), req+1
		}
		switch {
		case bulk.Busy < s.Config.Lanes.Slots && source.Intn(5) > 0:
			f.Out, f.Due = true, min(impl.MaxTime, s.Now+oneOf(source, stepTimes...))
			bulk.Busy++
		case int64(len(bulk.Queue)) < s.Config.Lanes.Cap:
			bulk.Queue = append(bulk.Queue, impl.Wait{Id: f.Id, Due: min(impl.MaxTime, s.Now+oneOf(source, stepTimes...))})
		default:
			continue
		}
		s.Flights, s.Next = append(s.Flights, f), s.Next+1+source.Int63n(2)
	}
}

// chosenFlightId is that of a flight that is there most of the time.
func chosenFlightId(source *rand.Rand, s impl.Shield) int64 {
	if len(s.Flights) == 0 || source.Intn(8) == 0 {
		return source.Int63n(s.Next + 2)
	}
	for _, f := range s.Flights {
		if _, has := (&worked{s: s}).entry(f.Key); has && source.Intn(3) > 0 {
			return f.Id
		}
	}
	return oneOf(source, s.Flights...).Id
}

func chosenAsk(source *rand.Rand, s impl.Shield, id int64) impl.Event {
	e := asking(id, chosenGet(source))
	e.Draw = oneOf[int64](source, 0, 1, 500, 999)
	if len(s.Flights) > 0 && source.Intn(3) == 0 {
		e.Request = oneOf(source, s.Flights...).Get
	}
	if list := heldIn(s.Store); len(list) > 0 && source.Intn(3) == 0 {
		// What is kept is asked for by its key; lines that are named are not in that request.
		base, _, _ := strings.Cut(oneOf(source, list...).Key, " ")
		host, path, _ := strings.Cut(base, "/")
		e.Request.Host, e.Request.Path = host, "/"+path
	}
	if waits := slices.Concat([]impl.Waiter{{Req: id}}, oneOf(source, append(s.Flights, impl.Flight{})...).Waiters); source.Intn(20) == 0 {
		e.Id = waits[len(waits)-1].Req
	}
	return e
}

func chosenReply(source *rand.Rand, s impl.Shield) impl.Event {
	lines := oneOf(source, stepHeads...)
	if source.Intn(8) == 0 {
		lines = with(lines, apartLines(oneOf(source, 13, 17, 20)-len(lines))...)
	}
	return replying(chosenFlightId(source, s), oneOf[int64](source, 200, 200, 200, 304, 304, 301, 404, 410, 499, 500, 503, 599), oneOf(source, "", "one", "another", strings.Repeat("r", 120)), lines...)
}

// chosenStep is an event without a fault; who asks by it has the Id id most of the time.
func chosenStep(source *rand.Rand, s impl.Shield, id int64) impl.Event {
	switch source.Intn(12) {
	case 0, 1, 2, 3, 4:
		return chosenAsk(source, s, id)
	case 5, 6, 7:
		return chosenReply(source, s)
	case 8:
		return failing(chosenFlightId(source, s))
	case 9, 10:
		if source.Intn(40) == 0 {
			return ticking(impl.MaxTime)
		}
		return ticking(oneOf(source, oneOf(source, stepTimes...), 500, 1000))
	}
	switch text := oneOf(source, "t", "u", "", fullKeyWanted(chosenGet(source), s.Config.Names).Text); source.Intn(3) {
	case 0:
		if len(s.Flights) > 0 && source.Intn(2) == 0 {
			text = oneOf(source, s.Flights...).Key
		}
		return purging(impl.EvKey, text[:min(len(text), 500)], source.Intn(2) == 0)
	case 1:
		return purging(impl.EvTag, text[:min(len(text), 500)], source.Intn(2) == 0)
	}
	return purging(impl.EvAll, "", source.Intn(2) == 0)
}

func checkStepped(t *testing.T, what string, s impl.Shield, e impl.Event) (impl.StepResult, []string) {
	t.Helper()
	got := impl.StepShield(s, e)
	want, ways := steppedWanted(s, e)
	if !sameStep(got, want) {
		t.Fatalf("%s: %s, %s: %d, %s, %s\nwant %d, %s, %s", what, shownShield(s), shownEvent(e), got.Code, saidIn(got.Outs), shownShield(got.Shield), want.Code, saidIn(want.Outs), shownShield(want.Shield))
	}
	return got, ways
}

// enough tells which of the ways did not come about so many times.
func enough(t *testing.T, ways map[string]int, least int, list ...string) {
	t.Helper()
	for _, way := range list {
		if ways[way] < least {
			t.Errorf("only %d times: %s", ways[way], way)
		}
	}
}

func TestManyShieldsStepped(t *testing.T) {
	source, ways := rand.New(rand.NewSource(151)), map[string]int{}
	for i := range 40000 {
		s := chosenStanding(source)
		if code := shieldWanted(s); code != impl.OK {
			t.Fatalf("%d: %s has the fault %d", i, shownShield(s), code)
		}
		_, went := checkStepped(t, fmt.Sprint(i), s, chosenStep(source, s, 1))
		for _, way := range went {
			ways[way]++
		}
	}
	for _, flight := range []string{"true", "false"} {
		enough(t, ways, 50, "ask in 0 of false, flight "+flight, "ask in 0 of true, flight "+flight, "ask in 1 of true, flight "+flight, "ask in 2 of true, flight "+flight, "ask in 3 of true, flight "+flight)
	}
	for _, who := range []string{"ask", "while"} {
		enough(t, ways, 3, who+" at a new origin", who+" refused: breaker 1", who+" refused: breaker 2", who+" refused: flights", who+" refused: queue", who+" sent from 0", who+" sent from 1", who+" sent from 2", who+" waits at 0")
	}
	enough(t, ways, 5, "ask refused: cooling", "ask refused: origins", "ask waits at 1", "ask waits at 2", "early sent from 0", "early at a new origin", "late refused: breaker 1", "late sent from 0", "late sent from 1", "late waits at 0")
	enough(t, ways, 5, "hit, early true", "hit, early false", "joins, back true, doomed true", "joins, back true, doomed false", "joins, back false, doomed true", "joins, back false, doomed false", "no room at the flight", "key too long", "code 6 of 1", "code 4 of 2", "code 4 of 3", "pins stay at 0", "pins stay at 20")
	enough(t, ways, 5, "doomed, late true, early true", "doomed, late true, early false", "doomed, late false, early true", "doomed, late false, early false", "bad, entry false, told false", "bad, entry true, told false", "bad, entry true, told true", "relayed", "stale for 502", "stale for 503", "stale for 504", "error 502", "error 503", "error 504")
	enough(t, ways, 5, "unchanged, entry false, merge 2, put 2", "unchanged, entry true, merge 0, put 0", "unchanged, entry true, merge 0, put 7", "unchanged, entry true, merge 4, put 2")
	for _, entry := range []string{"true", "false"} {
		enough(t, ways, 3, "new, entry "+entry+", from 0, dear false, put 0", "new, entry "+entry+", from 0, dear false, put 7", "new, entry "+entry+", from 0, dear true, put 0", "new, entry "+entry+", from 4, dear false, put 2")
	}
	enough(t, ways, 50, "free behind 0 denied", "free behind 1 denied", "free behind 2 denied", "next from 0", "next from 1", "denied by 1", "waited too long at 0", "waited too long at 1")
	for _, doomed := range []string{"true", "false"} {
		enough(t, ways, 50, "gave up for 502, doomed "+doomed, "gave up for 504, doomed "+doomed)
	}
	for _, hard := range []string{"true", "false"} {
		enough(t, ways, 10, "purge 5, hard "+hard+", flight true", "purge 5, hard "+hard+", flight false", "purge 6, hard "+hard+", flight true", "purge 6, hard "+hard+", flight false", "purge 7, hard "+hard+", flight true")
	}
}

// rightEvents have one of each kind, with each of its fields at something else than zero where that may be.
func rightEvents() []impl.Event {
	ask := asking(7, request("GET", "a.com", "/y", head("accept", "q")))
	ask.Draw = 500
	return []impl.Event{ask, replying(3, 200, "hi", youngHead), failing(3), ticking(5), purging(impl.EvKey, "a.com/y", true), purging(impl.EvTag, "t", true), purging(impl.EvAll, "", true)}
}

// checkEventCode asks StepShield for an event, too: it tells the same code, with a shield that has none of its own.
func checkEventCode(t *testing.T, what string, e impl.Event, want int64) {
	t.Helper()
	if got := impl.EventFault(e); got != want {
		t.Errorf("%s: EventFault of %s = %d, want %d", what, shownEvent(e), got, want)
	}
	s := impl.NewShield(stepConfig()).Shield
	if got := impl.StepShield(s, e); want != impl.OK && !sameStep(got, impl.StepResult{Code: want}) {
		t.Errorf("%s: StepShield by %s = %+v, want %d", what, shownEvent(e), got, want)
	}
	s.Next = -1
	if got := impl.StepShield(s, e); !sameStep(got, impl.StepResult{Code: impl.ErrRange}) {
		t.Errorf("%s: StepShield of a wrong shield by %s = %+v", what, shownEvent(e), got)
	}
}

func TestEventKinds(t *testing.T) {
	for i, want := range []int64{impl.EvAsk, impl.EvReply, impl.EvFail, impl.EvTick, impl.EvKey, impl.EvTag, impl.EvAll} {
		if int64(i+1) != want {
			t.Errorf("the kind %d is %d", i+1, want)
		}
	}
	if impl.OutAnswer != 1 || impl.OutFetch != 2 {
		t.Error("the kinds of outs are", impl.OutAnswer, impl.OutFetch)
	}
	for i, e := range rightEvents() {
		if e.Kind != int64(i+1) {
			t.Errorf("the kind of event %d is %d", i, e.Kind)
		}
		checkEventCode(t, "a right one", e, impl.OK)
		for _, kind := range append([]int64{-7, 3, 4, 5, 6, 7, 8, 1<<32 + 1, 257}, edgeNumbers...) {
			turned := e
			turned.Kind = kind
			checkEventCode(t, "another kind", turned, eventWanted(turned))
			checkEventCode(t, "a kind alone", impl.Event{Kind: kind}, eventWanted(impl.Event{Kind: kind}))
		}
	}
	// With nothing beside its kind an ask has no request, and a reply no response.
	for kind, want := range []int64{impl.ErrForm, impl.ErrText, impl.ErrRange, impl.OK, impl.OK, impl.OK, impl.OK, impl.OK, impl.ErrForm} {
		checkEventCode(t, "a kind alone", impl.Event{Kind: int64(kind)}, want)
	}
}

// fieldTurn sets one field of an event to something else than zero.
type fieldTurn struct {
	field string
	turn  func(e *impl.Event)
}

func fieldTurns() []fieldTurn {
	list := []fieldTurn{
		{"draw", func(e *impl.Event) { e.Draw = 1 }}, {"draw", func(e *impl.Event) { e.Draw = -1 }}, {"draw", func(e *impl.Event) { e.Draw = 1000 }},
		{"request", func(e *impl.Event) { e.Request = request("GET", "a", "/") }}, {"request", func(e *impl.Event) { e.Request.Method = "x" }}, {"request", func(e *impl.Event) { e.Request.Host = "x" }}, {"request", func(e *impl.Event) { e.Request.Path = "x" }},
		{"request", func(e *impl.Event) { e.Request.Headers = []impl.Header{{}} }}, {"request", func(e *impl.Event) { e.Request.Headers = make([]impl.Header, 21) }},
		{"response", func(e *impl.Event) { e.Response = response(200, "hi", youngHead) }}, {"response", func(e *impl.Event) { e.Response.Status = 200 }}, {"response", func(e *impl.Event) { e.Response.Status = -1 }},
		{"response", func(e *impl.Event) { e.Response.Headers = []impl.Header{{}} }}, {"response", func(e *impl.Event) { e.Response.Body = []byte{0} }}, {"response", func(e *impl.Event) { e.Response.Body = make([]byte, 2001) }},
		{"text", func(e *impl.Event) { e.Text = "a" }}, {"text", func(e *impl.Event) { e.Text = "\x00" }}, {"text", func(e *impl.Event) { e.Text = strings.Repeat("t", 501) }}, {"hard", func(e *impl.Event) { e.Hard = true }},
	}
	for _, n := range []int64{1, -1, impl.MaxTime, impl.MaxTime + 1} {
		list = append(list, fieldTurn{"id", func(e *impl.Event) { e.Id = n }})
	}
	return list
}

func TestEventFieldsNotNamed(t *testing.T) {
	named := [][]string{{"id", "draw", "request"}, {"id", "response"}, {"id"}, {"id"}, {"text", "hard"}, {"text", "hard"}, {"hard"}}
	empty := func(e *impl.Event) {
		if len(e.Request.Headers) == 0 {
			e.Request.Headers = []impl.Header{}
		}
		if len(e.Response.Headers) == 0 {
			e.Response.Headers = []impl.Header{}
		}
		if len(e.Response.Body) == 0 {
			e.Response.Body = []byte{}
		}
	}
	for i, e := range rightEvents() {
		lists := e
		empty(&lists)
		checkEventCode(t, "with empty lists", lists, impl.OK)
		for _, turn := range fieldTurns() {
			if slices.Contains(named[i], turn.field) {
				continue
			}
			turned := e
			turn.turn(&turned)
			checkEventCode(t, turn.field+" is not named", turned, impl.ErrForm)
			// That is asked ahead of all else.
			turned = impl.Event{Kind: e.Kind, Id: -1, Draw: -1, Text: strings.Repeat("t", 501)}
			checkEventCode(t, "much is not named", turned, impl.ErrForm)
			alone := impl.Event{Kind: e.Kind}
			turn.turn(&alone)
			checkEventCode(t, turn.field+" is not named, all else zero", alone, impl.ErrForm)
		}
	}
}

func TestEventNumbers(t *testing.T) {
	for i, e := range rightEvents() {
		for _, n := range append([]int64{998, 999, 1001, -999}, edgeNumbers...) {
			turned := e
			if turned.Id = n; i < 4 {
				checkEventCode(t, "an Id", turned, codeWhere(isTime(n), impl.ErrRange))
			} else {
				checkEventCode(t, "an Id of a purge", turned, codeWhere(n == 0, impl.ErrForm))
			}
			turned = e
			if turned.Draw = n; i == 0 {
				checkEventCode(t, "a Draw", turned, codeWhere(within(n, 0, 999), impl.ErrRange))
			} else {
				checkEventCode(t, "a Draw of what draws nothing", turned, codeWhere(n == 0, impl.ErrForm))
			}
		}
	}
}

func TestEventMessages(t *testing.T) {
	for _, row := range getRows() {
		for _, draw := range []int64{0, 999} {
			e := asking(7, row.get)
			e.Draw = draw
			checkEventCode(t, "an ask with "+row.what, e, row.want)
			// A number is asked ahead.
			e.Id = impl.MaxTime + 1
			checkEventCode(t, "an ask with a wrong Id and "+row.what, e, impl.ErrRange)
			e.Id, e.Draw = 7, 1000
			checkEventCode(t, "an ask with a wrong Draw and "+row.what, e, impl.ErrRange)
		}
	}
	for _, r := range manyRequests(600) {
		checkEventCode(t, "an ask", asking(7, r), requestWanted(r))
	}
	line, long := head("a", "b"), strings.Repeat("b", 2001)
	for _, row := range []struct {
		r    impl.Response
		want int64
	}{
		{impl.Response{}, impl.ErrRange}, {response(200, ""), impl.OK}, {response(599, long[:2000], sameLines(line, 20)...), impl.OK}, {response(199, ""), impl.ErrRange}, {response(600, ""), impl.ErrRange}, {response(200, "", sameLines(line, 21)...), impl.ErrMany}, {response(200, "", head("", "b")), impl.ErrText}, {response(200, "", head("a", "b\n")), impl.ErrText}, {response(200, "", head("a", strings.Repeat("v", 201))), impl.ErrMany}, {response(200, long), impl.ErrMany},
		{response(600, long, head("", "b")), impl.ErrRange}, {response(200, long, head("", "b")), impl.ErrText},
	} {
		e := impl.Event{Kind: impl.EvReply, Id: 7, Response: row.r}
		checkEventCode(t, "a reply", e, row.want)
		e.Id = -1
		checkEventCode(t, "a reply with a wrong Id", e, impl.ErrRange)
		e.Text = "t"
		checkEventCode(t, "a reply with a Text", e, impl.ErrForm)
	}
	for _, r := range manyResponses(600) {
		checkEventCode(t, "a reply", impl.Event{Kind: impl.EvReply, Id: 7, Response: r}, responseWanted(r))
	}
}

func TestEventTexts(t *testing.T) {
	for _, kind := range []int64{impl.EvKey, impl.EvTag} {
		for _, hard := range hardOrSoft {
			for _, count := range []int{0, 1, 2, 255, 256, 499, 500, 501, 502, 756, 1000, 100000} {
				for _, letter := range []string{"t", "\x00", "\xff", " "} {
					checkEventCode(t, "a Text", purging(kind, strings.Repeat(letter, count), hard), codeWhere(count <= 500, impl.ErrMany))
				}
			}
		}
	}
}

// Of a shield with a fault and an event with one the shield's is told, whatever it is.
func TestStepFaultsInOrder(t *testing.T) {
	wrong := []impl.Event{{}, {Kind: impl.EvAsk}, {Kind: impl.EvReply, Id: -1}, {Kind: impl.EvTick, Hard: true}, purging(impl.EvTag, strings.Repeat("t", 501), false)}
	for _, turn := range shieldTurns() {
		s := busyShield()
		turn.turn(&s)
		for _, e := range append(wrong, rightEvents()...) {
			if got := impl.StepShield(s, e); !sameStep(got, impl.StepResult{Code: turn.want}) {
				t.Errorf("%s, %s: %+v", turn.what, shownEvent(e), got)
			}
		}
	}
	for _, turn := range configTurns() {
		s := busyShield()
		turn.turn(&s.Config)
		if got := impl.StepShield(s, impl.Event{}); !sameStep(got, impl.StepResult{Code: turn.want}) {
			t.Errorf("%s: %+v", turn.what, got)
		}
	}
	for _, e := range wrong {
		if got := impl.StepShield(busyShield(), e); got.Code == impl.OK || !sameStep(got, impl.StepResult{Code: impl.EventFault(e)}) {
			t.Errorf("%s: %+v", shownEvent(e), got)
		}
	}
	// The zero value has no time to fetch.
	if got := impl.StepShield(impl.Shield{}, ticking(1)); !sameStep(got, impl.StepResult{Code: impl.ErrRange}) {
		t.Errorf("a shield that is none: %+v", got)
	}
}

func TestSameOuts(t *testing.T) {
	made := func() []impl.Out {
		return []impl.Out{
			{Kind: impl.OutAnswer, Id: 7, Source: "hit", Response: response(200, "hi", head("a", "b"), head("c", "d"))}, {Kind: impl.OutFetch, Id: 7, Request: request("GET", "a.com", "/y", head("a", "b"), head("c", "d"))},
			{Kind: impl.OutAnswer, Id: 9, Source: "miss", Response: response(404, "")},
		}
	}
	if !impl.SameOuts(made(), made()) || !impl.SameOuts(nil, nil) || !impl.SameOuts(nil, []impl.Out{}) || !impl.SameOuts([]impl.Out{}, nil) {
		t.Error("the same outs are not the same")
	}
	turns := []func(list []impl.Out) []impl.Out{
		func(list []impl.Out) []impl.Out { return nil }, func(list []impl.Out) []impl.Out { return list[:2] }, func(list []impl.Out) []impl.Out { return list[1:] }, func(list []impl.Out) []impl.Out { return append(list, impl.Out{}) }, func(list []impl.Out) []impl.Out { return append(list, list[2]) },
		func(list []impl.Out) []impl.Out { slices.Reverse(list); return list }, func(list []impl.Out) []impl.Out { list[0], list[1] = list[1], list[0]; return list }, func(list []impl.Out) []impl.Out { list[1], list[2] = list[2], list[1]; return list }, func(list []impl.Out) []impl.Out { list[1] = list[0]; return list },
	}
	for place := range 3 {
		for _, turn := range []func(o *impl.Out){
			func(o *impl.Out) { o.Kind++ }, func(o *impl.Out) { o.Id++ }, func(o *impl.Out) { o.Id = -o.Id }, func(o *impl.Out) { o.Source += "x" }, func(o *impl.Out) { o.Source = strings.ToUpper(o.Source) + "." }, func(o *impl.Out) { o.Response.Status++ }, func(o *impl.Out) { o.Response.Body = append(o.Response.Body, 0) }, func(o *impl.Out) { o.Response.Headers = append(o.Response.Headers, impl.Header{}) },
			func(o *impl.Out) { o.Request.Method += "x" }, func(o *impl.Out) { o.Request.Host += "x" }, func(o *impl.Out) { o.Request.Path += "x" }, func(o *impl.Out) { o.Request.Headers = append(o.Request.Headers, impl.Header{}) },
		} {
			turns = append(turns, func(list []impl.Out) []impl.Out { turn(&list[place]); return list })
		}
	}
	for _, lines := range []func(o []impl.Out) []impl.Header{func(o []impl.Out) []impl.Header { return o[0].Response.Headers }, func(o []impl.Out) []impl.Header { return o[1].Request.Headers }} {
		turns = append(turns, func(list []impl.Out) []impl.Out { lines(list)[0].Name = "A"; return list }, func(list []impl.Out) []impl.Out { lines(list)[1].Value = "D"; return list }, func(list []impl.Out) []impl.Out { slices.Reverse(lines(list)); return list })
	}
	turns = append(turns, func(list []impl.Out) []impl.Out { list[0].Response.Body[1] = 'o'; return list })
	for i, turn := range turns {
		turned := turn(made())
		if impl.SameOuts(made(), turned) || impl.SameOuts(turned, made()) {
			t.Errorf("turn %d: they are the same", i)
		}
		if !impl.SameOuts(turned, turn(made())) {
			t.Errorf("turn %d: they are not the same", i)
		}
	}
	bare, empty := []impl.Out{{Kind: 9, Id: -5}}, []impl.Out{{Kind: 9, Id: -5, Response: impl.Response{Headers: []impl.Header{}, Body: []byte{}}, Request: impl.Request{Headers: []impl.Header{}}}}
	if !impl.SameOuts(bare, empty) || !impl.SameOuts(empty, bare) || !impl.SameOuts(make([]impl.Out, 5000), make([]impl.Out, 5000)) || impl.SameOuts(make([]impl.Out, 5000), make([]impl.Out, 4999)) {
		t.Error("outs with faults, and empty lists")
	}
}

// stepConfig has room for two that are out and two that wait at an origin, and for three who wait for a flight.
func stepConfig() impl.Config {
	return impl.Config{
		Budget: 5000, Guard: 2000, ObjCost: 500, Neg: 60, Early: 100, FetchTime: 1000, WaitTime: 2000, WaitCap: 3,
		Lanes: impl.Lanes{Slots: 2, Cap: 2, Time: 500}, Rules: impl.Rules{Window: 1000, Min: 4, Ratio: 500, Cool: 300, Quota: 2},
	}
}

// It is 10000 in a standing shield: these are fresh then, old but told while they are renewed, told where asking fails, and dead.
var (
	freshMeta = impl.Meta{At: 9000, Life: 5000}
	whileMeta = impl.Meta{At: 9000, Life: 500, Swr: 1000}
	errorMeta = impl.Meta{At: 9000, Life: 500, Sie: 1000}
	deadMeta  = impl.Meta{At: 9000, Life: 500}
)

func keptAt(path string, m impl.Meta) impl.Entry {
	return impl.Entry{Key: "a.com" + path, Status: 200, Headers: []impl.Header{head("ETag", "v1")}, Body: []byte("kept"), Meta: m}
}

func keptOf(list ...impl.Entry) []impl.Entry {
	return list
}

// sent is a flight that is out for a Path, queued one that waits to go.
func sent(id int64, path string, numbers ...int64) impl.Flight {
	return impl.Flight{Id: id, Key: "a.com" + path, Out: true, Due: 10900, Get: request("GET", "a.com", path), Waiters: waiters(numbers...)}
}

func queued(id int64, path string, numbers ...int64) impl.Flight {
	f := sent(id, path, numbers...)
	f.Out, f.Due = false, 0
	return f
}

// toOther is the flight to another host.
func toOther(f impl.Flight, host string) impl.Flight {
	f.Key, f.Get.Host = strings.Replace(f.Key, "a.com", host, 1), host
	return f
}

func doomed(f impl.Flight) impl.Flight {
	f.Doomed = true
	return f
}

// lateFor is the flight with these of its waiters late.
func lateFor(f impl.Flight, reqs ...int64) impl.Flight {
	f.Waiters = slices.Clone(f.Waiters)
	for i, w := range f.Waiters {
		f.Waiters[i].Late = slices.Contains(reqs, w.Req)
	}
	return f
}

// headFor is the flight with these of its waiters asking for the head alone.
func headFor(f impl.Flight, reqs ...int64) impl.Flight {
	f.Waiters = slices.Clone(f.Waiters)
	for i, w := range f.Waiters {
		f.Waiters[i].Head = slices.Contains(reqs, w.Req)
	}
	return f
}

func originIn(s *impl.Shield, host string) *impl.Origin {
	for i := range s.Origins {
		if s.Origins[i].Host == strings.ToLower(host) {
			return &s.Origins[i]
		}
	}
	s.Origins = append(s.Origins, impl.Origin{Host: strings.ToLower(host)})
	return &s.Origins[len(s.Origins)-1]
}

// seat puts a flight behind all others, with what its origin has to know of it.
func seat(s *impl.Shield, f impl.Flight) {
	if o := originIn(s, f.Get.Host); f.Out {
		o.Bulk.Busy++
	} else {
		o.Bulk.Queue = append(o.Bulk.Queue, impl.Wait{Id: f.Id, Due: 10500})
	}
	s.Flights = append(s.Flights, f)
}

// standing is a shield at 10000 in which these are kept and fly; the next flight is 50.
func standing(kept []impl.Entry, flights ...impl.Flight) impl.Shield {
	s := impl.NewShield(stepConfig()).Shield
	s.Now, s.Next, s.Store.Trial = 10000, 50, slices.Clone(kept)
	for _, f := range flights {
		seat(&s, f)
	}
	return s
}

func entryIn(s *impl.Shield, key string) *impl.Entry {
	for _, list := range [][]impl.Entry{s.Store.Trial, s.Store.Kept} {
		for i := range list {
			if list[i].Key == key {
				return &list[i]
			}
		}
	}
	return nil
}

func flightIn(s *impl.Shield, id int64) *impl.Flight {
	return &s.Flights[slices.IndexFunc(s.Flights, func(f impl.Flight) bool { return f.Id == id })]
}

// What an event turns is told by these.
func touch(s *impl.Shield, paths ...string) {
	for _, path := range paths {
		s.Store = touchWanted(s.Store, "a.com"+path).Store
	}
}

func pinBy(s *impl.Shield, path string, by int64) {
	entryIn(s, "a.com"+path).Pins += by
}

func drop(s *impl.Shield, path string) {
	s.Store = without(s.Store, "a.com"+path)
}

func putFirst(s *impl.Shield, e impl.Entry) {
	s.Store = without(s.Store, e.Key)
	s.Store.Trial = slices.Concat([]impl.Entry{e}, s.Store.Trial)
}

// begin puts a flight that is started now behind all others.
func begin(s *impl.Shield, f impl.Flight) {
	if f.Id = s.Next; f.Out {
		f.Due = s.Now + 1000
	}
	seat(s, f)
	s.Next++
}

// leave takes a flight away, with what its origin knows of it.
func leave(s *impl.Shield, id int64) {
	f := *flightIn(s, id)
	if o := originIn(s, f.Get.Host); f.Out {
		o.Bulk.Busy--
	} else {
		o.Bulk.Queue = slices.DeleteFunc(o.Bulk.Queue, func(w impl.Wait) bool { return w.Id == id })
	}
	s.Flights = slices.DeleteFunc(s.Flights, func(f impl.Flight) bool { return f.Id == id })
}

// note puts an outcome behind those of an origin that has too few to be opened by it.
func note(s *impl.Shield, host string, good bool) {
	b := &originIn(s, host).Breaker
	b.Marks = append(b.Marks, impl.Mark{At: s.Now, Good: good})
}

// goOut sends a flight out that waits.
func goOut(s *impl.Shield, id int64) {
	f := flightIn(s, id)
	o := originIn(s, f.Get.Host)
	o.Bulk.Queue = slices.DeleteFunc(o.Bulk.Queue, func(w impl.Wait) bool { return w.Id == id })
	o.Bulk.Busy++
	f.Out, f.Due = true, s.Now+1000
}

func nothing(*impl.Shield) {}

// checkStep holds an event against what it says and what it turns, and against the second working-out.
func checkStep(t *testing.T, what string, s impl.Shield, e impl.Event, said string, turn func(s *impl.Shield)) impl.StepResult {
	t.Helper()
	if code := shieldWanted(s); code != impl.OK {
		t.Fatalf("%s: %s has the fault %d", what, shownShield(s), code)
	}
	want := copyOfShield(s)
	turn(&want)
	got, _ := checkStepped(t, what, s, e)
	if got.Code != impl.OK || saidIn(got.Outs) != said || impl.ShieldFault(got.Shield) != impl.OK {
		t.Errorf("%s: %s: %d, %q, want %q", what, shownEvent(e), got.Code, saidIn(got.Outs), said)
	}
	if !sameShield(got.Shield, want) {
		t.Errorf("%s: %s:\n%s, want\n%s", what, shownEvent(e), shownShield(got.Shield), shownShield(want))
	}
	return got
}

// checkStepCode: beside a code there is nothing.
func checkStepCode(t *testing.T, what string, s impl.Shield, e impl.Event, code int64) {
	t.Helper()
	if got := impl.StepShield(s, e); !sameStep(got, impl.StepResult{Code: code}) || !sameStep(got, stepWanted(s, e)) {
		t.Errorf("%s: %s: %d, %q, want %d", what, shownEvent(e), got.Code, saidIn(got.Outs), code)
	}
}

// flightsOfX are what may be under way for what is asked for.
var flightsOfX = []struct {
	what string
	list []impl.Flight
}{
	{"no flight", nil}, {"a flight of something else", []impl.Flight{sent(11, "/y", 71, 10500)}}, {"nobody waits for it", []impl.Flight{sent(11, "/x")}}, {"there is room at it", []impl.Flight{sent(11, "/x", 71, 10500, 72, 12000)}}, {"there is no room at it", []impl.Flight{sent(11, "/x", 71, 10500, 72, 12000, 73, 11000)}},
	{"nobody needs it yet", []impl.Flight{{Id: 11, Key: "a.com/x", Back: true, Out: true, Due: 10900, Get: request("HEAD", "A.com", "/x")}}}, {"it is doomed", []impl.Flight{doomed(sent(11, "/x", 71, 10500))}}, {"it is doomed, and has late ones", []impl.Flight{lateFor(doomed(sent(11, "/x", 71, 10500, 72, 10600)), 72)}}, {"it is doomed, and nobody needs it yet", []impl.Flight{{Id: 11, Key: "a.com/x", Back: true, Out: true, Doomed: true, Due: 10900, Get: request("GET", "a.com", "/x")}}},
	{"it waits to go", []impl.Flight{sent(9, "/y"), sent(10, "/z"), queued(11, "/x", 71, 10500)}}, {"it is behind others", []impl.Flight{sent(9, "/y"), sent(11, "/x", 71, 10500), queued(13, "/z", 73, 10500)}},
}

func TestAsks(t *testing.T) {
	early := impl.Meta{At: 9000, Life: 1050}
	for _, row := range []struct {
		what   string
		kept   []impl.Entry
		draw   int64
		source string
		begins bool
	}{
		{"fresh", keptOf(keptAt("/x", freshMeta)), 999, "hit", false}, {"fresh to the end", keptOf(keptAt("/x", impl.Meta{At: 9000, Life: 1001})), 0, "hit", false}, {"fresh, not early due", keptOf(keptAt("/x", early)), 499, "hit", false}, {"fresh, early due", keptOf(keptAt("/x", early)), 500, "hit", true}, {"fresh, early due long ago", keptOf(keptAt("/x", impl.Meta{At: 9000, Life: 1001})), 10, "hit", true},
		{"while it is renewed", keptOf(keptAt("/x", whileMeta)), 0, "stale", true}, {"just old", keptOf(keptAt("/x", impl.Meta{At: 9000, Life: 1000, Swr: 1})), 999, "stale", true}, {"made old", keptOf(keptAt("/x", impl.Meta{At: 9000, Life: 5000, Swr: 1001, Soft: true})), 0, "stale", true},
		{"old", keptOf(keptAt("/x", errorMeta)), 0, "", true}, {"to be asked for anew", keptOf(keptAt("/x", impl.Meta{At: 9000, Life: 5000, Swr: 5000, Sie: 5000, NoCache: true})), 999, "", true}, {"dead", keptOf(keptAt("/x", deadMeta)), 0, "", true}, {"not there", nil, 0, "", true}, {"something else is there", keptOf(keptAt("/y", freshMeta), keptAt("/", freshMeta)), 999, "", true},
	} {
		for _, method := range []string{"GET", "HEAD"} {
			for _, under := range flightsOfX {
				s := standing(row.kept, under.list...)
				e := asking(7, request(method, "a.com", "/x", head("accept", "q")))
				e.Draw = row.draw
				said, turn := askedOfX(s, e, row.source, row.begins)
				got := checkStep(t, row.what+", "+under.what, s, e, said, turn)
				if row.source != "" && impl.JoinHeader(got.Outs[0].Response.Headers, "X-Cache").Text != row.source {
					t.Errorf("%s: told with %q", row.what, got.Outs[0].Response.Headers)
				}
			}
		}
	}
}

// askedOfX is what is said and turned where somebody asks for /x, who is told what is kept with a source, or else waits.
func askedOfX(s impl.Shield, e impl.Event, source string, begins bool) (string, func(s *impl.Shield)) {
	e.Request.Headers = slices.Clone(e.Request.Headers)
	has, body, fetch := entryIn(&s, "a.com/x") != nil, " kept", "fetch 50 a.com/x"
	if e.Request.Method == "HEAD" {
		body = ""
	}
	if has {
		fetch += " if v1"
	}
	at := slices.IndexFunc(s.Flights, func(f impl.Flight) bool { return f.Key == "a.com/x" })
	start := func(s *impl.Shield, f impl.Flight) {
		if has {
			pinBy(s, "/x", 1)
		}
		f.Key, f.Out, f.Get = "a.com/x", true, e.Request
		begin(s, f)
	}
	waits := impl.Waiter{Req: 7, Head: e.Request.Method == "HEAD", Due: 12000}
	switch {
	case source != "" && at < 0 && begins:
		return "7 " + source + " 200" + body + "; " + fetch, func(s *impl.Shield) { touch(s, "/x"); start(s, impl.Flight{Back: true}) }
	case source != "":
		return "7 " + source + " 200" + body, func(s *impl.Shield) { touch(s, "/x") }
	case at < 0:
		return fetch, func(s *impl.Shield) { start(s, impl.Flight{Waiters: []impl.Waiter{waits}}) }
	case len(s.Flights[at].Waiters) == 3 && serveWanted(entryOrNone(s).Meta, 10000, true):
		return "7 stale 200" + body, func(s *impl.Shield) { touch(s, "/x") }
	case len(s.Flights[at].Waiters) == 3:
		return "7 error 503", nothing
	}
	return "", func(s *impl.Shield) {
		f := &s.Flights[at]
		waits.Late, f.Back = f.Doomed, false
		f.Waiters = append(f.Waiters, waits)
	}
}

// entryOrNone is what is kept for /x, or something that is dead.
func entryOrNone(s impl.Shield) impl.Entry {
	if e := entryIn(&s, "a.com/x"); e != nil {
		return *e
	}
	return impl.Entry{}
}

func TestAskOfSomebodyWhoWaits(t *testing.T) {
	s := standing(keptOf(keptAt("/x", freshMeta), keptAt("/w", whileMeta)), sent(11, "/y", 71, 10500, 72, 10500), sent(12, "/z"), queued(13, "/v", 73, 10500), doomed(toOther(sent(14, "/y", 0, 10500), "b.org")))
	long := request("GET", "a.com", "/y", head("accept", strings.Repeat("v", 200)), head("b", strings.Repeat("v", 200)), head("c", strings.Repeat("v", 200)))
	for _, get := range []impl.Request{request("GET", "a.com", "/x"), request("GET", "a.com", "/w"), request("HEAD", "a.com", "/y"), request("GET", "a.com", "/v"), request("GET", "c", "/"), request("GET", "a.com", "/z"), long} {
		for _, names := range [][]string{nil, {"accept", "b", "c"}} {
			s.Config.Names = names
			for _, id := range []int64{71, 72, 73, 0} {
				checkStepCode(t, "somebody who waits", s, asking(id, get), impl.ErrTaken)
			}
			// A flight's Id is no asker's, and nobody is asked twice who waits no more.
			for _, id := range []int64{11, 13, 70, 74, impl.MaxTime} {
				if got, _ := checkStepped(t, "somebody new", s, asking(id, get)); got.Code != impl.OK {
					t.Errorf("%d asks: %d", id, got.Code)
				}
			}
		}
	}
	// That the event is a right one is asked ahead.
	checkStepCode(t, "somebody who waits asks for nothing", s, asking(71, impl.Request{}), impl.ErrText)
	checkStepCode(t, "somebody who waits draws wrongly", s, impl.Event{Kind: impl.EvAsk, Id: 71, Draw: 1000, Request: request("GET", "a", "/")}, impl.ErrRange)
	// Whoever was told something may ask again with the same Id.
	s.Config.Names = nil
	again := impl.StepShield(s, asking(5, request("GET", "a.com", "/x")))
	checkStep(t, "somebody asks again", again.Shield, asking(5, request("GET", "a.com", "/x")), "5 hit 200 kept", nothing)
}

func TestAskWithLongKeys(t *testing.T) {
	// "b.com/x" and " n=" three times are 16 bytes.
	lines := func(count int) []impl.Header {
		return []impl.Header{head("b", strings.Repeat("v", 200)), head("c", strings.Repeat("v", 200)), head("d", strings.Repeat("v", count))}
	}
	for count := 80; count < 90; count++ {
		for _, method := range []string{"GET", "HEAD"} {
			get := request(method, "B.com", "/x", lines(count)...)
			key := fullKeyWanted(get, []string{"b", "c", "d"}).Text
			for _, under := range flightsOfX {
				s := standing(keptOf(keptAt("/x", freshMeta)), under.list...)
				s.Config.Names = []string{"b", "c", "d"}
				if len(key) > 500 {
					got := checkStep(t, "a key too long", s, asking(7, get), "7 error 414", nothing)
					if !sameTold(got.Outs[0].Response, response(414, "", head("X-Cache", "error"))) {
						t.Errorf("told is %s", shownResponse(got.Outs[0].Response))
					}
					continue
				}
				checkStep(t, "a long key", s, asking(7, get), "fetch 50 B.com/x", func(s *impl.Shield) {
					begin(s, impl.Flight{Key: key, Out: true, Get: get, Waiters: []impl.Waiter{{Req: 7, Head: method == "HEAD", Due: 12000}}})
				})
			}
		}
	}
}

// What is asked for is known by its key: the named lines tell, others and how it is written do not.
func TestAskByNames(t *testing.T) {
	kept := keptAt("/x?a&b accept=q", freshMeta)
	s := standing(keptOf(kept), sent(11, "/y accept=", 71, 10500))
	s.Flights[0].Get.Path = "/y"
	s.Config.Names = []string{"Accept"}
	for _, get := range []impl.Request{request("GET", "a.com", "/x?a&b", head("accept", "q")), request("GET", "A.COM", "/x?b&&a", head("c", "d"), head("ACCEPT", "q")), request("GET", "a.com", "/x?&b&a&", head("Accept", "q"), head("if-none-match", "v9"))} {
		got := checkStep(t, "what is kept", s, asking(7, get), "7 hit 200 kept", func(s *impl.Shield) { touch(s, "/x?a&b accept=q") })
		if want := response(200, "kept", head("ETag", "v1"), head("Age", "1"), head("X-Cache", "hit")); !sameTold(got.Outs[0].Response, want) {
			t.Errorf("told is %s", shownResponse(got.Outs[0].Response))
		}
	}
	for _, get := range []impl.Request{request("GET", "a.com", "/x?a&b"), request("GET", "a.com", "/x?a&b", head("accept", "r")), request("GET", "a.com", "/x?a&b", head("accept", "q"), head("accept", "q")), request("GET", "a.com", "/X?a&b", head("accept", "q"))} {
		checkStep(t, "what is not kept", s, asking(7, get), "fetch 50 a.com"+get.Path, func(s *impl.Shield) {
			begin(s, impl.Flight{Key: fullKeyWanted(get, []string{"accept"}).Text, Out: true, Get: get, Waiters: waiters(7, 12000)})
		})
	}
	checkStep(t, "what is under way", s, asking(7, request("HEAD", "A.com", "/y", head("b", "c"))), "", func(s *impl.Shield) {
		s.Flights[0].Waiters = append(s.Flights[0].Waiters, impl.Waiter{Req: 7, Head: true, Due: 12000})
	})
	// The origin is asked by its own lines, without those that mark what whoever asks has.
	marked := request("HEAD", "A.com", "/y", head("b", "c"), head("IF-NONE-MATCH", "v0"), head("Accept", "r"), head("If-Modified-Since", "0"))
	got := checkStep(t, "what is not there", s, asking(7, marked), "fetch 50 A.com/y", func(s *impl.Shield) {
		begin(s, impl.Flight{Key: "a.com/y accept=r", Out: true, Get: marked, Waiters: []impl.Waiter{{Req: 7, Head: true, Due: 12000}}})
	})
	if want := request("GET", "A.com", "/y", head("b", "c"), head("Accept", "r")); !sameAsked(got.Outs[0].Request, want) || !sameTold(got.Outs[0].Response, impl.Response{}) || got.Outs[0].Source != "" {
		t.Errorf("the fetch is %+v", got.Outs[0])
	}
}

// startRow is how it stands at the origin of a flight that is to be started: how many are out, how many wait, and what the breaker is.
type startRow struct {
	what       string
	busy, wait int
	breaker    impl.Breaker
	begins     string
	left       impl.Breaker
}

// startRows: it begins out, or waiting, or is refused; the breaker has 300 to cool and 2 for a try.
func startRows() []startRow {
	var list []startRow
	add := func(what string, busy, wait int, breaker impl.Breaker, begins string, left impl.Breaker) {
		list = append(list, startRow{what, busy, wait, breaker, begins, left})
	}
	closed, young, cooled := closedWith(50, marked(9500, "gbg")...), openSince(9701), openSince(9700)
	for _, busy := range []int{0, 1} {
		add("a slot, closed", busy, 0, closed, "out", closed)
		add("a slot, new", busy, 0, impl.Breaker{}, "out", impl.Breaker{})
		add("a slot, open and not cooled", busy, 0, young, "refused", young)
		add("a slot, open just now", busy, 0, openSince(10000), "refused", openSince(10000))
		add("a slot, open and cooled", busy, 0, cooled, "out", halfWith(9700, 1))
		add("a slot, open and cooled long ago", busy, 0, openSince(0), "out", halfWith(0, 1))
		add("a slot, half", busy, 0, halfWith(9999, 0), "out", halfWith(9999, 1))
		add("a slot, half with one fewer than its quota", busy, 0, halfWith(9999, 1), "out", halfWith(9999, 2))
		add("a slot, half with its quota", busy, 0, halfWith(0, 2), "refused", halfWith(0, 2))
		add("a slot, half with more than its quota", busy, 0, halfWith(0, 5), "refused", halfWith(0, 5))
		add("a slot, and some wait", busy, 2, closed, "out", closed)
		add("a slot, some wait, open and not cooled", busy, 2, young, "refused", young)
	}
	for _, wait := range []int{0, 1} {
		add("room to wait, closed", 2, wait, closed, "waits", closed)
		add("room to wait, open and not cooled", 2, wait, young, "refused", young)
		add("room to wait, open and cooled", 2, wait, cooled, "waits", cooled)
		add("room to wait, half", 2, wait, halfWith(9999, 0), "waits", halfWith(9999, 0))
		add("room to wait, half with its quota", 2, wait, halfWith(9999, 2), "waits", halfWith(9999, 2))
	}
	for _, breaker := range []impl.Breaker{closed, young, cooled, halfWith(0, 0)} {
		add("no room", 2, 2, breaker, "refused", breaker)
	}
	return list
}

// standingAt is a shield of which a.com is as in the row, between two others.
func standingAt(row startRow, kept ...impl.Entry) impl.Shield {
	s := standing(kept, toOther(sent(10, "/b"), "b.org"))
	for i := range row.busy {
		seat(&s, sent(int64(11+i), fmt.Sprint("/o", i)))
	}
	for i := range row.wait {
		seat(&s, queued(int64(21+i), fmt.Sprint("/q", i)))
	}
	originIn(&s, "a.com").Breaker = row.breaker
	originIn(&s, "c")
	return s
}

func TestStarts(t *testing.T) {
	for _, row := range startRows() {
		for _, kept := range []impl.Entry{{}, keptAt("/x", deadMeta), keptAt("/x", errorMeta), keptAt("/x", whileMeta), keptAt("/x", impl.Meta{At: 9000, Life: 1001}), pinned(keptAt("/x", whileMeta), 19), pinned(keptAt("/x", deadMeta), 20)} {
			entries := keptOf(kept)
			if kept.Key == "" {
				entries = nil
			}
			s := standingAt(row, entries...)
			e := asking(7, request("GET", "A.com", "/x"))
			e.Draw = 999
			phase := phaseWanted(kept.Meta, 10000).Value
			told := phase == impl.PhaseFresh || phase == impl.PhaseWhile
			var said []string
			switch {
			case phase == impl.PhaseFresh:
				said = append(said, "7 hit 200 kept")
			case told, row.begins == "refused" && phase == impl.PhaseError:
				said = append(said, "7 stale 200 kept")
			case row.begins == "refused":
				said = append(said, "7 error 503")
			}
			if fetch := "fetch 50 A.com/x"; row.begins == "out" && kept.Key != "" {
				said = append(said, fetch+" if v1")
			} else if row.begins == "out" {
				said = append(said, fetch)
			}
			checkStep(t, row.what+", in phase "+fmt.Sprint(phase), s, e, strings.Join(said, "; "), func(s *impl.Shield) {
				if told || row.begins == "refused" && phase == impl.PhaseError {
					touch(s, "/x")
				}
				originIn(s, "a.com").Breaker = row.left
				if row.begins == "refused" {
					return
				}
				if kept.Key != "" && kept.Pins < 20 {
					pinBy(s, "/x", 1)
				}
				f := impl.Flight{Key: "a.com/x", Back: told, Out: row.begins == "out", Get: e.Request}
				if !told {
					f.Waiters = waiters(7, 12000)
				}
				begin(s, f)
			})
		}
	}
}

// A slot that is free is refused by the breaker, though there would be room to wait; and without a slot a try is not counted.
func TestStartsInARow(t *testing.T) {
	row := startRow{breaker: openSince(9700)}
	s := standingAt(row)
	s.Config.Lanes.Slots = 4
	said := []string{"fetch 50 a.com/0", "fetch 51 a.com/1", "102 error 503", "103 error 503"}
	for i, want := range said {
		told := impl.StepShield(s, asking(int64(100+i), request("GET", "a.com", fmt.Sprint("/", i))))
		if told.Code != impl.OK || saidIn(told.Outs) != want {
			t.Fatalf("%d: %q, want %q", i, saidIn(told.Outs), want)
		}
		s = told.Shield
	}
	if o := impl.OriginOf(s, "a.com").Origin; o.Breaker.State != impl.StateHalf || o.Breaker.Out != 2 || o.Bulk.Busy != 2 || len(o.Bulk.Queue) != 0 {
		t.Errorf("the origin is %+v", o)
	}
	s = standingAt(startRow{busy: 2, breaker: openSince(9700)})
	for i, want := range []string{"", "", "102 error 503"} {
		told := impl.StepShield(s, asking(int64(100+i), request("GET", "a.com", fmt.Sprint("/", i))))
		if told.Code != impl.OK || saidIn(told.Outs) != want {
			t.Fatalf("%d waits: %q, want %q", i, saidIn(told.Outs), want)
		}
		s = told.Shield
	}
	if o := impl.OriginOf(s, "a.com").Origin; !sameBreaker(o.Breaker, openSince(9700)) || len(o.Bulk.Queue) != 2 {
		t.Errorf("the origin is %+v", o)
	}
}

// crowded has so many flights, of three hosts, and so many origins.
func crowded(flights, origins int) impl.Shield {
	s := standing(keptOf(keptAt("/w", whileMeta), keptAt("/e", errorMeta)))
	s.Config.Lanes = impl.Lanes{Slots: 8, Cap: 8, Time: 500}
	for i := range flights {
		seat(&s, toOther(sent(int64(i), fmt.Sprint("/", i)), []string{"d", "e", "f"}[i%3]))
	}
	for i := 0; len(s.Origins) < origins; i++ {
		originIn(&s, []string{"d", "e", "f", "a.com", "b.org", "c"}[i])
	}
	return s
}

func TestStartsInACrowd(t *testing.T) {
	for _, flights := range []int{0, 3, 22, 23, 24} {
		for origins := 3; origins <= 6; origins++ {
			for _, host := range []string{"f", "F", "A.com", "a.com", "new.org", "NEW-9.org"} {
				s := crowded(flights, origins)
				if flights > 0 && len(s.Origins) != origins {
					t.Fatalf("%d flights, %d origins are %d", flights, origins, len(s.Origins))
				}
				there := slices.ContainsFunc(s.Origins, func(o impl.Origin) bool { return o.Host == strings.ToLower(host) })
				refused := flights == 24 || !there && len(s.Origins) == 6
				what := fmt.Sprint(flights, " flights, ", origins, " origins, ", host)
				get := request("GET", host, "/x")
				said, turn := "fetch 50 "+host+"/x", func(s *impl.Shield) {
					begin(s, impl.Flight{Key: strings.ToLower(host) + "/x", Out: true, Get: get, Waiters: waiters(7, 12000)})
				}
				if refused {
					said, turn = "7 error 503", nothing
				}
				checkStep(t, what, s, asking(7, get), said, turn)
				if strings.ToLower(host) != "a.com" {
					continue
				}
				// What may be told is told, refused or not.
				get = request("HEAD", host, "/w")
				said, turn = "7 stale 200; fetch 50 "+host+"/w if v1", func(s *impl.Shield) {
					touch(s, "/w")
					pinBy(s, "/w", 1)
					begin(s, impl.Flight{Key: "a.com/w", Back: true, Out: true, Get: get})
				}
				if refused {
					said, turn = "7 stale 200", func(s *impl.Shield) { touch(s, "/w") }
				}
				checkStep(t, what+", old", s, asking(7, get), said, turn)
				get = request("GET", host, "/e")
				if refused {
					checkStep(t, what+", older", s, asking(7, get), "7 stale 200 kept", func(s *impl.Shield) { touch(s, "/e") })
				}
			}
		}
	}
}

func TestStartsAtTheEndOfTime(t *testing.T) {
	for _, left := range []int64{0, 1, 499, 500, 999, 1000, 1999, 2000, 2001} {
		now := impl.MaxTime - left
		s := standing(nil, sent(11, "/y"))
		s.Now = now
		checkStep(t, "out", s, asking(7, request("GET", "a.com", "/x")), "fetch 50 a.com/x", func(s *impl.Shield) {
			begin(s, impl.Flight{Key: "a.com/x", Out: true, Get: request("GET", "a.com", "/x"), Waiters: waiters(7, min(impl.MaxTime, now+2000))})
			flightIn(s, 50).Due = min(impl.MaxTime, now+1000)
		})
		seat(&s, sent(12, "/z"))
		checkStep(t, "waits", s, asking(7, request("GET", "a.com", "/x")), "", func(s *impl.Shield) {
			begin(s, impl.Flight{Key: "a.com/x", Get: request("GET", "a.com", "/x"), Waiters: waiters(7, min(impl.MaxTime, now+2000))})
			originIn(s, "a.com").Bulk.Queue[0].Due = min(impl.MaxTime, now+500)
		})
	}
	// The last Id but one leaves a right shield.
	s := standing(nil)
	s.Next = impl.MaxTime - 1
	checkStep(t, "the last Id but one", s, asking(7, request("GET", "a.com", "/x")), fmt.Sprint("fetch ", impl.MaxTime-1, " a.com/x"), func(s *impl.Shield) {
		begin(s, impl.Flight{Key: "a.com/x", Out: true, Get: request("GET", "a.com", "/x"), Waiters: waiters(7, 12000)})
	})
}

// Neither a flight that is not there nor one that waits to go has anything to tell.
func TestRepliesOfNoFlight(t *testing.T) {
	s := standing(keptOf(keptAt("/x", errorMeta)), sent(11, "/x", 71, 10500), sent(13, "/y"), queued(14, "/z", 72, 10500), doomed(queued(16, "/v", 73, 10500)))
	for id := int64(-1); id < 80; id++ {
		for i, e := range []impl.Event{replying(id, 200, "one", youngHead), replying(id, 304, ""), replying(id, 500, ""), failing(id)} {
			switch {
			case id < 0:
				checkStepCode(t, "no time", s, e, impl.ErrRange)
			case id == 11 || id == 13:
				if got, _ := checkStepped(t, "one that is out", s, e); got.Code != impl.OK || len(got.Shield.Flights) != 3 {
					t.Errorf("%d, %d: %d", id, i, got.Code)
				}
			default:
				checkStepCode(t, "none that is out", s, e, impl.ErrNone)
			}
		}
	}
	for _, id := range []int64{impl.MaxTime, impl.MaxTime - 1} {
		checkStepCode(t, "none that is out", s, failing(id), impl.ErrNone)
		checkStepCode(t, "none that is out", impl.NewShield(stepConfig()).Shield, replying(id, 200, ""), impl.ErrNone)
	}
	checkStepCode(t, "a wrong response of none", s, replying(99, 600, ""), impl.ErrRange)
	// What comes too late turns nothing.
	once := impl.StepShield(s, replying(11, 200, "one", youngHead))
	checkStepCode(t, "it came already", once.Shield, replying(11, 200, "two", youngHead), impl.ErrNone)
	checkStepCode(t, "it came already", once.Shield, failing(11), impl.ErrNone)
}

// madeOf is what is kept of a response that came at 10000.
func madeOf(path string, status int64, body string, life int64, list ...impl.Header) impl.Entry {
	return impl.Entry{Key: "a.com" + path, Status: status, Headers: list, Body: []byte(body), Meta: impl.Meta{At: 10000, Life: life}}
}

// replyRow is a reply to the flight for /x, for which 71 waits, 72 for the head alone, and 73.
type replyRow struct {
	what string
	kept []impl.Entry
	e    impl.Event
	said string
	turn func(s *impl.Shield)
}

func (row replyRow) check(t *testing.T, config func(c *impl.Config)) {
	t.Helper()
	for _, more := range [][]impl.Flight{nil, {sent(12, "/o", 81, 10500), queued(13, "/q", 82, 10500), queued(14, "/r")}} {
		for _, nobody := range []bool{false, true} {
			s := standing(append(slices.Clone(row.kept), keptAt("/other", freshMeta)), append([]impl.Flight{headFor(sent(11, "/x", 71, 10500, 72, 10500, 73, 12000), 72)}, more...)...)
			if config != nil {
				config(&s.Config)
				s.Store.Budget, s.Store.Guard = s.Config.Budget, s.Config.Guard
			}
			said := row.said
			if nobody {
				s.Flights[0].Waiters, said = nil, ""
			}
			if more != nil {
				said = strings.TrimPrefix(said+"; fetch 13 a.com/q", "; ")
			}
			checkStep(t, row.what, s, row.e, said, func(s *impl.Shield) {
				leave(s, 11)
				note(s, "a.com", row.e.Response.Status < 500)
				row.turn(s)
				if !nobody && (strings.Contains(said, "stale") || strings.Contains(said, "renewed")) {
					touch(s, "/x")
				}
				if more != nil {
					goOut(s, 13)
				}
			})
		}
	}
}

func TestRepliesThatAreKept(t *testing.T) {
	tagsOf := func(e impl.Entry, tags ...string) impl.Entry {
		e.Tags = tags
		return e
	}
	noted := impl.Meta{At: 10000, Life: 5000, Swr: 2000, Sie: 3000}
	full := madeOf("/x", 200, "one", 0, head("Cache-Control", "max-age=5, stale-while-revalidate=2, stale-if-error=3"))
	full.Meta = noted
	for _, old := range [][]impl.Entry{nil, keptOf(keptAt("/x", freshMeta)), keptOf(pinned(keptAt("/x", whileMeta), 1)), keptOf(pinned(keptAt("/x", deadMeta), 20)), keptOf(keptAt("/y", freshMeta), keptAt("/x", errorMeta))} {
		for _, row := range []struct {
			e    impl.Event
			made impl.Entry
		}{
			{replying(11, 200, "one", youngHead), madeOf("/x", 200, "one", 5000, youngHead)}, {replying(11, 200, strings.Repeat("b", 300), youngHead), madeOf("/x", 200, strings.Repeat("b", 300), 5000, youngHead)},
			{replying(11, 200, "one", full.Headers...), full}, {replying(11, 200, "one", youngHead, head("Surrogate-Key", "t u")), tagsOf(madeOf("/x", 200, "one", 5000, youngHead, head("Surrogate-Key", "t u")), "t", "u")},
			{replying(11, 404, "none"), madeOf("/x", 404, "none", 60)}, {replying(11, 410, "", youngHead), madeOf("/x", 410, "", 5000, youngHead)}, {replying(11, 200, "", head("ETag", "v2"), youngHead), madeOf("/x", 200, "", 5000, head("ETag", "v2"), youngHead)},
			{replying(11, 200, "one", with(apartLines(16), youngHead)...), madeOf("/x", 200, "one", 5000, with(apartLines(16), youngHead)...)},
		} {
			whole, status := strings.TrimSuffix(fmt.Sprint(row.made.Status, " ", string(row.made.Body)), " "), row.made.Status
			said := fmt.Sprint("71 miss ", whole, "; 72 miss ", status, "; 73 miss ", whole)
			replyRow{"kept", old, row.e, said, func(s *impl.Shield) { putFirst(s, row.made) }}.check(t, func(c *impl.Config) { c.ObjCost = 1000 })
		}
	}
}

func TestRepliesThatAreNotKept(t *testing.T) {
	for _, old := range [][]impl.Entry{nil, keptOf(keptAt("/x", freshMeta)), keptOf(pinned(keptAt("/x", whileMeta), 1)), keptOf(pinned(keptAt("/x", deadMeta), 20)), keptOf(keptAt("/y", freshMeta), keptAt("/x", errorMeta))} {
		for _, list := range [][]impl.Header{
			cache("no-store"), cache("private"), cache("max-age=5, no-store"), nil, {head("Vary", "*"), youngHead}, {head("Vary", "accept"), youngHead}, with(apartLines(17), youngHead), with(apartLines(19), youngHead), {head("a", "b")},
		} {
			for _, status := range []int64{200, 201, 206, 301, 303, 403, 451, 499} {
				replyRow{fmt.Sprint("not kept: ", list), old, replying(11, status, "one", list...), fmt.Sprintf("71 miss %d one; 72 miss %d; 73 miss %d one", status, status, status), func(s *impl.Shield) { drop(s, "/x") }}.check(t, nil)
			}
		}
	}
}

func TestRepliesWithoutRoom(t *testing.T) {
	// What costs as much as may be, and one more.
	made := madeOf("/x", 200, "one", 5000, youngHead)
	cost, reply := costWanted(made), replying(11, 200, "one", youngHead)
	said := "71 miss 200 one; 72 miss 200; 73 miss 200 one"
	for _, old := range [][]impl.Entry{nil, keptOf(keptAt("/x", freshMeta)), keptOf(pinned(keptAt("/x", deadMeta), 3))} {
		for _, most := range []int64{0, cost - 1, cost, cost + 1} {
			replyRow{fmt.Sprint("it costs ", cost, " of ", most), old, reply, said, func(s *impl.Shield) {
				if most < cost {
					drop(s, "/x")
				} else {
					putFirst(s, made)
				}
			}}.check(t, func(c *impl.Config) { c.ObjCost = most })
		}
		// The other entry is not pinned: it goes where there is no room for both; and where it may not go, nothing is kept.
		other := keptAt("/other", freshMeta)
		for _, budget := range []int64{cost, cost + costWanted(other) - 1, cost + costWanted(other)} {
			for _, pins := range []int64{0, 1} {
				s := standing(append(slices.Clone(old), pinned(other, pins)), headFor(sent(11, "/x", 71, 10500, 72, 10500, 73, 12000), 72))
				s.Config.Budget, s.Config.ObjCost, s.Config.Guard = budget, min(budget, cost), 0
				s.Store.Budget, s.Store.Guard = budget, 0
				if shieldWanted(s) != impl.OK {
					continue
				}
				checkStep(t, fmt.Sprint(cost, " and ", costWanted(other), " in ", budget), s, reply, said, func(s *impl.Shield) {
					leave(s, 11)
					note(s, "a.com", true)
					switch all := budget == cost+costWanted(other); {
					case all:
						putFirst(s, made)
					case pins > 0:
						drop(s, "/x")
					default:
						s.Store.Trial = keptOf(made)
					}
				})
			}
		}
	}
}

func TestRepliesThatAreBad(t *testing.T) {
	for _, status := range []int64{500, 501, 503, 599} {
		relayed := fmt.Sprintf("71 miss %d one; 72 miss %d; 73 miss %d one", status, status, status)
		stale := "71 stale 200 kept; 72 stale 200; 73 stale 200 kept"
		for _, pins := range []int64{0, 1, 20} {
			unpin := func(s *impl.Shield) {
				if pins > 0 {
					pinBy(s, "/x", -1)
				}
			}
			for _, list := range [][]impl.Header{nil, {youngHead}} {
				replyRow{"bad, nothing kept", nil, replying(11, status, "one", list...), relayed, nothing}.check(t, nil)
				replyRow{"bad, dead", keptOf(pinned(keptAt("/x", deadMeta), pins)), replying(11, status, "one", list...), relayed, unpin}.check(t, nil)
				for _, m := range []impl.Meta{freshMeta, whileMeta, errorMeta} {
					replyRow{"bad, may be told", keptOf(pinned(keptAt("/x", m), pins)), replying(11, status, "one", list...), stale, unpin}.check(t, nil)
				}
			}
		}
	}
	// Just below, nothing that is kept is told in its place.
	replyRow{"499", keptOf(keptAt("/x", freshMeta)), replying(11, 499, "one"), "71 miss 499 one; 72 miss 499; 73 miss 499 one", func(s *impl.Shield) { drop(s, "/x") }}.check(t, nil)
}

func TestRepliesOfWhatIsUnchanged(t *testing.T) {
	failed, stale := "71 error 502; 72 error 502; 73 error 502", "71 stale 200 kept; 72 stale 200; 73 stale 200 kept"
	renewed := "71 renewed 200 kept; 72 renewed 200; 73 renewed 200 kept"
	for _, list := range [][]impl.Header{nil, {youngHead}, {head("ETag", "v2"), youngHead}} {
		replyRow{"nothing to renew", nil, replying(11, 304, "one", list...), failed, nothing}.check(t, nil)
	}
	for _, pins := range []int64{0, 1, 2, 20} {
		left := max(0, pins-1)
		unpin := func(s *impl.Shield) {
			if pins > 0 {
				pinBy(s, "/x", -1)
			}
		}
		for _, m := range []impl.Meta{freshMeta, whileMeta, errorMeta, deadMeta, {At: 9000, Life: 5000, Soft: true}} {
			old := pinned(keptAt("/x", m), pins)
			kept := keptOf(keptAt("/first", freshMeta), old)
			replyRow{"renewed", kept, replying(11, 304, "one", youngHead), renewed, func(s *impl.Shield) {
				putFirst(s, pinned(madeOf("/x", 200, "kept", 5000, head("ETag", "v1"), youngHead), left))
			}}.check(t, nil)
			replyRow{"renewed with another mark", kept, replying(11, 304, "one", youngHead, head("etag", "v2")), renewed, func(s *impl.Shield) {
				putFirst(s, pinned(madeOf("/x", 200, "kept", 5000, head("etag", "v2"), youngHead), left))
			}}.check(t, nil)
			// What costs more than an answer may is not asked here.
			replyRow{"renewed, dear", kept, replying(11, 304, "", youngHead), renewed, func(s *impl.Shield) {
				putFirst(s, pinned(madeOf("/x", 200, "kept", 5000, head("ETag", "v1"), youngHead), left))
			}}.check(t, func(c *impl.Config) { c.ObjCost = 0 })
			said := stale
			if !serveWanted(m, 10000, true) {
				said = failed
			}
			for _, list := range [][]impl.Header{nil, cache("no-store"), {head("Vary", "*"), youngHead}, with(apartLines(16), youngHead)} {
				replyRow{"not merged", kept, replying(11, 304, "one", list...), said, unpin}.check(t, nil)
			}
			// It would cost more then, and the others are pinned.
			s := standing(keptOf(old, pinned(keptAt("/other", freshMeta), 1)), headFor(sent(11, "/x", 71, 10500, 72, 10500, 73, 12000), 72))
			s.Config.Budget, s.Config.ObjCost, s.Config.Guard = costWanted(s.Store.Trial...), 0, 0
			s.Store.Budget, s.Store.Guard = s.Config.Budget, 0
			checkStep(t, "no room for what is merged", s, replying(11, 304, "", youngHead), said, func(s *impl.Shield) {
				leave(s, 11)
				note(s, "a.com", true)
				unpin(s)
				if said == stale {
					touch(s, "/x")
				}
			})
		}
	}
}

// What is told of a reply, line by line.
func TestReplyLines(t *testing.T) {
	s := standing(keptOf(keptAt("/x", errorMeta)), headFor(sent(11, "/x", 71, 10500, 72, 10500), 72))
	told := func(e impl.Event) []impl.Out { return impl.StepShield(s, e).Outs }
	check := func(what string, outs []impl.Out, want ...impl.Response) {
		t.Helper()
		for i, o := range outs {
			if o.Kind != impl.OutAnswer || o.Id != int64(71+i) || !sameTold(o.Response, want[i]) || !isNoRequest(o.Request) {
				t.Errorf("%s: %+v, want %s", what, o, shownResponse(want[i]))
			}
		}
		if len(outs) != len(want) {
			t.Errorf("%s: %d outs", what, len(outs))
		}
	}
	lines := []impl.Header{youngHead, head("x-cache", "a"), head("Link", "b"), head("X-CACHE", "c")}
	set := []impl.Header{youngHead, head("X-Cache", "miss"), head("Link", "b")}
	check("kept", told(replying(11, 200, "one", lines...)), response(200, "one", set...), response(200, "", set...))
	check("not kept", told(replying(11, 302, "one", lines...)), response(302, "one", set...), response(302, "", set...))
	check("no room for a line", told(replying(11, 302, "one", apartLines(20)...)), response(302, "one", apartLines(20)...), response(302, "", apartLines(20)...))
	stale := []impl.Header{head("ETag", "v1"), head("Age", "1"), head("X-Cache", "stale")}
	check("bad", told(replying(11, 500, "one", lines...)), response(200, "kept", stale...), response(200, "", stale...))
	check("failed", told(failing(11)), response(200, "kept", stale...), response(200, "", stale...))
	renewed := []impl.Header{head("ETag", "v1"), youngHead, head("Age", "0"), head("X-Cache", "renewed")}
	check("renewed", told(replying(11, 304, "one", youngHead)), response(200, "kept", renewed...), response(200, "", renewed...))
	s.Store.Trial = nil
	check("nothing kept", told(failing(11)), response(502, "", head("X-Cache", "error")), response(502, "", head("X-Cache", "error")))
}

func TestFails(t *testing.T) {
	failed, stale := "71 error 502; 72 error 502; 73 error 502", "71 stale 200 kept; 72 stale 200; 73 stale 200 kept"
	for _, row := range []struct {
		kept []impl.Entry
		said string
	}{
		{nil, failed}, {keptOf(keptAt("/x", deadMeta)), failed}, {keptOf(keptAt("/y", freshMeta)), failed}, {keptOf(keptAt("/x", errorMeta)), stale}, {keptOf(keptAt("/y", freshMeta), keptAt("/x", whileMeta)), stale}, {keptOf(keptAt("/x", freshMeta)), stale}, {keptOf(pinned(keptAt("/x", errorMeta), 20)), stale}, {keptOf(pinned(keptAt("/x", deadMeta), 1)), failed},
	} {
		for _, of := range []func(f impl.Flight) impl.Flight{func(f impl.Flight) impl.Flight { return f }, doomed, func(f impl.Flight) impl.Flight { return lateFor(doomed(f), 72, 73) }, func(f impl.Flight) impl.Flight { return lateFor(f, 71) }} {
			for _, next := range []bool{false, true} {
				s, said := standing(row.kept, headFor(of(sent(11, "/x", 71, 10500, 72, 10500, 73, 12000)), 72), sent(12, "/o")), row.said
				if next {
					seat(&s, queued(13, "/q", 81, 10500))
					said += "; fetch 13 a.com/q"
				}
				checkStep(t, "it fails", s, failing(11), said, func(s *impl.Shield) {
					leave(s, 11)
					note(s, "a.com", false)
					if e := entryIn(s, "a.com/x"); e != nil && e.Pins > 0 {
						e.Pins--
					}
					if row.said == stale {
						touch(s, "/x")
					}
					if next {
						goOut(s, 13)
					}
				})
			}
		}
	}
}

// The breaker of the flight's own origin is told at once: the last of too many bad outcomes opens it, a good try closes it.
func TestOutcomes(t *testing.T) {
	for _, row := range []struct {
		what    string
		breaker impl.Breaker
		e       impl.Event
		left    impl.Breaker
	}{
		{"good", closedWith(5, marked(9500, "gb")...), replying(11, 499, ""), closedWith(5, append(marked(9500, "gb"), goodAt(10000)...)...)}, {"bad", closedWith(5, marked(9500, "gg")...), replying(11, 500, ""), closedWith(5, append(marked(9500, "gg"), marked(10000, "b")...)...)}, {"failed", closedWith(5, marked(9500, "g")...), failing(11), closedWith(5, append(marked(9500, "g"), marked(10000, "b")...)...)},
		{"old marks go", closedWith(5, append(marked(9000, "bb"), marked(9001, "b")...)...), replying(11, 304, ""), closedWith(5, append(marked(9001, "b"), goodAt(10000)...)...)}, {"too many bad", closedWith(5, marked(9500, "gbg")...), replying(11, 503, ""), openSince(10000)}, {"too many failed", closedWith(5, marked(9500, "gbg")...), failing(11), openSince(10000)},
		{"a good try", halfWith(9500, 2), replying(11, 200, ""), impl.Breaker{Since: 9500}}, {"a bad try", halfWith(9500, 2), replying(11, 599, ""), openSince(10000)}, {"a failed try", halfWith(9500, 1), failing(11), openSince(10000)}, {"open already", openSince(9900), replying(11, 200, ""), openSince(9900)}, {"open already, failed", openSince(9900), failing(11), openSince(9900)},
	} {
		for _, doom := range []bool{false, true} {
			f := sent(11, "/x")
			f.Get.Host, f.Doomed = "A.Com", doom
			s := standing(nil, toOther(sent(9, "/x"), "b.org"), f)
			originIn(&s, "a.com").Breaker = row.breaker
			originIn(&s, "c").Breaker = openSince(77)
			checkStep(t, row.what, s, row.e, "", func(s *impl.Shield) {
				leave(s, 11)
				originIn(s, "a.com").Breaker = row.left
				if row.e.Kind == impl.EvReply && row.e.Response.Status == 200 && !doom {
					drop(s, "/x")
				}
			})
		}
	}
}

// Who came behind a hard purge is asked for once more; who was there ahead of it is told what came, and nothing of it is kept.
func TestDoomedReplies(t *testing.T) {
	for _, e := range []impl.Event{replying(11, 200, "one", youngHead), replying(11, 304, "one", youngHead), replying(11, 404, "one"), replying(11, 500, "one"), replying(11, 503, "one", youngHead)} {
		status := e.Response.Status
		for _, kept := range [][]impl.Entry{nil, keptOf(keptAt("/x", freshMeta)), keptOf(pinned(keptAt("/x", errorMeta), 1)), keptOf(pinned(keptAt("/x", deadMeta), 20))} {
			for _, row := range []struct {
				late, early []int64
				said        string
			}{
				{nil, nil, ""}, {nil, []int64{71, 72, 73}, fmt.Sprintf("71 miss %d one; 72 miss %d; 73 miss %d one", status, status, status)}, {[]int64{73}, []int64{71, 72}, fmt.Sprintf("71 miss %d one; 72 miss %d", status, status)},
				{[]int64{71, 72}, []int64{73}, fmt.Sprintf("73 miss %d one", status)}, {[]int64{71, 73}, []int64{72}, fmt.Sprintf("72 miss %d", status)}, {[]int64{71, 72, 73}, nil, ""},
			} {
				var list []impl.Waiter
				for _, w := range []impl.Waiter{{Req: 71, Due: 10500}, {Req: 72, Due: 11000, Head: true}, {Req: 73, Due: 12000}} {
					if w.Late = slices.Contains(row.late, w.Req); w.Late || slices.Contains(row.early, w.Req) {
						list = append(list, w)
					}
				}
				f := doomed(sent(11, "/x"))
				f.Waiters, f.Get = list, request("HEAD", "A.com", "/x", head("a", "b"))
				s, said := standing(append(slices.Clone(kept), keptAt("/other", freshMeta)), sent(9, "/o"), f), row.said
				if fetch := "fetch 50 A.com/x"; len(row.late) > 0 && kept != nil {
					said += "; " + fetch + " if v1"
				} else if len(row.late) > 0 {
					said += "; " + fetch
				}
				checkStep(t, "doomed", s, e, strings.TrimPrefix(said, "; "), func(s *impl.Shield) {
					leave(s, 11)
					note(s, "a.com", status < 500)
					if kept != nil && kept[0].Pins > 0 {
						pinBy(s, "/x", -1)
					}
					if len(row.late) == 0 {
						return
					}
					again := impl.Flight{Key: "a.com/x", Out: true, Get: f.Get}
					for _, w := range list {
						if w.Late {
							w.Late = false
							again.Waiters = append(again.Waiters, w)
						}
					}
					if kept != nil {
						pinBy(s, "/x", 1)
					}
					begin(s, again)
				})
			}
		}
	}
}

// The new flight of those who are late comes behind the slot was freed: whoever waits for it goes ahead.
func TestDoomedRepliesStartAnew(t *testing.T) {
	f := lateFor(doomed(headFor(sent(11, "/x", 71, 10500, 72, 10600, 73, 9000), 73)), 72, 73)
	again := impl.Flight{Key: "a.com/x", Get: f.Get, Waiters: []impl.Waiter{{Req: 72, Due: 10600}, {Req: 73, Due: 9000, Head: true}}}
	out := again
	out.Out = true
	check := func(what string, s impl.Shield, e impl.Event, said string, turn func(s *impl.Shield)) {
		t.Helper()
		checkStep(t, what, s, e, said, func(s *impl.Shield) {
			leave(s, 11)
			turn(s)
		})
	}
	good := func(s *impl.Shield) { note(s, "a.com", true) }
	ok := replying(11, 200, "one", youngHead)
	check("sent", standing(nil, f, sent(12, "/o")), ok, "71 miss 200 one; fetch 50 a.com/x", func(s *impl.Shield) { good(s); begin(s, out) })
	check("sent, one waiter", standing(nil, lateFor(doomed(sent(11, "/x", 72, 10600)), 72)), ok, "fetch 50 a.com/x", func(s *impl.Shield) {
		good(s)
		begin(s, impl.Flight{Key: "a.com/x", Out: true, Get: f.Get, Waiters: waiters(72, 10600)})
	})
	check("waits behind who is sent", standing(nil, f, sent(12, "/o"), queued(13, "/q", 81, 10500)), ok, "71 miss 200 one; fetch 13 a.com/q", func(s *impl.Shield) { good(s); goOut(s, 13); begin(s, again) })
	check("waits behind who waits", standing(nil, f, sent(12, "/o"), queued(13, "/q", 81, 10500), queued(14, "/r")), ok, "71 miss 200 one; fetch 13 a.com/q", func(s *impl.Shield) { good(s); goOut(s, 13); begin(s, again) })
	// The breaker is open by this reply: who waits is denied, and so is the new flight.
	bad := replying(11, 500, "bad")
	s := standing(nil, f, sent(12, "/o"), queued(13, "/q", 81, 10500), queued(14, "/r", 82, 10500))
	originIn(&s, "a.com").Breaker = closedWith(0, marked(9500, "gbg")...)
	check("refused", s, bad, "71 miss 500 bad; 81 error 503; 82 error 503; 72 error 503; 73 error 503", func(s *impl.Shield) {
		leave(s, 13)
		leave(s, 14)
		originIn(s, "a.com").Breaker = openSince(10000)
	})
	// Where they are refused they are told what may be told, though it was not there when they came.
	s.Store.Trial = keptOf(pinned(keptAt("/x", errorMeta), 1), keptAt("/r", errorMeta))
	check("refused, and told", s, bad, "71 miss 500 bad; 81 error 503; 82 stale 200 kept; 72 stale 200 kept; 73 stale 200", func(s *impl.Shield) {
		leave(s, 13)
		leave(s, 14)
		originIn(s, "a.com").Breaker = openSince(10000)
		pinBy(s, "/x", -1)
		touch(s, "/r", "/x")
	})
	// A breaker without time to cool lets the next one try, and one more by its quota.
	s.Config.Rules.Cool, s.Store.Trial = 0, nil
	check("it cools at once", s, bad, "71 miss 500 bad; fetch 13 a.com/q", func(s *impl.Shield) {
		originIn(s, "a.com").Breaker = halfWith(10000, 1)
		goOut(s, 13)
		begin(s, again)
	})
	s = standing(nil, f)
	s.Config.Rules.Cool = 0
	originIn(&s, "a.com").Breaker = closedWith(0, marked(9500, "gbg")...)
	check("it cools at once, nobody waits", s, bad, "71 miss 500 bad; fetch 50 a.com/x", func(s *impl.Shield) {
		originIn(s, "a.com").Breaker = halfWith(10000, 1)
		begin(s, out)
	})
	s = standing(nil, f)
	originIn(&s, "a.com").Breaker = openSince(9701)
	check("it is open already", s, ok, "71 miss 200 one; 72 error 503; 73 error 503", func(s *impl.Shield) {})
	originIn(&s, "a.com").Breaker = openSince(9700)
	check("it is open, and has cooled", s, ok, "71 miss 200 one; fetch 50 a.com/x", func(s *impl.Shield) {
		originIn(s, "a.com").Breaker = halfWith(9700, 1)
		begin(s, out)
	})
	// As many flights and origins as may be leave room for the one that ended.
	s = crowded(23, 6)
	seat(&s, lateFor(doomed(toOther(sent(30, "/x", 72, 10600), "f")), 72))
	checkStep(t, "a crowd", s, replying(30, 200, ""), "fetch 50 f/x", func(s *impl.Shield) {
		leave(s, 30)
		note(s, "f", true)
		begin(s, impl.Flight{Key: "f/x", Out: true, Get: request("GET", "f", "/x"), Waiters: waiters(72, 10600)})
	})
	// More may be late than may wait for one flight now: all of them go on.
	s = standing(nil, lateFor(doomed(sent(11, "/x", 71, 10500, 72, 10600, 73, 10700)), 71, 72, 73))
	s.Config.WaitCap = 1
	check("more than may wait", s, ok, "fetch 50 a.com/x", func(s *impl.Shield) {
		good(s)
		begin(s, impl.Flight{Key: "a.com/x", Out: true, Get: f.Get, Waiters: waiters(71, 10500, 72, 10600, 73, 10700)})
	})
}

// A flight that is not doomed has nobody late, whatever its waiters say.
func TestLateWaitersOfOthers(t *testing.T) {
	s := standing(nil, lateFor(sent(11, "/x", 71, 10500, 72, 10600, 73, 10700), 71, 73))
	checkStep(t, "not doomed", s, replying(11, 201, "one"), "71 miss 201 one; 72 miss 201 one; 73 miss 201 one", func(s *impl.Shield) {
		leave(s, 11)
		note(s, "a.com", true)
	})
}

func TestSlotsThatAreFreed(t *testing.T) {
	other := toOther(sent(10, "/o", 91, 10500), "b.org")
	full := func(kept []impl.Entry, waiting ...impl.Flight) impl.Shield {
		return standing(kept, append([]impl.Flight{other, sent(11, "/x", 71, 10500), sent(12, "/y")}, waiting...)...)
	}
	queueOf := []impl.Flight{queued(13, "/q", 81, 10500, 82, 10500), queued(14, "/r"), queued(15, "/s", 83, 10500), queued(16, "/v", 84, 10500)}
	deny := func(s *impl.Shield, ids ...int64) {
		for _, id := range ids {
			leave(s, id)
		}
	}
	for _, e := range []impl.Event{replying(11, 302, "one"), failing(11)} {
		first, good := "71 miss 302 one", e.Kind == impl.EvReply
		if !good {
			first = "71 error 502"
		}
		for count := range 5 {
			s := full(keptOf(keptAt("/q", whileMeta)), queueOf[:count]...)
			s.Config.Lanes.Cap = 4
			said := first
			if count > 0 {
				said += "; fetch 13 a.com/q if v1"
			}
			checkStep(t, fmt.Sprint(count, " wait, closed"), s, e, said, func(s *impl.Shield) {
				leave(s, 11)
				note(s, "a.com", good)
				if count > 0 {
					goOut(s, 13)
				}
			})
			// One that is open denies all who wait, one behind the other, and then the slot is free.
			originIn(&s, "a.com").Breaker = openSince(9701)
			denied := []string{"; 81 stale 200 kept; 82 stale 200 kept", "", "; 83 error 503", "; 84 error 503"}
			checkStep(t, fmt.Sprint(count, " wait, open"), s, e, first+strings.Join(denied[:count], ""), func(s *impl.Shield) {
				leave(s, 11)
				deny(s, []int64{13, 14, 15, 16}[:count]...)
				if count > 0 {
					touch(s, "/q")
				}
			})
			originIn(&s, "a.com").Breaker = openSince(9700)
			checkStep(t, fmt.Sprint(count, " wait, cooled"), s, e, said, func(s *impl.Shield) {
				leave(s, 11)
				if count > 0 {
					originIn(s, "a.com").Breaker = halfWith(9700, 1)
					goOut(s, 13)
				}
			})
		}
	}
	// A good try closes it: the next one goes. A bad one opens it: nobody goes.
	s := full(nil, queueOf[:2]...)
	originIn(&s, "a.com").Breaker = halfWith(9500, 2)
	checkStep(t, "a good try", s, replying(11, 302, "one"), "71 miss 302 one; fetch 13 a.com/q", func(s *impl.Shield) {
		leave(s, 11)
		originIn(s, "a.com").Breaker = impl.Breaker{Since: 9500}
		goOut(s, 13)
	})
	checkStep(t, "a bad try", s, failing(11), "71 error 502; 81 error 503; 82 error 503", func(s *impl.Shield) {
		leave(s, 11)
		deny(s, 13, 14)
		originIn(s, "a.com").Breaker = openSince(10000)
	})
	// Whoever is denied is pinned no more, and is gone, doomed or not, late or not.
	s = full(keptOf(pinned(keptAt("/q", errorMeta), 20), pinned(keptAt("/r", deadMeta), 1), keptAt("/x", deadMeta)), lateFor(doomed(queueOf[0]), 82), queueOf[1])
	originIn(&s, "a.com").Breaker = openSince(10000)
	checkStep(t, "denied and pinned", s, failing(11), "71 error 502; 81 stale 200 kept; 82 stale 200 kept", func(s *impl.Shield) {
		leave(s, 11)
		deny(s, 13, 14)
		pinBy(s, "/q", -1)
		pinBy(s, "/r", -1)
		touch(s, "/q")
	})
	// The one that waits longest goes, whatever its Id; what is sent is as it was when it was asked for, and as it is kept now.
	s = full(keptOf(keptAt("/r", deadMeta)), queueOf[:2]...)
	slices.Reverse(originIn(&s, "a.com").Bulk.Queue)
	flightIn(&s, 14).Get = request("HEAD", "A.COM", "/r", head("If-None-Match", "v0"), head("a", "b"))
	got := checkStep(t, "in turn", s, replying(11, 302, ""), "71 miss 302; fetch 14 A.COM/r if v1", func(s *impl.Shield) {
		leave(s, 11)
		note(s, "a.com", true)
		goOut(s, 14)
	})
	if want := request("GET", "A.COM", "/r", head("a", "b"), head("If-None-Match", "v1")); !sameAsked(got.Outs[1].Request, want) {
		t.Errorf("the fetch is %+v", got.Outs[1])
	}
}

func TestTicks(t *testing.T) {
	now := func(n int64) func(s *impl.Shield) { return func(s *impl.Shield) { s.Now = n } }
	for _, time := range []int64{0, 1, 499, impl.MaxTime - 10001, impl.MaxTime - 10000, impl.MaxTime - 9999, impl.MaxTime} {
		checkStep(t, "nobody is there", standing(keptOf(keptAt("/x", freshMeta))), ticking(time), "", now(min(impl.MaxTime, 10000+time)))
		checkStep(t, "a new shield", impl.NewShield(stepConfig()).Shield, ticking(time), "", now(time))
	}
	// Of who waits, of the queue and of who is out each goes just when its time is over.
	s := standing(keptOf(keptAt("/y", errorMeta)), sent(11, "/x", 71, 10300, 72, 10301), headFor(queued(14, "/y", 73, 10300, 74, 12000), 73), toOther(sent(15, "/z", 75, 10300), "b.org"))
	s.Flights[2].Due = 12000
	checkStep(t, "just ahead", s, ticking(299), "", now(10299))
	checkStep(t, "waiters go", s, ticking(300), "71 error 504; 73 stale 200; 75 error 504", func(s *impl.Shield) {
		s.Now = 10300
		s.Flights[0].Waiters, s.Flights[1].Waiters, s.Flights[2].Waiters = waiters(72, 10301), waiters(74, 12000), nil
		touch(s, "/y")
	})
	s = standing(nil, sent(11, "/x", 71, 99000), queued(14, "/y", 72, 99000))
	checkStep(t, "the queue, just ahead", s, ticking(499), "", now(10499))
	checkStep(t, "the queue", s, ticking(500), "72 error 503", func(s *impl.Shield) { leave(s, 14); s.Now = 10500 })
	s = standing(nil, sent(11, "/x", 71, 99000))
	checkStep(t, "who is out, just ahead", s, ticking(899), "", now(10899))
	checkStep(t, "who is out", s, ticking(900), "71 error 504", func(s *impl.Shield) {
		leave(s, 11)
		s.Now = 10900
		note(s, "a.com", false)
	})
	// A tick of nothing ends what is due already.
	s = standing(nil, sent(11, "/x", 71, 10000, 72, 10001), queued(14, "/y", 73, 99000))
	checkStep(t, "no time goes by", s, ticking(0), "71 error 504", func(s *impl.Shield) { s.Flights[0].Waiters = waiters(72, 10001) })
	s.Flights[0].Due = 10000
	checkStep(t, "no time goes by, and one is due", s, ticking(0), "71 error 504; 72 error 504; fetch 14 a.com/y", func(s *impl.Shield) {
		leave(s, 11)
		note(s, "a.com", false)
		goOut(s, 14)
	})
	originIn(&s, "a.com").Bulk.Queue[0].Due = 10000
	checkStep(t, "no time goes by, and all are due", s, ticking(0), "71 error 504; 73 error 503; 72 error 504", func(s *impl.Shield) {
		leave(s, 11)
		leave(s, 14)
		note(s, "a.com", false)
	})
	// How old what is kept is, and how long ago the breaker opened, is asked at the new time.
	s = standing(keptOf(keptAt("/x", errorMeta)), sent(11, "/x", 71, 10500, 72, 10501, 73, 99000), queued(14, "/y", 74, 99000))
	s.Flights[0].Due, originIn(&s, "a.com").Bulk.Queue[0].Due = 10501, 99000
	checkStep(t, "it is old", s, ticking(499), "", now(10499))
	checkStep(t, "it is dead", s, ticking(500), "71 error 504", func(s *impl.Shield) { s.Now = 10500; s.Flights[0].Waiters = s.Flights[0].Waiters[1:] })
	for _, since := range []int64{10201, 10202} {
		s.Now = 10202
		originIn(&s, "a.com").Breaker = openSince(since)
		said := "71 error 504; 72 error 504; 73 error 504; fetch 14 a.com/y"
		if since == 10202 {
			said = "71 error 504; 72 error 504; 73 error 504; 74 error 503"
		}
		checkStep(t, "the breaker cools meanwhile", s, ticking(299), said, func(s *impl.Shield) {
			leave(s, 11)
			if s.Now = 10501; since == 10201 {
				goOut(s, 14)
				originIn(s, "a.com").Breaker = halfWith(since, 1)
			} else {
				leave(s, 14)
			}
		})
	}
}

// All that a tick ends is ended in its order: waiters by their flights, then who waits in the bulkheads by their origins, then who is out.
func TestTicksInOrder(t *testing.T) {
	s := standing(keptOf(pinned(keptAt("/e", impl.Meta{At: 9000, Life: 500, Sie: 9000}), 2), keptAt("/d", deadMeta)), toOther(queued(5, "/1", 90, 99000, 91, 10100), "c"),
		sent(11, "/e", 92, 99000, 93, 10100), toOther(sent(12, "/3", 94, 99000), "b.org"), queued(13, "/4", 95, 99000), toOther(queued(14, "/5", 96, 99000, 97, 10100), "b.org"), sent(15, "/d", 98, 99000), queued(16, "/7", 99, 99000), toOther(queued(17, "/8", 100, 10100), "c"))
	for i := range s.Flights {
		if s.Flights[i].Out {
			s.Flights[i].Due = 10800
		}
	}
	originIn(&s, "a.com").Bulk.Queue = []impl.Wait{{Id: 16, Due: 10600}, {Id: 13, Due: 10500}}
	originIn(&s, "c").Bulk.Queue = []impl.Wait{{Id: 17, Due: 10700}, {Id: 5, Due: 10600}}
	originIn(&s, "b.org").Bulk.Queue = []impl.Wait{{Id: 14, Due: 10900}}
	left := func(s *impl.Shield, ids ...int64) {
		for _, id := range ids {
			leave(s, id)
		}
	}
	checkStep(t, "waiters", s, ticking(100), "91 error 504; 93 stale 200 kept; 97 error 504; 100 error 504", func(s *impl.Shield) {
		s.Now = 10100
		s.Flights[0].Waiters, s.Flights[1].Waiters, s.Flights[4].Waiters, s.Flights[7].Waiters = waiters(90, 99000), waiters(92, 99000), waiters(96, 99000), nil
		touch(s, "/e")
	})
	// The origins stand as c, a.com, b.org; of each the queue's order tells, not that of the flights.
	checkStep(t, "and queues", s, ticking(700), "91 error 504; 93 stale 200 kept; 97 error 504; 100 error 504; 90 error 503; 99 error 503; 95 error 503", func(s *impl.Shield) {
		s.Now = 10700
		s.Flights[1].Waiters, s.Flights[4].Waiters = waiters(92, 99000), waiters(96, 99000)
		left(s, 17, 5, 16, 13)
		touch(s, "/e")
	})
	want := "91 error 504; 93 stale 200 kept; 97 error 504; 100 error 504; 90 error 503; 99 error 503; 95 error 503; 92 stale 200 kept; 94 error 504; fetch 14 b.org/5; 98 error 504"
	checkStep(t, "and who is out", s, ticking(800), want, func(s *impl.Shield) {
		s.Now = 10800
		s.Flights[4].Waiters = waiters(96, 99000)
		left(s, 17, 5, 16, 13, 11, 12, 15)
		for _, host := range []string{"a.com", "b.org", "a.com"} {
			note(s, host, false)
		}
		goOut(s, 14)
		pinBy(s, "/e", -1)
		touch(s, "/e")
	})
	// With one more outcome that is bad the breaker of a.com opens in the middle, and denies who would be next.
	s.Config.Rules.Min = 1
	originIn(&s, "a.com").Bulk.Queue = []impl.Wait{{Id: 16, Due: 99000}, {Id: 13, Due: 99000}}
	want = "91 error 504; 93 stale 200 kept; 97 error 504; 100 error 504; 90 error 503; 92 stale 200 kept; 99 error 503; 95 error 503; 94 error 504; 96 error 503; 98 error 504"
	checkStep(t, "and breakers open", s, ticking(800), want, func(s *impl.Shield) {
		s.Now = 10800
		left(s, 17, 5, 16, 13, 11, 12, 14, 15)
		originIn(s, "a.com").Breaker, originIn(s, "b.org").Breaker = openSince(10800), openSince(10800)
		pinBy(s, "/e", -1)
		touch(s, "/e")
	})
}

// Whoever is sent out in a tick was not out when it began, and stays.
func TestTicksSendOut(t *testing.T) {
	s := standing(nil, sent(11, "/x"), sent(12, "/y"), queued(13, "/q"), queued(14, "/r"))
	for _, left := range []int64{1, 2, 500, 1000, 5000} {
		s.Now = impl.MaxTime - left
		s.Flights[0].Due, s.Flights[1].Due = s.Now+1, s.Now+1
		originIn(&s, "a.com").Bulk.Queue = []impl.Wait{{Id: 13, Due: impl.MaxTime}, {Id: 14, Due: impl.MaxTime}}
		if left == 1 {
			// At the end of time nobody waits any more, and outcomes do not count for longer.
			checkStep(t, "the end of time", s, ticking(1), "", func(s *impl.Shield) {
				for _, id := range []int64{11, 12, 13, 14} {
					leave(s, id)
				}
				s.Now++
				note(s, "a.com", false)
			})
			continue
		}
		checkStep(t, "ahead of the end of time", s, ticking(1), "fetch 13 a.com/q; fetch 14 a.com/r", func(s *impl.Shield) {
			leave(s, 11)
			leave(s, 12)
			s.Now++
			note(s, "a.com", false)
			note(s, "a.com", false)
			goOut(s, 13)
			goOut(s, 14)
			s.Flights[0].Due, s.Flights[1].Due = min(impl.MaxTime, s.Now+1000), min(impl.MaxTime, s.Now+1000)
		})
	}
	// A breaker that opens behind the first one leaves the second out.
	s = standing(nil, sent(11, "/x"), sent(12, "/y"), queued(13, "/q", 81, 99000), queued(14, "/r", 82, 99000))
	s.Config.Rules.Min, originIn(&s, "a.com").Bulk.Queue = 2, []impl.Wait{{Id: 13, Due: 99000}, {Id: 14, Due: 99000}}
	checkStep(t, "it opens behind the first one", s, ticking(900), "fetch 13 a.com/q; 82 error 503", func(s *impl.Shield) {
		leave(s, 11)
		leave(s, 12)
		s.Now = 10900
		goOut(s, 13)
		leave(s, 14)
		originIn(s, "a.com").Breaker = openSince(10900)
	})
}

func TestStepPurges(t *testing.T) {
	tag := func(e impl.Entry, tags ...string) impl.Entry { return tagged(e, tags...) }
	s := standing(keptOf(tag(keptAt("/x", freshMeta), "t"), pinned(tag(keptAt("/y", whileMeta), "t", "u"), 3), keptAt("/z", deadMeta), tag(keptAt("/v", freshMeta), "u")), sent(11, "/x", 71, 10500), queued(12, "/y", 72, 10500), doomed(sent(13, "/w", 73, 10500)), toOther(sent(14, "/x"), "b.org"), queued(15, "/z"))
	s.Store.Trial, s.Store.Kept = s.Store.Trial[:2], s.Store.Trial[2:]
	key := func(paths ...string) []string {
		var keys []string
		for _, path := range paths {
			keys = append(keys, "a.com"+path)
		}
		return keys
	}
	for _, row := range []struct {
		what           string
		kind           int64
		text           string
		purged, doomed []string
	}{
		{"a key", impl.EvKey, "a.com/x", key("/x"), key("/x")}, {"a key without a flight", impl.EvKey, "a.com/v", key("/v"), nil}, {"a key without an entry", impl.EvKey, "b.org/x", nil, []string{"b.org/x"}}, {"a key that is doomed", impl.EvKey, "a.com/w", nil, nil}, {"a key that waits to go", impl.EvKey, "a.com/y", key("/y"), key("/y")}, {"no key", impl.EvKey, "", nil, nil}, {"another key", impl.EvKey, "a.com/", nil, nil}, {"a key in large letters", impl.EvKey, "A.com/x", nil, nil}, {"a tag is no key", impl.EvKey, "t", nil, nil},
		{"a tag", impl.EvTag, "t", key("/x", "/y"), key("/x", "/y")}, {"another tag", impl.EvTag, "u", key("/y", "/v"), key("/y")}, {"no tag", impl.EvTag, "", nil, nil}, {"a tag in large letters", impl.EvTag, "T", nil, nil}, {"a key is no tag", impl.EvTag, "a.com/x", nil, nil}, {"a tag that is longer", impl.EvTag, "tt", nil, nil},
		{"all", impl.EvAll, "", key("/x", "/y", "/z", "/v"), append(key("/x", "/y", "/z"), "b.org/x")},
	} {
		checkStep(t, "soft: "+row.what, s, purging(row.kind, row.text, false), "", func(s *impl.Shield) {
			for _, key := range row.purged {
				entryIn(s, key).Meta.Soft = true
			}
		})
		got := checkStep(t, "hard: "+row.what, s, purging(row.kind, row.text, true), "", func(s *impl.Shield) {
			for _, key := range row.purged {
				s.Store = without(s.Store, key)
			}
			for i, f := range s.Flights {
				s.Flights[i].Doomed = f.Doomed || slices.Contains(row.doomed, f.Key)
			}
		})
		// Nobody is late by a purge who waits already.
		for _, f := range got.Shield.Flights {
			if slices.ContainsFunc(f.Waiters, func(w impl.Waiter) bool { return w.Late }) {
				t.Errorf("%s: somebody is late", row.what)
			}
		}
	}
	checkStep(t, "all of nothing", standing(nil), purging(impl.EvAll, "", true), "", nothing)
	checkStep(t, "a tag of nothing", impl.NewShield(stepConfig()).Shield, purging(impl.EvTag, "t", true), "", nothing)
	s = crowded(24, 6)
	checkStep(t, "all of many", s, purging(impl.EvAll, "", true), "", func(s *impl.Shield) {
		s.Store.Trial = nil
		for i := range s.Flights {
			s.Flights[i].Doomed = true
		}
	})
}

// How often an entry is pinned: once more as a flight starts, once less as it ends, whatever it ends by.
func TestStepPins(t *testing.T) {
	for _, pins := range []int64{0, 1, 2, 18, 19, 20} {
		for _, m := range []impl.Meta{whileMeta, errorMeta, deadMeta} {
			s := standing(keptOf(pinned(keptAt("/x", m), pins)))
			begun := impl.StepShield(s, asking(7, request("GET", "a.com", "/x")))
			if got := entryIn(&begun.Shield, "a.com/x").Pins; got != min(20, pins+1) {
				t.Errorf("%d pins are %d as a flight starts", pins, got)
			}
			for _, e := range []impl.Event{failing(50), replying(50, 500, ""), replying(50, 304, "", youngHead), replying(50, 304, "", cache("no-store")...), ticking(1000)} {
				ended := impl.StepShield(begun.Shield, e)
				if kept := entryIn(&ended.Shield, "a.com/x"); ended.Code != impl.OK || len(ended.Shield.Flights) != 0 || kept.Pins != min(19, pins) {
					t.Errorf("%d pins, %s: %d, %+v", pins, shownEvent(e), ended.Code, kept)
				}
			}
			ended := impl.StepShield(begun.Shield, replying(50, 200, "one", youngHead))
			if e := entryIn(&ended.Shield, "a.com/x"); e.Pins != 0 || string(e.Body) != "one" {
				t.Errorf("what came anew is pinned: %+v", e)
			}
			// Where nothing of it is kept, an entry goes, pinned or not.
			if ended := impl.StepShield(begun.Shield, replying(50, 302, "one")); entryIn(&ended.Shield, "a.com/x") != nil {
				t.Error("what is not kept any more is there")
			}
		}
	}
	// Who is refused pins nothing.
	s := standingAt(startRow{busy: 2, wait: 2}, keptAt("/x", whileMeta))
	checkStep(t, "refused", s, asking(7, request("GET", "a.com", "/x")), "7 stale 200 kept", func(s *impl.Shield) { touch(s, "/x") })
	// Where nothing is kept as a flight starts, what is kept by then is pinned once less as it ends, but not below 0.
	s = standing(keptOf(keptAt("/x", deadMeta)), sent(11, "/x"))
	checkStep(t, "not pinned", s, failing(11), "", func(s *impl.Shield) { leave(s, 11); note(s, "a.com", false) })
}

// One thing after the other: what is asked for once, kept, told, renewed, purged and asked for anew.
func TestSteps(t *testing.T) {
	s := impl.NewShield(stepConfig()).Shield
	get := func(path string) impl.Request { return request("GET", "A.com", path) }
	for i, row := range []struct {
		e    impl.Event
		said string
	}{
		{asking(1, get("/x")), "fetch 0 A.com/x"}, {asking(2, get("/x")), ""}, {asking(3, request("HEAD", "a.com", "/x")), ""}, {asking(4, get("/x")), "4 error 503"}, {asking(5, get("/y")), "fetch 1 A.com/y"}, {asking(6, get("/z")), ""},
		{replying(0, 200, "one", head("Cache-Control", "max-age=1, stale-while-revalidate=1, stale-if-error=9"), head("ETag", "v1"), head("Surrogate-Key", "t")), "1 miss 200 one; 2 miss 200 one; 3 miss 200; fetch 2 A.com/z"},
		{asking(7, get("/x")), "7 hit 200 one"}, {ticking(999), ""}, {asking(8, get("/x")), "8 hit 200 one"}, {replying(2, 404, "none"), "6 miss 404 none"},
		{ticking(1), "5 error 504"}, {asking(9, get("/x")), "9 stale 200 one; fetch 3 A.com/x if v1"}, {asking(10, get("/x")), "10 stale 200 one"}, {replying(3, 304, "", head("Cache-Control", "max-age=1, stale-if-error=1")), ""},
		{asking(11, get("/x")), "11 hit 200 one"}, {purging(impl.EvTag, "t", false), ""}, {asking(12, get("/x")), "fetch 4 A.com/x if v1"}, {failing(4), "12 stale 200 one"}, {asking(13, get("/x")), "13 stale 200 one"},
		{purging(impl.EvKey, "a.com/x", true), ""}, {asking(14, get("/x")), "14 error 503"}, {ticking(300), ""}, {asking(15, get("/x")), "fetch 5 A.com/x"}, {purging(impl.EvAll, "", true), ""}, {asking(16, get("/x")), ""}, {replying(5, 200, "two", youngHead), "15 miss 200 two; fetch 6 A.com/x"},
		{replying(6, 200, "three", youngHead), "16 miss 200 three"}, {asking(17, get("/x")), "17 hit 200 three"}, {ticking(5000), ""}, {asking(18, get("/x")), "fetch 7 A.com/x"}, {ticking(1000), "18 error 504"},
	} {
		// The breaker opens where 12 fails: two of the four outcomes of the last second are bad then.
		told, _ := checkStepped(t, fmt.Sprint("step ", i), s, row.e)
		if told.Code != impl.OK || saidIn(told.Outs) != row.said {
			t.Fatalf("step %d, %s: %d, %q, want %q", i, shownEvent(row.e), told.Code, saidIn(told.Outs), row.said)
		}
		s = told.Shield
	}
}

// walk goes on from a new shield by events that are chosen at random, and tells what was ahead of each and behind it.
func walk(source *rand.Rand, count int, each func(before impl.Shield, e impl.Event, told impl.StepResult)) {
	c := chosenStepConfig(source)
	if source.Intn(3) > 0 {
		// There is room, and an origin is not left alone at once.
		c.Budget, c.Guard, c.ObjCost, c.WaitTime, c.WaitCap, c.Rules.Min, c.Rules.Ratio = 20000, 5000, 20000, 1500, 5, 3, oneOf[int64](source, 600, 1000)
	}
	s := impl.NewShield(c).Shield
	s.Now = oneOf[int64](source, 0, 0, 10000, impl.MaxTime-20000)
	for id := range int64(count) {
		e := chosenStep(source, s, 1+id)
		told := impl.StepShield(s, e)
		each(s, e, told)
		if told.Code == impl.OK {
			s = told.Shield
		}
	}
}

// walkedSteps calls each for the steps of many walks, and of many shields that no walk led to.
func walkedSteps(seed int64, walks int, each func(before impl.Shield, e impl.Event, told impl.StepResult)) {
	source := rand.New(rand.NewSource(seed))
	for range walks {
		walk(source, 60, each)
		for range 20 {
			s := chosenStanding(source)
			e := chosenStep(source, s, 1)
			each(s, e, impl.StepShield(s, e))
		}
	}
}

func TestManyWalks(t *testing.T) {
	source, ways, steps := rand.New(rand.NewSource(152)), map[string]int{}, 0
	for range 800 {
		walk(source, 60, func(before impl.Shield, e impl.Event, told impl.StepResult) {
			want, went := steppedWanted(before, e)
			if !sameStep(told, want) {
				t.Fatalf("%s, %s: %d, %s, %s\nwant %d, %s, %s", shownShield(before), shownEvent(e), told.Code, saidIn(told.Outs), shownShield(told.Shield), want.Code, saidIn(want.Outs), shownShield(want.Shield))
			}
			for _, way := range went {
				ways[way]++
			}
			steps++
		})
	}
	enough(t, ways, 10, "ask sent from 0", "ask sent from 1", "ask refused: breaker 1", "ask refused: queue", "ask waits at 0", "joins, back false, doomed true", "joins, back false, doomed false", "doomed, late true, early true", "late sent from 0", "bad, entry true, told true", "unchanged, entry true, merge 0, put 0", "next from 0", "denied by 1", "waited too long at 0", "while sent from 0", "stale for 503", "stale for 502", "stale for 504")
}

// Promise 16: a shield stays a right one: within its budget, its slots and its queues.
func TestPromise16ShieldsStayRight(t *testing.T) {
	full := 0
	walkedSteps(153, 300, func(before impl.Shield, e impl.Event, told impl.StepResult) {
		s := told.Shield
		if told.Code != impl.OK {
			return
		}
		if impl.ShieldFault(s) != impl.OK || shieldWanted(s) != impl.OK {
			t.Fatalf("%s leaves a shield with the fault %d: %s", shownEvent(e), impl.ShieldFault(s), shownShield(s))
		}
		if cost := impl.CostIn(s.Store); cost.Code != impl.OK || cost.Value > s.Config.Budget || costWanted(s.Store.Kept...) > s.Config.Guard || !sameConfig(s.Config, before.Config) {
			t.Fatalf("%s leaves what costs %+v: %s", shownEvent(e), cost, shownShield(s))
		}
		for _, o := range s.Origins {
			if out := impl.OutTo(s, o.Host).Value; out > s.Config.Lanes.Slots || int64(len(o.Bulk.Queue)) > s.Config.Lanes.Cap {
				t.Fatalf("%s leaves %d out: %s", shownEvent(e), out, shownShield(s))
			} else if out == s.Config.Lanes.Slots && int64(len(o.Bulk.Queue)) == s.Config.Lanes.Cap {
				full++
			}
		}
		if len(s.Flights) > 24 || len(s.Origins) > 6 || len(s.Origins) < len(before.Origins) || s.Now < before.Now || s.Next < before.Next {
			t.Fatalf("%s leaves %s of %s", shownEvent(e), shownShield(s), shownShield(before))
		}
	})
	if full < 500 {
		t.Errorf("only %d origins were full", full)
	}
}

// Promise 16: what cannot be done is told, and turns nothing.
func TestPromise16WhatCannotBeDone(t *testing.T) {
	codes := map[string]int{}
	walkedSteps(154, 200, func(before impl.Shield, e impl.Event, told impl.StepResult) {
		waits := slices.ContainsFunc(before.Flights, func(f impl.Flight) bool {
			return slices.ContainsFunc(f.Waiters, func(w impl.Waiter) bool { return w.Req == e.Id })
		})
		out := slices.ContainsFunc(before.Flights, func(f impl.Flight) bool { return f.Id == e.Id && f.Out })
		want := int64(impl.OK)
		switch {
		case e.Kind == impl.EvAsk && waits:
			want = impl.ErrTaken
		case (e.Kind == impl.EvReply || e.Kind == impl.EvFail) && !out:
			want = impl.ErrNone
		}
		if told.Code != want || want != impl.OK && !sameStep(told, impl.StepResult{Code: want}) {
			t.Fatalf("%s, %s: %d, want %d", shownShield(before), shownEvent(e), told.Code, want)
		}
		codes[fmt.Sprint(e.Kind, " tells ", want)]++
	})
	enough(t, codes, 50, "1 tells 0", "1 tells 6", "2 tells 0", "2 tells 4", "3 tells 0", "3 tells 4", "4 tells 0", "5 tells 0", "6 tells 0", "7 tells 0")
}

// Promise 16: an origin is asked for a key once at a time: told by what goes out and what comes back alone.
func TestPromise16AskedOnceAtATime(t *testing.T) {
	source, again := rand.New(rand.NewSource(155)), 0
	for range 300 {
		out, asked := map[int64]string{}, map[string]int{}
		walk(source, 60, func(before impl.Shield, e impl.Event, told impl.StepResult) {
			if told.Code != impl.OK {
				return
			}
			if e.Kind == impl.EvReply || e.Kind == impl.EvFail {
				delete(out, e.Id)
			}
			if e.Kind == impl.EvTick {
				for _, f := range before.Flights {
					if f.Out && f.Due <= told.Shield.Now {
						delete(out, f.Id)
					}
				}
			}
			for _, o := range told.Outs {
				if o.Kind != impl.OutFetch {
					continue
				}
				key := fullKeyWanted(o.Request, before.Config.Names).Text
				for _, other := range out {
					if other == key {
						t.Fatalf("%s: %q is asked for twice at a time", shownEvent(e), key)
					}
				}
				if asked[key]++; asked[key] > 1 {
					again++
				}
				out[o.Id] = key
			}
			for _, f := range told.Shield.Flights {
				if key, has := out[f.Id]; has != f.Out || has && key != f.Key {
					t.Fatalf("%s: the flight %d is out: %v, %q", shownEvent(e), f.Id, has, key)
				}
			}
		})
	}
	if again < 500 {
		t.Errorf("only %d were asked for again", again)
	}
}

// Promise 16: an origin is not asked while its breaker is open, and by no more than its quota while it is tried.
func TestPromise16NotAskedWhileOpen(t *testing.T) {
	open, tried := 0, 0
	walkedSteps(156, 300, func(before impl.Shield, e impl.Event, told impl.StepResult) {
		fetches := map[string]int64{}
		for _, o := range told.Outs {
			if o.Kind == impl.OutFetch {
				fetches[strings.ToLower(o.Request.Host)]++
			}
		}
		for _, o := range before.Origins {
			b, rules := o.Breaker, before.Config.Rules
			switch {
			case told.Code != impl.OK:
			case b.State == impl.StateOpen && told.Shield.Now-b.Since < rules.Cool:
				if open++; fetches[o.Host] > 0 {
					t.Fatalf("%s asks %q: %s", shownEvent(e), o.Host, shownShield(before))
				}
			case b.State == impl.StateOpen || b.State == impl.StateHalf && e.Kind <= impl.EvAsk:
				if tried++; fetches[o.Host] > rules.Quota {
					t.Fatalf("%s asks %q %d times: %s", shownEvent(e), o.Host, fetches[o.Host], shownShield(before))
				}
			}
			if left := impl.OriginOf(told.Shield, o.Host).Origin.Breaker; told.Code == impl.OK && left.Out > max(rules.Quota, b.Out) {
				t.Fatalf("%s leaves %d tries at %q: %s", shownEvent(e), left.Out, o.Host, shownShield(before))
			}
		}
	})
	if open < 500 || tried < 500 {
		t.Errorf("only %d were open, and %d tried", open, tried)
	}
}

// Promise 16: nobody is lost by a step: who asked or waited is told something once, or waits on.
func TestPromise16NobodyIsLost(t *testing.T) {
	answered, waiting := 0, 0
	walkedSteps(157, 300, func(before impl.Shield, e impl.Event, told impl.StepResult) {
		if told.Code != impl.OK {
			return
		}
		reqs := map[int64]int{}
		for _, f := range before.Flights {
			for _, w := range f.Waiters {
				reqs[w.Req]++
			}
		}
		if e.Kind == impl.EvAsk {
			reqs[e.Id]++
		}
		for _, o := range told.Outs {
			if o.Kind == impl.OutAnswer {
				reqs[o.Id]--
				answered++
			}
		}
		for _, f := range told.Shield.Flights {
			for _, w := range f.Waiters {
				reqs[w.Req]--
				waiting++
			}
		}
		for req, count := range reqs {
			if count != 0 {
				t.Fatalf("%s, %s: %d is left %d times", shownShield(before), shownEvent(e), req, count)
			}
		}
	})
	if answered < 5000 || waiting < 5000 {
		t.Errorf("only %d were told something, and %d waited on", answered, waiting)
	}
}

// stepArguments stand for a call of each function of chapter 15.
type stepArguments struct {
	shield      impl.Shield
	event       impl.Event
	outs, other []impl.Out
}

// turnEventWrongly gives an event what is most likely a fault.
func turnEventWrongly(source *rand.Rand, e *impl.Event) {
	n := edgeNumbers[source.Intn(len(edgeNumbers))]
	switch source.Intn(6) {
	case 0:
		e.Kind = n
	case 1:
		e.Id = n
	case 2:
		e.Draw = n
	case 3:
		e.Request = chosenRequest(source, 1)
	case 4:
		e.Response = chosenResponse(source, 1)
	case 5:
		turns := fieldTurns()
		turns[source.Intn(len(turns))].turn(e)
	}
}

// chosenOuts are as they come; now and then there are more, or fewer.
func chosenOuts(source *rand.Rand) []impl.Out {
	var list []impl.Out
	for range source.Intn(4) {
		list = append(list, impl.Out{Kind: 1 + source.Int63n(2), Id: source.Int63n(3), Source: oneOf(source, "hit", "miss"), Response: response(200, oneOf(source, "", "hi"), oneOf(source, stepHeads...)...), Request: oneOf(source, flightGets...)})
	}
	return list
}

// manyStepped have a fault one time in so many (none, where that is 0).
func manyStepped(seed int64, count, wrong int) []stepArguments {
	source := rand.New(rand.NewSource(seed))
	list := make([]stepArguments, count)
	for i := range list {
		a := stepArguments{shield: chosenStanding(source), outs: chosenOuts(source)}
		a.event = chosenStep(source, a.shield, 1)
		a.other = oneOf(source, a.outs, slices.Clone(a.outs), chosenOuts(source))
		if wrong > 0 && source.Intn(wrong) == 0 {
			turnEventWrongly(source, &a.event)
		}
		if wrong > 0 && source.Intn(wrong) == 0 {
			turnShieldWrongly(source, &a.shield)
		}
		list[i] = a
	}
	return list
}

type stepAnswers struct {
	fault int64
	told  impl.StepResult
	same  bool
}

func askStep(a stepArguments) stepAnswers {
	return stepAnswers{fault: impl.EventFault(a.event), told: impl.StepShield(a.shield, a.event), same: impl.SameOuts(a.outs, a.other)}
}

func (a stepAnswers) equals(b stepAnswers) bool {
	return a.fault == b.fault && sameStep(a.told, b.told) && a.same == b.same
}

// bare: nothing stands beside a code.
func (a stepAnswers) bare() bool {
	return a.told.Code == impl.OK || sameStep(a.told, impl.StepResult{Code: a.told.Code})
}

func TestManySteppedWithFaults(t *testing.T) {
	codes := map[string]int{}
	for i, a := range manyStepped(161, 12000, 2) {
		got, want := askStep(a), stepAnswers{fault: eventWanted(a.event), told: stepWanted(a.shield, a.event), same: slices.EqualFunc(a.outs, a.other, sameOut)}
		if !got.equals(want) {
			t.Fatalf("%d: %s, %s: %d, %d, want %d, %d", i, shownShield(a.shield), shownEvent(a.event), got.fault, got.told.Code, want.fault, want.told.Code)
		}
		codes[fmt.Sprint("fault ", got.fault)]++
		codes[fmt.Sprint("step ", got.told.Code)]++
		codes[fmt.Sprint("same ", got.same)]++
	}
	enough(t, codes, 20, "fault 0", "fault 1", "fault 3", "fault 5", "step 0", "step 1", "step 3", "step 4", "step 5", "step 6", "step 8", "same true", "same false")
}

func givenRequest(r impl.Request) impl.Request {
	return request(strings.Clone(r.Method), strings.Clone(r.Host), strings.Clone(r.Path), givenLines(r.Headers)...)
}

func givenEvent(e impl.Event) impl.Event {
	e.Request, e.Response, e.Text = givenRequest(e.Request), givenResponse(e.Response), strings.Clone(e.Text)
	return e
}

func givenOuts(list []impl.Out) []impl.Out {
	var own []impl.Out
	for _, o := range list {
		o.Source, o.Request, o.Response = strings.Clone(o.Source), givenRequest(o.Request), givenResponse(o.Response)
		own = append(own, o)
	}
	return roomyList(own, impl.Out{Source: "behind"})
}

func givenSteps(a stepArguments) stepArguments {
	return stepArguments{shield: givenShield(a.shield), event: givenEvent(a.event), outs: givenOuts(a.outs), other: givenOuts(a.other)}
}

func wholeRequest(r impl.Request) impl.Request {
	r.Headers = slices.Clone(r.Headers[:cap(r.Headers)])
	return r
}

func wholeOuts(list []impl.Out) []impl.Out {
	var whole []impl.Out
	for _, o := range list[:cap(list)] {
		o.Request, o.Response = wholeRequest(o.Request), wholeResponse(o.Response)
		whole = append(whole, o)
	}
	return whole
}

// wholeSteps have all that stands in the memory of the lists in them.
func wholeSteps(a stepArguments) stepArguments {
	a.event.Request, a.event.Response = wholeRequest(a.event.Request), wholeResponse(a.event.Response)
	return stepArguments{shield: wholeShield(a.shield), event: a.event, outs: wholeOuts(a.outs), other: wholeOuts(a.other)}
}

func sameEvent(a, b impl.Event) bool {
	return a.Kind == b.Kind && a.Id == b.Id && a.Draw == b.Draw && sameAsked(a.Request, b.Request) && sameTold(a.Response, b.Response) && a.Text == b.Text && a.Hard == b.Hard
}

func sameSteps(a, b stepArguments) bool {
	return sameShield(a.shield, b.shield) && sameEvent(a.event, b.event) && slices.EqualFunc(a.outs, b.outs, sameOut) && slices.EqualFunc(a.other, b.other, sameOut)
}

func scribbleOuts(list []impl.Out) {
	for _, o := range list[:cap(list)] {
		overwrite(o.Request.Headers, head("spoiled", "spoiled"))
		scribbleResponse(o.Response)
	}
	overwrite(list, impl.Out{Kind: -9, Source: "spoiled"})
}

func (a stepAnswers) scribble() {
	scribbleShield(a.told.Shield)
	scribbleOuts(a.told.Outs)
}

func spoilSteps(a stepArguments) {
	scribbleShield(a.shield)
	overwrite(a.event.Request.Headers, head("spoiled", "spoiled"))
	scribbleResponse(a.event.Response)
	scribbleOuts(a.outs)
	scribbleOuts(a.other)
}

var chapter15 = chapter[stepArguments, stepAnswers]{
	ask: askStep, equal: stepAnswers.equals, bare: stepAnswers.bare, given: givenSteps, whole: wholeSteps, same: sameSteps, spoil: spoilSteps, scribble: stepAnswers.scribble,
}

func TestPromise1StepsHangOnArgumentsAlone(t *testing.T) {
	chapter15.hangsOnArguments(t, manyStepped(162, 2000, 4))
	// An empty list and none are the same.
	for i, a := range manyStepped(163, 2000, 4) {
		b := givenSteps(a)
		if len(b.event.Request.Headers) == 0 {
			b.event.Request.Headers = []impl.Header{}
		}
		if len(b.event.Response.Headers) == 0 {
			b.event.Response.Headers, b.event.Response.Body = []impl.Header{}, append([]byte{}, b.event.Response.Body...)
		}
		if len(b.shield.Flights) == 0 {
			b.shield.Flights = []impl.Flight{}
		}
		if !askStep(b).equals(askStep(a)) {
			t.Errorf("%d: with empty lists it is another answer", i)
		}
	}
}

func TestPromise1StepsLeaveArgumentsAsTheyWere(t *testing.T) {
	chapter15.leavesArguments(t, manyStepped(164, 4000, 8))
}

func TestPromise1StepsAreNewMemory(t *testing.T) {
	chapter15.tellsNewMemory(t, manyStepped(165, 4000, 8))
}

// region is a piece of memory that a list or a text stands in.
type region struct {
	from, to uintptr
	what     string
}

// regionsIn are those of all lists and all texts in v; texts of one byte stand once in the runtime, whoever makes them.
func regionsIn(v reflect.Value, what string, lists, texts *[]region) {
	switch v.Kind() {
	case reflect.Struct:
		for i := range v.NumField() {
			regionsIn(v.Field(i), what+"."+v.Type().Field(i).Name, lists, texts)
		}
	case reflect.Slice:
		if v.Cap() > 0 {
			*lists = append(*lists, region{v.Pointer(), v.Pointer() + uintptr(v.Cap())*v.Type().Elem().Size(), what})
		}
		for i := range v.Len() {
			regionsIn(v.Index(i), fmt.Sprint(what, "[", i, "]"), lists, texts)
		}
	case reflect.String:
		if text := v.String(); len(text) > 1 {
			from := uintptr(unsafe.Pointer(unsafe.StringData(text)))
			*texts = append(*texts, region{from, from + uintptr(len(text)), what})
		}
	}
}

// sharedRegion tells two of a list that meet.
func sharedRegion(list []region) string {
	slices.SortFunc(list, func(a, b region) int { return cmp.Compare(a.from, b.from) })
	for i := 1; i < len(list); i++ {
		if list[i].from < list[i-1].to {
			return list[i-1].what + " and " + list[i].what
		}
	}
	return ""
}

// Promise 1: no two lists of one answer share memory, nor does a list or a text with an argument.
func TestPromise1ListsOfStepsAreApart(t *testing.T) {
	outs, kept, flown := 0, 0, 0
	check := func(s impl.Shield, e impl.Event) impl.StepResult {
		shield, event := givenShield(s), givenEvent(e)
		told := impl.StepShield(shield, event)
		var lists, texts, given []region
		regionsIn(reflect.ValueOf(told), "answer", &lists, &texts)
		if shared := sharedRegion(slices.Clone(lists)); shared != "" {
			t.Fatalf("%s of %s share memory", shared, shownEvent(e))
		}
		// Of the answer's texts some are the same constant: they are held against those of the arguments alone.
		regionsIn(reflect.ValueOf(shield), "shield", &given, &given)
		regionsIn(reflect.ValueOf(event), "event", &given, &given)
		for _, piece := range append(lists, texts...) {
			for _, argument := range given {
				if piece.from < argument.to && argument.from < piece.to {
					t.Fatalf("%s shares memory with %s by %s", piece.what, argument.what, shownEvent(e))
				}
			}
		}
		outs, kept, flown = outs+len(told.Outs), kept+len(heldIn(told.Shield.Store)), flown+len(told.Shield.Flights)
		return told
	}
	for _, a := range manyStepped(166, 3000, 0) {
		check(a.shield, a.event)
	}
	source := rand.New(rand.NewSource(167))
	for range 60 {
		walk(source, 40, func(before impl.Shield, e impl.Event, _ impl.StepResult) { check(before, e) })
	}
	if outs < 3000 || kept < 3000 || flown < 3000 {
		t.Errorf("only %d outs, %d entries and %d flights were told", outs, kept, flown)
	}
}
