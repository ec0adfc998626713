package tests

import (
	"math"
	"math/big"
	"math/rand"
	"slices"
	"testing"

	"loop.example/g00665/impl"
)

// The signatures and the types as the document tells them.
var (
	_ func(impl.Meta) int64                                  = impl.MetaFault
	_ func(impl.Policy, int64, int64, int64) impl.MetaResult = impl.MetaOf
	_ func(impl.Meta, int64) impl.IntResult                  = impl.AgeAt
	_ func(impl.Meta, int64) impl.IntResult                  = impl.PhaseOf
	_ func(impl.Meta, int64, bool) bool                      = impl.MayServe
	_ func(impl.Meta, int64, int64, int64) bool              = impl.EarlyDue

	_ = impl.Meta{At: int64(0), Age: int64(0), Life: int64(0), Swr: int64(0), Sie: int64(0), Soft: false, NoCache: false}
	_ = impl.MetaResult{Code: int64(0), Meta: impl.Meta{}}
)

var (
	phaseNames = map[int64]string{impl.PhaseDead: "dead", impl.PhaseFresh: "fresh", impl.PhaseWhile: "while", impl.PhaseError: "error"}
	// phaseRanks are the phases in the order in which an answer goes through them.
	phaseRanks = map[int64]int{impl.PhaseFresh: 0, impl.PhaseWhile: 1, impl.PhaseError: 2, impl.PhaseDead: 3}
)

// Windows and draws of early renewal, at their bounds and beyond them.
var (
	windows      = []int64{0, 1, 2, 200, 999999, 1000000}
	draws        = []int64{0, 1, 2, 499, 500, 998, 999}
	wrongWindows = []int64{-1, -1000000, 1000001, 1 << 32, impl.MaxTime, math.MaxInt64, math.MinInt64}
	wrongDraws   = []int64{-1, -999, 1000, 1001, 1 << 32, impl.MaxTime, math.MaxInt64, math.MinInt64}
)

func metaWanted(m impl.Meta) int64 {
	if isTime(m.At) && isTime(m.Age) && isTime(m.Life) && isTime(m.Swr) && isTime(m.Sie) {
		return impl.OK
	}
	return impl.ErrRange
}

// heldSum is a sum in numbers without bounds, held at the greatest time.
func heldSum(a, b int64) int64 {
	sum := addExact(big.NewInt(a), big.NewInt(b))
	if sum.Cmp(big.NewInt(impl.MaxTime)) > 0 {
		return impl.MaxTime
	}
	return sum.Int64()
}

func ageWanted(m impl.Meta, now int64) impl.IntResult {
	if code := metaWanted(m); code != impl.OK {
		return impl.IntResult{Code: code}
	}
	if !isTime(now) || now < m.At {
		return wrongNumber
	}
	return impl.IntResult{Value: heldSum(m.Age, now-m.At)}
}

func lifeWanted(m impl.Meta) int64 {
	if m.Soft || m.NoCache {
		return 0
	}
	return m.Life
}

func phaseWanted(m impl.Meta, now int64) impl.IntResult {
	age := ageWanted(m, now)
	if age.Code != impl.OK {
		return impl.IntResult{Code: age.Code}
	}
	life := lifeWanted(m)
	switch {
	case age.Value < life:
		return impl.IntResult{Value: impl.PhaseFresh}
	case !m.NoCache && age.Value < heldSum(life, m.Swr):
		return impl.IntResult{Value: impl.PhaseWhile}
	case age.Value < heldSum(life, m.Sie):
		return impl.IntResult{Value: impl.PhaseError}
	}
	return impl.IntResult{Value: impl.PhaseDead}
}

func serveWanted(m impl.Meta, now int64, failed bool) bool {
	phase := phaseWanted(m, now)
	if phase.Code != impl.OK {
		return false
	}
	young := phase.Value == impl.PhaseFresh || phase.Value == impl.PhaseWhile
	return young || failed && ageWanted(m, now).Value < heldSum(lifeWanted(m), m.Sie)
}

func earlyWanted(m impl.Meta, now, window, draw int64) bool {
	if window < 0 || window > 1000000 || draw < 0 || draw > 999 || phaseWanted(m, now) != (impl.IntResult{Value: impl.PhaseFresh}) {
		return false
	}
	left := new(big.Int).Sub(big.NewInt(m.Life), big.NewInt(ageWanted(m, now).Value))
	return mulExact(big.NewInt(1000), left).Cmp(mulExact(big.NewInt(window), big.NewInt(draw))) <= 0
}

func metaOfWanted(p impl.Policy, status, neg, now int64) impl.MetaResult {
	life := storeLifeWanted(p, status, neg)
	switch {
	case life.Code != impl.OK:
		return impl.MetaResult{Code: life.Code}
	case !isTime(now):
		return impl.MetaResult{Code: impl.ErrRange}
	}
	return impl.MetaResult{Meta: impl.Meta{At: now, Age: p.Age, Life: life.Value, Swr: p.Swr, Sie: p.Sie, NoCache: p.NoCache}}
}

func checkAge(t *testing.T, m impl.Meta, now int64, want impl.IntResult) {
	t.Helper()
	if got := impl.AgeAt(m, now); got != want {
		t.Errorf("AgeAt(%+v, %d) = %+v, want %+v", m, now, got, want)
	}
}

// checkPhase asks of a phase, and of what may be told in it.
func checkPhase(t *testing.T, m impl.Meta, now, want int64) {
	t.Helper()
	if got := impl.PhaseOf(m, now); got != (impl.IntResult{Value: want}) {
		t.Errorf("PhaseOf(%+v, %d) = %+v, want %s", m, now, got, phaseNames[want])
	}
	young := want == impl.PhaseFresh || want == impl.PhaseWhile
	if got := impl.MayServe(m, now, false); got != young {
		t.Errorf("MayServe(%+v, %d, false) = %v in the phase %s", m, now, got, phaseNames[want])
	}
	if got := impl.MayServe(m, now, true); got != (want != impl.PhaseDead) {
		t.Errorf("MayServe(%+v, %d, true) = %v in the phase %s", m, now, got, phaseNames[want])
	}
}

// checkWrong asks all that speak of a time: each tells the range, or false.
func checkWrong(t *testing.T, m impl.Meta, now int64) {
	t.Helper()
	checkAge(t, m, now, wrongNumber)
	if got := impl.PhaseOf(m, now); got != wrongNumber {
		t.Errorf("PhaseOf(%+v, %d) = %+v", m, now, got)
	}
	if impl.MayServe(m, now, false) || impl.MayServe(m, now, true) {
		t.Errorf("MayServe(%+v, %d) is true", m, now)
	}
	for _, window := range windows {
		for _, draw := range draws {
			if impl.EarlyDue(m, now, window, draw) {
				t.Errorf("EarlyDue(%+v, %d, %d, %d) is true", m, now, window, draw)
			}
		}
	}
}

// checkAll holds all that is told of a kept answer against the words of the document.
func checkAll(t *testing.T, m impl.Meta, now, window, draw int64) {
	t.Helper()
	if got, want := impl.MetaFault(m), metaWanted(m); got != want {
		t.Fatalf("MetaFault(%+v) = %d, want %d", m, got, want)
	}
	if got, want := impl.AgeAt(m, now), ageWanted(m, now); got != want {
		t.Fatalf("AgeAt(%+v, %d) = %+v, want %+v", m, now, got, want)
	}
	if got, want := impl.PhaseOf(m, now), phaseWanted(m, now); got != want {
		t.Fatalf("PhaseOf(%+v, %d) = %+v, want %+v", m, now, got, want)
	}
	for _, failed := range []bool{false, true} {
		if got, want := impl.MayServe(m, now, failed), serveWanted(m, now, failed); got != want {
			t.Fatalf("MayServe(%+v, %d, %v) = %v", m, now, failed, got)
		}
	}
	if got, want := impl.EarlyDue(m, now, window, draw), earlyWanted(m, now, window, draw); got != want {
		t.Fatalf("EarlyDue(%+v, %d, %d, %d) = %v", m, now, window, draw, got)
	}
}

// fieldsOf are the fields of a Meta that have to be times.
func fieldsOf(m *impl.Meta) []*int64 {
	return []*int64{&m.At, &m.Age, &m.Life, &m.Swr, &m.Sie}
}

// markings are all ways in which an answer can be marked.
func markings(m impl.Meta) []impl.Meta {
	soft, again, both := m, m, m
	soft.Soft, again.NoCache = true, true
	both.Soft, both.NoCache = true, true
	return []impl.Meta{m, soft, again, both}
}

// chosenTime is small most of the time, so that spans meet; else it stands near a bound.
func chosenTime(source *rand.Rand) int64 {
	switch source.Intn(6) {
	case 0:
		return impl.MaxTime - source.Int63n(12)
	case 1:
		return source.Int63n(impl.MaxTime + 1)
	}
	return source.Int63n(12)
}

// chosenMeta has a field that is no time once in about so many times; never, where that is 0.
func chosenMeta(source *rand.Rand, wrong int) impl.Meta {
	m := impl.Meta{Soft: source.Intn(4) == 0, NoCache: source.Intn(4) == 0}
	for _, field := range fieldsOf(&m) {
		*field = chosenTime(source)
	}
	if wrong > 0 && source.Intn(wrong) == 0 {
		*fieldsOf(&m)[source.Intn(5)] = edgeNumbers[source.Intn(len(edgeNumbers))]
	}
	return m
}

// chosenNow stands near an edge of the answer's phases most of the time.
func chosenNow(source *rand.Rand, m impl.Meta) int64 {
	if source.Intn(8) == 0 {
		return edgeNumbers[source.Intn(len(edgeNumbers))]
	}
	ends := []int64{0, m.Life, m.Swr, m.Sie, heldSum(m.Life, m.Swr), heldSum(m.Life, m.Sie)}
	return m.At - m.Age + ends[source.Intn(len(ends))] + source.Int63n(5) - 2
}

func TestPhases(t *testing.T) {
	if impl.PhaseDead != 0 || impl.PhaseFresh != 1 || impl.PhaseWhile != 2 || impl.PhaseError != 3 {
		t.Error("phases")
	}
}

func TestMetaFault(t *testing.T) {
	for _, n := range slices.Concat(spans, edgeNumbers) {
		want := int64(impl.ErrRange)
		if isTime(n) {
			want = impl.OK
		}
		for place := range 5 {
			for _, m := range markings(impl.Meta{At: 1, Age: 2, Life: 3, Swr: 4, Sie: 5}) {
				*fieldsOf(&m)[place] = n
				if got := impl.MetaFault(m); got != want {
					t.Errorf("MetaFault(%+v) = %d, want %d", m, got, want)
				}
			}
		}
	}
	for _, m := range slices.Concat(markings(impl.Meta{}), markings(impl.Meta{At: impl.MaxTime, Age: impl.MaxTime, Life: impl.MaxTime, Swr: impl.MaxTime, Sie: impl.MaxTime})) {
		if got := impl.MetaFault(m); got != impl.OK {
			t.Errorf("MetaFault(%+v) = %d", m, got)
		}
	}
}

func checkMetaOf(t *testing.T, p impl.Policy, status, neg, now int64, want impl.MetaResult) {
	t.Helper()
	if got := impl.MetaOf(p, status, neg, now); got != want {
		t.Errorf("MetaOf(%+v, %d, %d, %d) = %+v, want %+v", p, status, neg, now, got, want)
	}
}

func TestMetaOf(t *testing.T) {
	full := impl.Policy{Life: 1, Swr: 2, Sie: 3, Age: 4}
	must := full
	must.Must = true
	again := full
	again.NoCache = true
	checkMetaOf(t, full, 200, 9, 7, impl.MetaResult{Meta: impl.Meta{At: 7, Age: 4, Life: 1, Swr: 2, Sie: 3}})
	checkMetaOf(t, must, 200, 9, 7, impl.MetaResult{Meta: impl.Meta{At: 7, Age: 4, Life: 1, Swr: 2, Sie: 3}})
	checkMetaOf(t, again, 200, 9, 7, impl.MetaResult{Meta: impl.Meta{At: 7, Age: 4, Life: 1, Swr: 2, Sie: 3, NoCache: true}})
	checkMetaOf(t, impl.Policy{}, 200, 9, 0, impl.MetaResult{})
	for _, status := range []int64{404, 410} {
		checkMetaOf(t, full, status, 9, 7, impl.MetaResult{Meta: impl.Meta{At: 7, Age: 4, Life: 1, Swr: 2, Sie: 3}})
		checkMetaOf(t, untold(), status, 9, impl.MaxTime, impl.MetaResult{Meta: impl.Meta{At: impl.MaxTime, Life: 9}})
		checkMetaOf(t, untold(), status, impl.MaxTime, 0, impl.MetaResult{Meta: impl.Meta{Life: impl.MaxTime}})
	}
	none := impl.MetaResult{Code: impl.ErrNone}
	wrong := impl.MetaResult{Code: impl.ErrRange}
	checkMetaOf(t, untold(), 200, 9, 7, none)
	checkMetaOf(t, full, 500, 9, 7, none)
	checkMetaOf(t, impl.Policy{NoStore: true, Life: 5}, 200, 9, 7, none)
	checkMetaOf(t, full, 199, 9, 7, wrong)
	checkMetaOf(t, full, 600, 9, 7, wrong)
	checkMetaOf(t, full, 200, -1, 7, wrong)
	checkMetaOf(t, impl.Policy{Age: -1}, 200, 9, 7, wrong)
	// The code of StoreLife is ahead of a now that is no time.
	for _, now := range []int64{-1, impl.MaxTime + 1, math.MaxInt64, math.MinInt64} {
		checkMetaOf(t, full, 200, 9, now, wrong)
		checkMetaOf(t, full, 500, 9, now, none)
		checkMetaOf(t, untold(), 200, 9, now, none)
	}
}

func TestMetaOfBounds(t *testing.T) {
	for _, a := range spans {
		policies := []impl.Policy{{Life: a}, {Life: a, NoStore: true}, {Life: a, NoCache: true}, {Life: impl.NotTold, Swr: a}, {Life: 1, Sie: a, Must: true}, {Life: 1, Age: a}, {Life: a, Swr: a, Sie: a, Age: a}}
		for _, now := range spans {
			for _, neg := range []int64{0, 7, impl.MaxTime, -1, impl.MaxTime + 1} {
				for i, status := range toldStatuses {
					p := policies[i%len(policies)]
					checkMetaOf(t, p, status, neg, now, metaOfWanted(p, status, neg, now))
					for _, p := range policies {
						checkMetaOf(t, p, []int64{200, 404, 410}[i%3], neg, now, metaOfWanted(p, []int64{200, 404, 410}[i%3], neg, now))
					}
				}
			}
		}
	}
}

// What heads allow becomes a Meta without a fault.
func TestMetaOfHeads(t *testing.T) {
	kept := 0
	for i, list := range manyPolicyHeads(4000) {
		p := impl.PolicyOf(list)
		if p.Code != impl.OK {
			continue
		}
		now := int64(i) * 1000003
		told := impl.MetaOf(p.Policy, 200, 0, now)
		if told != metaOfWanted(p.Policy, 200, 0, now) || told.Code == impl.OK && impl.MetaFault(told.Meta) != impl.OK {
			t.Fatalf("MetaOf of %q = %+v", list, told)
		}
		if told.Code == impl.OK {
			kept++
		}
	}
	if kept < 500 {
		t.Errorf("only %d were kept: the lists tell too little", kept)
	}
}

func TestAgeAt(t *testing.T) {
	rows := []struct {
		at, age, now, want int64
	}{
		{0, 0, 0, 0}, {0, 5, 0, 5}, {100, 0, 100, 0}, {100, 7, 100, 7}, {100, 7, 101, 8}, {100, 0, 1300, 1200},
		{0, 0, impl.MaxTime, impl.MaxTime}, {1, 0, impl.MaxTime, impl.MaxTime - 1}, {impl.MaxTime, 3, impl.MaxTime, 3},
		{1, 1, impl.MaxTime, impl.MaxTime}, {0, 1, impl.MaxTime, impl.MaxTime}, {0, 1, impl.MaxTime - 1, impl.MaxTime}, {0, 1, impl.MaxTime - 2, impl.MaxTime - 1},
		{0, impl.MaxTime, 0, impl.MaxTime}, {0, impl.MaxTime, 1, impl.MaxTime}, {0, impl.MaxTime - 1, 1, impl.MaxTime}, {0, impl.MaxTime, impl.MaxTime, impl.MaxTime},
	}
	for _, row := range rows {
		// Neither spans nor marks turn an age.
		for _, m := range markings(impl.Meta{At: row.at, Age: row.age, Life: 3, Swr: 4, Sie: 5}) {
			checkAge(t, m, row.now, impl.IntResult{Value: row.want})
		}
	}
}

// Now below At, now that is no time, and a Meta with a fault.
func TestTimesThatAreWrong(t *testing.T) {
	life := impl.Meta{Life: impl.MaxTime, Swr: impl.MaxTime, Sie: impl.MaxTime}
	for _, at := range []int64{0, 1, 100, impl.MaxTime - 1, impl.MaxTime} {
		life.At = at
		for _, m := range markings(life) {
			for _, now := range []int64{at - 1, at - 2, -1, -at, impl.MaxTime + 1, math.MaxInt64, math.MinInt64, math.MinInt64 + at} {
				if now < at || now > impl.MaxTime {
					checkWrong(t, m, now)
				}
			}
			checkAge(t, m, at, impl.IntResult{})
			checkAge(t, m, impl.MaxTime, impl.IntResult{Value: impl.MaxTime - at})
		}
	}
	for _, n := range spans {
		for place := range 5 {
			for _, m := range markings(impl.Meta{Life: 1000, Swr: 500, Sie: 2000}) {
				*fieldsOf(&m)[place] = n
				if !isTime(n) {
					checkWrong(t, m, 0)
					checkWrong(t, m, 900)
					checkWrong(t, m, n)
				}
			}
		}
	}
}

func TestPhaseEdges(t *testing.T) {
	m := impl.Meta{At: 100, Life: 1000, Swr: 500, Sie: 2000}
	checkPhase(t, m, 100, impl.PhaseFresh)
	checkPhase(t, m, 1099, impl.PhaseFresh)
	checkPhase(t, m, 1100, impl.PhaseWhile)
	checkPhase(t, m, 1300, impl.PhaseWhile)
	checkPhase(t, m, 1599, impl.PhaseWhile)
	checkPhase(t, m, 1600, impl.PhaseError)
	checkPhase(t, m, 3099, impl.PhaseError)
	checkPhase(t, m, 3100, impl.PhaseDead)
	checkPhase(t, m, impl.MaxTime, impl.PhaseDead)
	// The age that it came with brings each edge nearer.
	m.Age = 30
	checkPhase(t, m, 1069, impl.PhaseFresh)
	checkPhase(t, m, 1070, impl.PhaseWhile)
	checkPhase(t, m, 1570, impl.PhaseError)
	checkPhase(t, m, 3070, impl.PhaseDead)
	// Where Sie is not above Swr there is no phase between.
	m = impl.Meta{Life: 1000, Swr: 500, Sie: 500}
	checkPhase(t, m, 1499, impl.PhaseWhile)
	checkPhase(t, m, 1500, impl.PhaseDead)
	m.Sie = 501
	checkPhase(t, m, 1500, impl.PhaseError)
	checkPhase(t, m, 1501, impl.PhaseDead)
	m.Sie = 0
	checkPhase(t, m, 999, impl.PhaseFresh)
	checkPhase(t, m, 1200, impl.PhaseWhile)
	checkPhase(t, m, 1500, impl.PhaseDead)
	m = impl.Meta{Life: 1000, Sie: 10}
	checkPhase(t, m, 999, impl.PhaseFresh)
	checkPhase(t, m, 1000, impl.PhaseError)
	checkPhase(t, m, 1010, impl.PhaseDead)
	checkPhase(t, impl.Meta{Life: 1}, 0, impl.PhaseFresh)
	checkPhase(t, impl.Meta{Life: 1}, 1, impl.PhaseDead)
	checkPhase(t, impl.Meta{Life: 1, Age: 1}, 0, impl.PhaseDead)
}

func TestPhasesWithoutLife(t *testing.T) {
	for _, m := range markings(impl.Meta{}) {
		checkPhase(t, m, 0, impl.PhaseDead)
		checkPhase(t, m, impl.MaxTime, impl.PhaseDead)
	}
	m := impl.Meta{At: 5, Swr: 10, Sie: 20}
	checkPhase(t, m, 5, impl.PhaseWhile)
	checkPhase(t, m, 14, impl.PhaseWhile)
	checkPhase(t, m, 15, impl.PhaseError)
	checkPhase(t, m, 24, impl.PhaseError)
	checkPhase(t, m, 25, impl.PhaseDead)
	checkPhase(t, impl.Meta{Swr: 1}, 0, impl.PhaseWhile)
	checkPhase(t, impl.Meta{Swr: 1}, 1, impl.PhaseDead)
	checkPhase(t, impl.Meta{Sie: 1}, 0, impl.PhaseError)
	checkPhase(t, impl.Meta{Sie: 1}, 1, impl.PhaseDead)
}

// A Soft one counts as without life, whatever its Life is.
func TestPhasesOfSoft(t *testing.T) {
	for _, life := range []int64{0, 1, 1000, impl.MaxTime} {
		m := impl.Meta{At: 5, Life: life, Swr: 10, Sie: 20, Soft: true}
		checkPhase(t, m, 5, impl.PhaseWhile)
		checkPhase(t, m, 14, impl.PhaseWhile)
		checkPhase(t, m, 15, impl.PhaseError)
		checkPhase(t, m, 24, impl.PhaseError)
		checkPhase(t, m, 25, impl.PhaseDead)
		m.Age = 3
		checkPhase(t, m, 11, impl.PhaseWhile)
		checkPhase(t, m, 12, impl.PhaseError)
		checkPhase(t, m, 22, impl.PhaseDead)
		checkPhase(t, impl.Meta{Life: life, Soft: true}, 0, impl.PhaseDead)
		checkPhase(t, impl.Meta{Life: life, Sie: 1, Soft: true}, 0, impl.PhaseError)
	}
}

// A NoCache one is never told, but where asking fails, Soft or not, whatever its Swr is.
func TestPhasesOfNoCache(t *testing.T) {
	for _, life := range []int64{0, 1, 1000, impl.MaxTime} {
		for _, swr := range []int64{0, 10, 1000, impl.MaxTime} {
			for _, soft := range []bool{false, true} {
				m := impl.Meta{At: 5, Life: life, Swr: swr, Sie: 20, Soft: soft, NoCache: true}
				checkPhase(t, m, 5, impl.PhaseError)
				checkPhase(t, m, 24, impl.PhaseError)
				checkPhase(t, m, 25, impl.PhaseDead)
				m.Age = 3
				checkPhase(t, m, 21, impl.PhaseError)
				checkPhase(t, m, 22, impl.PhaseDead)
				m.Sie = 0
				checkPhase(t, m, 5, impl.PhaseDead)
			}
		}
	}
}

// Ends that would be above the greatest time are held there: an age that is the greatest is behind all of them.
func TestPhasesAtTheGreatestTime(t *testing.T) {
	const last = impl.MaxTime
	checkPhase(t, impl.Meta{Life: last}, last-1, impl.PhaseFresh)
	checkPhase(t, impl.Meta{Life: last}, last, impl.PhaseDead)
	checkPhase(t, impl.Meta{Life: last - 1, Swr: 1}, last-1, impl.PhaseWhile)
	checkPhase(t, impl.Meta{Life: last - 1, Swr: 1}, last, impl.PhaseDead)
	checkPhase(t, impl.Meta{Life: last - 1, Sie: 1}, last-1, impl.PhaseError)
	checkPhase(t, impl.Meta{Life: last - 1, Sie: 1}, last, impl.PhaseDead)
	checkPhase(t, impl.Meta{Life: last - 1, Swr: 2, Sie: 2}, last, impl.PhaseDead)
	checkPhase(t, impl.Meta{Life: last, Swr: last, Sie: last}, last-1, impl.PhaseFresh)
	for _, m := range markings(impl.Meta{Life: last, Swr: last, Sie: last}) {
		checkPhase(t, m, last, impl.PhaseDead)
		m.Age = last
		checkPhase(t, m, 0, impl.PhaseDead)
		checkPhase(t, m, last, impl.PhaseDead)
		m.Age = 1
		checkPhase(t, m, last-1, impl.PhaseDead)
	}
	checkPhase(t, impl.Meta{Life: last, Swr: last, Sie: last, Soft: true}, last-1, impl.PhaseWhile)
	checkPhase(t, impl.Meta{Life: last, Swr: last, Sie: last, NoCache: true}, last-1, impl.PhaseError)
	checkPhase(t, impl.Meta{At: last, Life: 1}, last, impl.PhaseFresh)
	checkPhase(t, impl.Meta{At: last, Age: last - 1, Life: last}, last, impl.PhaseFresh)
	checkPhase(t, impl.Meta{At: last, Age: last, Life: last, Swr: 1}, last, impl.PhaseDead)
}

type earlyRow struct {
	now, window, draw int64
	want              bool
}

func checkEarlyRows(t *testing.T, m impl.Meta, rows []earlyRow) {
	t.Helper()
	for _, row := range rows {
		if got := impl.EarlyDue(m, row.now, row.window, row.draw); got != row.want {
			t.Errorf("EarlyDue(%+v, %d, %d, %d) = %v", m, row.now, row.window, row.draw, got)
		}
	}
}

func TestEarlyDue(t *testing.T) {
	checkEarlyRows(t, impl.Meta{At: 100, Life: 1000, Swr: 500, Sie: 2000}, []earlyRow{
		{1000, 200, 500, true}, {1000, 200, 499, false}, {1000, 200, 501, true}, {1000, 199, 500, false}, {999, 200, 500, false}, {1001, 200, 500, true},
		{1099, 1, 999, false}, {1099, 2, 500, true}, {1099, 2, 499, false}, {1099, 1000, 1, true}, {1099, 999, 1, false},
		{100, 1000000, 1, true}, {100, 999999, 1, false}, {100, 1000000, 0, false}, {1099, 1000000, 0, false}, {1099, 0, 999, false}, {1099, 0, 0, false},
		// What is old is not asked for ahead of time.
		{1100, 200, 999, false}, {1100, 0, 0, false}, {1100, 1000000, 999, false}, {1600, 1000000, 999, false}, {3100, 1000000, 999, false}, {impl.MaxTime, 1000000, 999, false},
		{99, 1000000, 999, false}, {-1, 1000000, 999, false},
	})
	checkEarlyRows(t, impl.Meta{At: 100, Age: 30, Life: 1000}, []earlyRow{{970, 200, 500, true}, {969, 200, 500, false}, {1069, 2, 500, true}, {1070, 1000000, 999, false}})
	checkEarlyRows(t, impl.Meta{}, []earlyRow{{0, 1000000, 999, false}, {0, 0, 0, false}, {1, 1000000, 999, false}})
	// The earliest that can be due: 999000 ahead of its end.
	checkEarlyRows(t, impl.Meta{Life: 999000}, []earlyRow{{0, 1000000, 999, true}, {0, 1000000, 998, false}, {0, 999999, 999, false}})
	checkEarlyRows(t, impl.Meta{Life: 999001}, []earlyRow{{0, 1000000, 999, false}, {1, 1000000, 999, true}})
	checkEarlyRows(t, impl.Meta{Life: impl.MaxTime}, []earlyRow{{0, 1000000, 999, false}, {impl.MaxTime - 999001, 1000000, 999, false}, {impl.MaxTime - 999000, 1000000, 999, true}, {impl.MaxTime - 1, 1, 999, false}, {impl.MaxTime - 1, 2, 500, true}, {impl.MaxTime, 1000000, 999, false}})
}

func TestEarlyDueBounds(t *testing.T) {
	m := impl.Meta{Life: 1000}
	for _, window := range slices.Concat(windows, wrongWindows) {
		for _, draw := range slices.Concat(draws, wrongDraws) {
			right := window >= 0 && window <= 1000000 && draw >= 0 && draw <= 999
			for _, now := range []int64{0, 1, 500, 998, 999, 1000} {
				got := impl.EarlyDue(m, now, window, draw)
				if got != (right && now < 1000 && 1000*(1000-now) <= window*draw) {
					t.Errorf("EarlyDue(%+v, %d, %d, %d) = %v", m, now, window, draw, got)
				}
			}
			for _, marked := range markings(m)[1:] {
				if impl.EarlyDue(marked, 999, window, draw) {
					t.Errorf("EarlyDue(%+v, 999, %d, %d) is true", marked, window, draw)
				}
			}
		}
	}
}

// All answers of small spans, at all small times.
func TestSmallMetas(t *testing.T) {
	for code := range 4 * 3 * 4 * 4 * 4 {
		m := impl.Meta{Age: int64(code % 4), At: int64(code / 4 % 3), Life: int64(code / 12 % 4), Swr: int64(code / 48 % 4), Sie: int64(code / 192 % 4)}
		for _, marked := range markings(m) {
			for now := int64(-1); now < 10; now++ {
				for _, draw := range []int64{0, 333, 500, 999} {
					checkAll(t, marked, now, 3, draw)
				}
			}
		}
	}
}

func TestManyMetas(t *testing.T) {
	source := rand.New(rand.NewSource(31))
	seen := map[impl.IntResult]int{}
	early := 0
	for range 200000 {
		m := chosenMeta(source, 5)
		now := chosenNow(source, m)
		window, draw := windows[source.Intn(len(windows))], draws[source.Intn(len(draws))]
		if source.Intn(10) == 0 {
			window = wrongWindows[source.Intn(len(wrongWindows))]
		}
		if source.Intn(10) == 0 {
			draw = wrongDraws[source.Intn(len(wrongDraws))]
		}
		checkAll(t, m, now, window, draw)
		seen[impl.PhaseOf(m, now)]++
		if impl.EarlyDue(m, now, window, draw) {
			early++
		}
	}
	for phase, name := range phaseNames {
		if seen[impl.IntResult{Value: phase}] < 1000 {
			t.Errorf("only %d in the phase %s", seen[impl.IntResult{Value: phase}], name)
		}
	}
	if early < 1000 || seen[wrongNumber] < 1000 {
		t.Errorf("only %d early, and %d wrong", early, seen[wrongNumber])
	}
}

// Promise 8: as time goes by an answer ages, and is never in a younger phase again.
func TestPromise8NeverYoungerAgain(t *testing.T) {
	source := rand.New(rand.NewSource(32))
	for range 20000 {
		m := chosenMeta(source, 0)
		var times []int64
		for range 12 {
			if now := chosenNow(source, m); isTime(now) && now >= m.At {
				times = append(times, now)
			}
		}
		slices.Sort(times)
		for i := 1; i < len(times); i++ {
			checkOlder(t, m, times[i-1], times[i])
		}
	}
}

func checkOlder(t *testing.T, m impl.Meta, before, after int64) {
	t.Helper()
	young, old := impl.AgeAt(m, before), impl.AgeAt(m, after)
	if young.Code != impl.OK || old.Code != impl.OK || young.Value > old.Value || !isTime(old.Value) {
		t.Fatalf("%+v: the age %+v at %d, %+v at %d", m, young, before, old, after)
	}
	first, then := impl.PhaseOf(m, before), impl.PhaseOf(m, after)
	if first.Code != impl.OK || then.Code != impl.OK || phaseRanks[first.Value] > phaseRanks[then.Value] {
		t.Fatalf("%+v: %s at %d, %s at %d", m, phaseNames[first.Value], before, phaseNames[then.Value], after)
	}
	for _, failed := range []bool{false, true} {
		if impl.MayServe(m, after, failed) && !impl.MayServe(m, before, failed) {
			t.Fatalf("%+v may be told at %d, but not at %d ahead of it (failed: %v)", m, after, before, failed)
		}
	}
	if impl.MayServe(m, after, false) && !impl.MayServe(m, after, true) {
		t.Fatalf("%+v may be told at %d, but not where asking fails", m, after)
	}
}

// Promise 8: each mark makes an answer no younger, and soft ones are as those without life.
func TestPromise8MarksMakeNothingYounger(t *testing.T) {
	source := rand.New(rand.NewSource(33))
	for range 20000 {
		m := chosenMeta(source, 0)
		m.Soft, m.NoCache = false, false
		now := max(m.At, min(chosenNow(source, m), impl.MaxTime))
		plain := impl.PhaseOf(m, now).Value
		for i, marked := range markings(m)[1:] {
			phase := impl.PhaseOf(marked, now)
			if phase.Code != impl.OK || phaseRanks[phase.Value] < phaseRanks[plain] || phase.Value == impl.PhaseFresh || marked.NoCache && phase.Value == impl.PhaseWhile {
				t.Fatalf("mark %d: %+v is %s, %s without it", i, marked, phaseNames[phase.Value], phaseNames[plain])
			}
		}
		soft, bare := m, m
		soft.Soft, bare.Life = true, 0
		if impl.PhaseOf(soft, now) != impl.PhaseOf(bare, now) {
			t.Fatalf("%+v is not as without life at %d", soft, now)
		}
	}
}

// Promise 8: a draw decides only of what is still fresh; a greater draw, a wider window and a later time make it no less due.
func TestPromise8DrawsDecideOfWhatIsFresh(t *testing.T) {
	source := rand.New(rand.NewSource(34))
	due := 0
	for range 50000 {
		m := chosenMeta(source, 0)
		m.Soft, m.NoCache = source.Intn(20) == 0, source.Intn(20) == 0
		now := max(m.At, min(chosenNow(source, m), impl.MaxTime))
		window, draw := source.Int63n(1000001), source.Int63n(1000)
		if source.Intn(2) == 0 {
			window = source.Int63n(12)
		}
		fresh := impl.PhaseOf(m, now).Value == impl.PhaseFresh
		if impl.EarlyDue(m, now, window, 0) || impl.EarlyDue(m, now, 0, draw) {
			t.Fatalf("%+v is due at %d with a window or a draw of 0", m, now)
		}
		if !impl.EarlyDue(m, now, window, draw) {
			continue
		}
		due++
		if !fresh || !impl.EarlyDue(m, now, window, 999) || !impl.EarlyDue(m, now, 1000000, draw) {
			t.Fatalf("%+v is due at %d with %d and %d, but is not fresh, or not due with more", m, now, window, draw)
		}
		if now < impl.MaxTime && impl.PhaseOf(m, now+1).Value == impl.PhaseFresh && !impl.EarlyDue(m, now+1, window, draw) {
			t.Fatalf("%+v is due at %d with %d and %d, but not behind that", m, now, window, draw)
		}
	}
	if due < 1000 {
		t.Errorf("only %d were due", due)
	}
}

type freshAnswers struct {
	fault         int64
	meta          impl.MetaResult
	age, phase    impl.IntResult
	may, mayError bool
	early         bool
}

func askFresh(m impl.Meta, p impl.Policy, numbers [5]int64) freshAnswers {
	status, neg, now, window, draw := numbers[0], numbers[1], numbers[2], numbers[3], numbers[4]
	return freshAnswers{
		fault: impl.MetaFault(m), meta: impl.MetaOf(p, status, neg, now), age: impl.AgeAt(m, now), phase: impl.PhaseOf(m, now),
		may: impl.MayServe(m, now, false), mayError: impl.MayServe(m, now, true), early: impl.EarlyDue(m, now, window, draw),
	}
}

func freshArguments(count int) ([]impl.Meta, []impl.Policy, [][5]int64) {
	source := rand.New(rand.NewSource(35))
	metas, policies, numbers := make([]impl.Meta, count), make([]impl.Policy, count), make([][5]int64, count)
	for i := range count {
		m := chosenMeta(source, 3)
		metas[i] = m
		policies[i] = impl.Policy{NoStore: i%7 == 0, NoCache: i%3 == 0, Must: i%2 == 0, Life: m.Life - 1, Swr: m.Swr, Sie: m.Sie, Age: m.Age}
		numbers[i] = [5]int64{toldStatuses[source.Intn(len(toldStatuses))], chosenTime(source), chosenNow(source, m), source.Int63n(1000001), source.Int63n(1000)}
		if i%4 == 0 {
			numbers[i][source.Intn(5)] = edgeNumbers[source.Intn(len(edgeNumbers))]
		}
	}
	return metas, policies, numbers
}

// Promise 1: asked again in another order the functions of chapter 7 tell the same, and beside a code nothing.
func TestPromise1AgesHangOnArgumentsAlone(t *testing.T) {
	metas, policies, numbers := freshArguments(20000)
	first := make([]freshAnswers, len(metas))
	for i := range metas {
		a := askFresh(metas[i], policies[i], numbers[i])
		if a.meta.Code != impl.OK && a.meta.Meta != (impl.Meta{}) || a.age.Code != impl.OK && a.age.Value != 0 || a.phase.Code != impl.OK && a.phase.Value != 0 {
			t.Errorf("%+v, %+v, %d: something stands beside a code: %+v", metas[i], policies[i], numbers[i], a)
		}
		if a.phase.Code != a.age.Code || a.age.Code != impl.OK && (a.may || a.mayError || a.early) {
			t.Errorf("%+v at %d: %+v", metas[i], numbers[i][2], a)
		}
		first[i] = a
	}
	for i := len(metas) - 1; i >= 0; i-- {
		if got := askFresh(metas[i], policies[i], numbers[i]); got != first[i] {
			t.Errorf("%+v, %+v, %d: %+v, and then %+v", metas[i], policies[i], numbers[i], first[i], got)
		}
	}
}

// Promise 1: what came in is left as it was.
func TestPromise1AgeArgumentsAreLeftAsTheyWere(t *testing.T) {
	metas, policies, numbers := freshArguments(5000)
	keptMetas, keptPolicies := slices.Clone(metas), slices.Clone(policies)
	for i := range metas {
		askFresh(metas[i], policies[i], numbers[i])
	}
	if !slices.Equal(metas, keptMetas) || !slices.Equal(policies, keptPolicies) {
		t.Error("an argument was changed")
	}
}
