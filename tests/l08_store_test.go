package tests

import (
	"bytes"
	"fmt"
	"math"
	"math/rand"
	"slices"
	"strings"
	"testing"

	"loop.example/g00665/impl"
)

// The signatures and the types as the document tells them.
var (
	_ func(impl.Entry) int64                           = impl.EntryFault
	_ func(impl.Entry) impl.IntResult                  = impl.CostOf
	_ func(impl.Store) int64                           = impl.StoreFault
	_ func(int64, int64) impl.StoreResult              = impl.NewStore
	_ func(impl.Store) impl.IntResult                  = impl.CostIn
	_ func(impl.Store, string) impl.EntryResult        = impl.PeekEntry
	_ func(impl.Store, string) impl.StoreResult        = impl.TouchEntry
	_ func(impl.Store, impl.Entry) impl.PutResult      = impl.PutEntry
	_ func(impl.Store, string, int64) impl.StoreResult = impl.PinEntry
	_ func(impl.Store, string) impl.StoreResult        = impl.DropEntry
	_ func(impl.Store, impl.Store) bool                = impl.SameStores

	_ = impl.Entry{Key: "", Status: int64(0), Headers: []impl.Header{}, Body: []byte{}, Meta: impl.Meta{}, Tags: []string{}, Pins: int64(0)}
	_ = impl.Store{Budget: int64(0), Guard: int64(0), Trial: []impl.Entry{}, Kept: []impl.Entry{}}
	_ = impl.EntryResult{Code: int64(0), Entry: impl.Entry{}}
	_ = impl.StoreResult{Code: int64(0), Store: impl.Store{}}
	_ = impl.PutResult{Code: int64(0), Store: impl.Store{}, Gone: []string{}}
)

// plain is an entry with that Key and nothing else: it costs 50 and the bytes of its Key.
func plain(key string) impl.Entry {
	return impl.Entry{Key: key, Status: 200}
}

// costing is an entry with that Key and that cost.
func costing(key string, cost int) impl.Entry {
	e := plain(key)
	e.Body = make([]byte, cost-50-len(key))
	return e
}

func pinned(e impl.Entry, pins int64) impl.Entry {
	e.Pins = pins
	return e
}

// fullEntry has something in all of its fields.
func fullEntry(key string) impl.Entry {
	return impl.Entry{
		Key: key, Status: 410, Headers: []impl.Header{head("Age", "5"), head("X", "")}, Body: []byte("body"),
		Meta: impl.Meta{At: 1, Age: 2, Life: 3, Swr: 4, Sie: 5, Soft: true}, Tags: []string{"t", "u"}, Pins: 3,
	}
}

// listOf are entries of one letter each, in the order of the text.
func listOf(letters string) []impl.Entry {
	var list []impl.Entry
	for _, letter := range letters {
		list = append(list, plain(string(letter)))
	}
	return list
}

// storeOf is a store of entries of one letter each, that cost 51 each.
func storeOf(budget, guard int64, trial, kept string) impl.Store {
	return impl.Store{Budget: budget, Guard: guard, Trial: listOf(trial), Kept: listOf(kept)}
}

func lettersOf(list []impl.Entry) string {
	text := ""
	for _, e := range list {
		text += e.Key
	}
	return text
}

// manyKeys are keys of two bytes, all different.
func manyKeys(count int) []string {
	keys := make([]string, count)
	for i := range keys {
		keys[i] = fmt.Sprintf("%02d", i)
	}
	return keys
}

func manyPlain(count int) []impl.Entry {
	var list []impl.Entry
	for _, key := range manyKeys(count) {
		list = append(list, plain(key))
	}
	return list
}

func sameHeld(a, b impl.Entry) bool {
	return a.Key == b.Key && a.Status == b.Status && slices.Equal(a.Headers, b.Headers) && bytes.Equal(a.Body, b.Body) &&
		a.Meta == b.Meta && slices.Equal(a.Tags, b.Tags) && a.Pins == b.Pins
}

func sameStore(a, b impl.Store) bool {
	return a.Budget == b.Budget && a.Guard == b.Guard && slices.EqualFunc(a.Trial, b.Trial, sameHeld) && slices.EqualFunc(a.Kept, b.Kept, sameHeld)
}

func samePeek(a, b impl.EntryResult) bool {
	return a.Code == b.Code && sameHeld(a.Entry, b.Entry)
}

func sameStored(a, b impl.StoreResult) bool {
	return a.Code == b.Code && sameStore(a.Store, b.Store)
}

func samePut(a, b impl.PutResult) bool {
	return a.Code == b.Code && sameStore(a.Store, b.Store) && slices.Equal(a.Gone, b.Gone)
}

func shownEntry(e impl.Entry) string {
	return fmt.Sprintf("{%s %d %q %d bytes %+v %q pins %d}", shown(e.Key), e.Status, e.Headers, len(e.Body), e.Meta, e.Tags, e.Pins)
}

func shownStore(s impl.Store) string {
	text := fmt.Sprintf("budget %d guard %d", s.Budget, s.Guard)
	for i, list := range [][]impl.Entry{s.Trial, s.Kept} {
		text += []string{" trial", " kept"}[i]
		for _, e := range list {
			text += fmt.Sprintf(" %s:%d:%d", shown(e.Key), impl.CostOf(e).Value, e.Pins)
		}
	}
	return text
}

func entryWanted(e impl.Entry) int64 {
	switch {
	case len(e.Key) == 0 || len(e.Key) > 500:
		return impl.ErrMany
	case !slices.Contains([]int64{200, 404, 410}, e.Status) || e.Pins < 0 || e.Pins > 20:
		return impl.ErrRange
	case headsWanted(e.Headers) != impl.OK:
		return headsWanted(e.Headers)
	case len(e.Body) > 2000 || len(e.Tags) > 10:
		return impl.ErrMany
	}
	return metaWanted(e.Meta)
}

func costWanted(list ...impl.Entry) int64 {
	cost := 0
	for _, e := range list {
		cost += 50 + len(e.Key) + len(e.Body)
		for _, line := range e.Headers {
			cost += len(line.Name) + 2 + len(line.Value) + 2
		}
	}
	return int64(cost)
}

func storeFaultWanted(s impl.Store) int64 {
	if s.Budget < 0 || s.Budget > 1000000 || s.Guard < 0 || s.Guard > s.Budget {
		return impl.ErrRange
	}
	all := slices.Concat(s.Trial, s.Kept)
	if len(all) > 40 {
		return impl.ErrMany
	}
	for _, e := range all {
		if code := entryWanted(e); code != impl.OK {
			return code
		}
	}
	for i, e := range all {
		if placeOf(all[:i], e.Key) >= 0 {
			return impl.ErrTaken
		}
	}
	if costWanted(all...) > s.Budget || costWanted(s.Kept...) > s.Guard {
		return impl.ErrFull
	}
	return impl.OK
}

func placeOf(list []impl.Entry, key string) int {
	return slices.IndexFunc(list, func(e impl.Entry) bool { return e.Key == key })
}

// keyWantedIn is the code of all that look for a key.
func keyWantedIn(s impl.Store, key string) int64 {
	if code := storeFaultWanted(s); code != impl.OK {
		return code
	}
	if placeOf(slices.Concat(s.Trial, s.Kept), key) < 0 {
		return impl.ErrNone
	}
	return impl.OK
}

// without is the store in lists of its own, without the entry of that key.
func without(s impl.Store, key string) impl.Store {
	other := func(list []impl.Entry) []impl.Entry {
		return slices.DeleteFunc(slices.Clone(list), func(e impl.Entry) bool { return e.Key == key })
	}
	return impl.Store{Budget: s.Budget, Guard: s.Guard, Trial: other(s.Trial), Kept: other(s.Kept)}
}

func peekWanted(s impl.Store, key string) impl.EntryResult {
	if code := keyWantedIn(s, key); code != impl.OK {
		return impl.EntryResult{Code: code}
	}
	all := slices.Concat(s.Trial, s.Kept)
	return impl.EntryResult{Entry: all[placeOf(all, key)]}
}

func touchWanted(s impl.Store, key string) impl.StoreResult {
	e := peekWanted(s, key)
	if e.Code != impl.OK {
		return impl.StoreResult{Code: e.Code}
	}
	s = without(s, key)
	s.Kept = append([]impl.Entry{e.Entry}, s.Kept...)
	for costWanted(s.Kept...) > s.Guard {
		end := len(s.Kept) - 1
		s.Trial = append([]impl.Entry{s.Kept[end]}, s.Trial...)
		s.Kept = s.Kept[:end]
	}
	return impl.StoreResult{Store: s}
}

func pinWanted(s impl.Store, key string, by int64) impl.StoreResult {
	e := peekWanted(s, key)
	switch {
	case e.Code != impl.OK:
		return impl.StoreResult{Code: e.Code}
	case by < -20 || by > 20 || e.Entry.Pins+by < 0 || e.Entry.Pins+by > 20:
		return impl.StoreResult{Code: impl.ErrRange}
	}
	s = without(s, "")
	for _, list := range [][]impl.Entry{s.Trial, s.Kept} {
		if at := placeOf(list, key); at >= 0 {
			list[at].Pins += by
		}
	}
	return impl.StoreResult{Store: s}
}

func dropEntryWanted(s impl.Store, key string) impl.StoreResult {
	if code := keyWantedIn(s, key); code != impl.OK {
		return impl.StoreResult{Code: code}
	}
	return impl.StoreResult{Store: without(s, key)}
}

// lastFree is the place of the last entry that is not pinned; -1, where there is none.
func lastFree(list []impl.Entry) int {
	last := -1
	for i, e := range list {
		if e.Pins == 0 {
			last = i
		}
	}
	return last
}

func putWanted(s impl.Store, e impl.Entry) impl.PutResult {
	if code := storeFaultWanted(s); code != impl.OK {
		return impl.PutResult{Code: code}
	}
	if code := entryWanted(e); code != impl.OK {
		return impl.PutResult{Code: code}
	}
	s = without(s, e.Key)
	var gone []string
	for costWanted(s.Trial...)+costWanted(s.Kept...)+costWanted(e) > s.Budget || len(s.Trial)+len(s.Kept)+1 > 40 {
		list := &s.Trial
		if lastFree(*list) < 0 {
			list = &s.Kept
		}
		at := lastFree(*list)
		if at < 0 {
			return impl.PutResult{Code: impl.ErrFull}
		}
		gone = append(gone, (*list)[at].Key)
		*list = slices.Delete(*list, at, at+1)
	}
	s.Trial = append([]impl.Entry{e}, s.Trial...)
	return impl.PutResult{Store: s, Gone: gone}
}

func TestStoreBounds(t *testing.T) {
	if impl.MaxKeyText != 500 || impl.MaxEntries != 40 || impl.MaxBudget != 1000000 || impl.MaxPins != 20 || impl.BaseCost != 50 {
		t.Error("constants")
	}
}

type entryRow struct {
	what string
	turn func(e *impl.Entry)
	want int64
}

// entryRows turn an entry without a fault into one with that code.
func entryRows() []entryRow {
	rows := []entryRow{
		{"no key", func(e *impl.Entry) { e.Key = "" }, impl.ErrMany},
		{"a key of a byte", func(e *impl.Entry) { e.Key = "\x00" }, impl.OK},
		{"a long key", func(e *impl.Entry) { e.Key = strings.Repeat("\xff", 500) }, impl.OK},
		{"a key too long", func(e *impl.Entry) { e.Key = strings.Repeat("k", 501) }, impl.ErrMany},
		{"a key far too long", func(e *impl.Entry) { e.Key = strings.Repeat("k", 100000) }, impl.ErrMany},
		{"no heads", func(e *impl.Entry) { e.Headers = nil }, impl.OK},
		{"an empty list of heads", func(e *impl.Entry) { e.Headers = []impl.Header{} }, impl.OK},
		{"as many heads as may be", func(e *impl.Entry) { e.Headers = sameLines(head("a", "b"), 20) }, impl.OK},
		{"too many heads", func(e *impl.Entry) { e.Headers = sameLines(head("a", "b"), 21) }, impl.ErrMany},
		{"a head without a name", func(e *impl.Entry) { e.Headers = append(e.Headers, head("", "b")) }, impl.ErrText},
		{"a head of a long value", func(e *impl.Entry) { e.Headers = append(e.Headers, head("a", strings.Repeat("v", 201))) }, impl.ErrMany},
		{"a head of a blank", func(e *impl.Entry) { e.Headers = append(e.Headers, head("a", " ")) }, impl.ErrText},
		{"no body", func(e *impl.Entry) { e.Body = nil }, impl.OK},
		{"an empty body", func(e *impl.Entry) { e.Body = []byte{} }, impl.OK},
		{"a full body", func(e *impl.Entry) { e.Body = make([]byte, 2000) }, impl.OK},
		{"a body too long", func(e *impl.Entry) { e.Body = make([]byte, 2001) }, impl.ErrMany},
		{"no tags", func(e *impl.Entry) { e.Tags = nil }, impl.OK},
		{"an empty list of tags", func(e *impl.Entry) { e.Tags = []string{} }, impl.OK},
		{"as many tags as may be", func(e *impl.Entry) { e.Tags = make([]string, 10) }, impl.OK},
		{"too many tags", func(e *impl.Entry) { e.Tags = make([]string, 11) }, impl.ErrMany},
		{"tags of any bytes", func(e *impl.Entry) {
			e.Tags = []string{"", " ", "a b", "\n", "\xff", strings.Repeat("t", 5000), "", "t"}
		}, impl.OK},
	}
	for _, status := range toldStatuses {
		want := int64(impl.ErrRange)
		if status == 200 || status == 404 || status == 410 {
			want = impl.OK
		}
		rows = append(rows, entryRow{fmt.Sprint("the status ", status), func(e *impl.Entry) { e.Status = status }, want})
	}
	for _, status := range edgeNumbers {
		if status != 200 && status != 404 && status != 410 {
			rows = append(rows, entryRow{fmt.Sprint("the status ", status), func(e *impl.Entry) { e.Status = status }, impl.ErrRange})
		}
	}
	for _, pins := range slices.Concat(edgeNumbers, []int64{0, 1, 19, 20, 21, -20, -21}) {
		want := int64(impl.ErrRange)
		if pins >= 0 && pins <= 20 {
			want = impl.OK
		}
		rows = append(rows, entryRow{fmt.Sprint("pins ", pins), func(e *impl.Entry) { e.Pins = pins }, want})
	}
	for _, n := range spans {
		want := int64(impl.ErrRange)
		if isTime(n) {
			want = impl.OK
		}
		for place := range 5 {
			rows = append(rows, entryRow{fmt.Sprint("a time ", n), func(e *impl.Entry) { *fieldsOf(&e.Meta)[place] = n }, want})
		}
	}
	return rows
}

func TestEntryFault(t *testing.T) {
	for _, bare := range []impl.Entry{plain("k"), fullEntry("k")} {
		for _, row := range entryRows() {
			e := bare
			e.Headers = slices.Clone(bare.Headers)
			row.turn(&e)
			if got := impl.EntryFault(e); got != row.want {
				t.Errorf("%s: EntryFault = %d, want %d", row.what, got, row.want)
			}
			cost, want := impl.CostOf(e), impl.IntResult{Code: row.want}
			if row.want == impl.OK {
				want.Value = costWanted(e)
			}
			if cost != want {
				t.Errorf("%s: CostOf = %+v, want %+v", row.what, cost, want)
			}
		}
	}
	if got := impl.EntryFault(impl.Entry{}); got != impl.ErrMany {
		t.Errorf("EntryFault of nothing = %d", got)
	}
}

// entryFaults stand in the order in which an entry is asked them.
func entryFaults() [][]entryRow {
	return [][]entryRow{
		{{"key", func(e *impl.Entry) { e.Key = "" }, impl.ErrMany}, {"key", func(e *impl.Entry) { e.Key = strings.Repeat("k", 501) }, impl.ErrMany}},
		{{"status", func(e *impl.Entry) { e.Status = 304 }, impl.ErrRange}, {"pins", func(e *impl.Entry) { e.Pins = 21 }, impl.ErrRange}},
		{{"heads", func(e *impl.Entry) { e.Headers = []impl.Header{head("", "")} }, impl.ErrText}, {"heads", func(e *impl.Entry) { e.Headers = sameLines(head("", ""), 21) }, impl.ErrMany}},
		{{"body", func(e *impl.Entry) { e.Body = make([]byte, 2001) }, impl.ErrMany}, {"tags", func(e *impl.Entry) { e.Tags = make([]string, 11) }, impl.ErrMany}},
		{{"meta", func(e *impl.Entry) { e.Meta.At = -1 }, impl.ErrRange}, {"meta", func(e *impl.Entry) { e.Meta.Sie = impl.MaxTime + 1 }, impl.ErrRange}},
	}
}

func TestEntryFaultInOrder(t *testing.T) {
	faults := entryFaults()
	for first := range faults {
		for later := first + 1; later < len(faults); later++ {
			for _, a := range faults[first] {
				for _, b := range faults[later] {
					e := fullEntry("k")
					b.turn(&e)
					a.turn(&e)
					if got := impl.EntryFault(e); got != a.want {
						t.Errorf("%s ahead of %s: EntryFault = %d, want %d", a.what, b.what, got, a.want)
					}
				}
			}
		}
	}
}

func TestCostOf(t *testing.T) {
	full := plain(strings.Repeat("k", 500))
	full.Headers = sameLines(head(strings.Repeat("n", 64), strings.Repeat("v", 200)), 20)
	full.Body = make([]byte, 2000)
	long := fullEntry("key")
	for _, row := range []struct {
		e    impl.Entry
		want int64
	}{
		{impl.Entry{Key: "k", Status: 200, Body: []byte("ab")}, 53},
		{plain("k"), 51}, {plain("\u00e4"), 52}, {costing("k", 60), 60},
		{impl.Entry{Key: "k", Status: 404, Headers: []impl.Header{head("a", "")}}, 51 + 5},
		{impl.Entry{Key: "k", Status: 404, Headers: []impl.Header{head("a", "xyz"), head("a", "xyz")}}, 51 + 16},
		// Neither its Tags nor its Meta nor its Pins cost anything.
		{long, 50 + 3 + 4 + 8 + 5},
		{full, 50 + 500 + 20*268 + 2000},
	} {
		if got := impl.CostOf(row.e); got != (impl.IntResult{Value: row.want}) {
			t.Errorf("CostOf(%s) = %+v, want %d", shownEntry(row.e), got, row.want)
		}
	}
}

// checkStoreCode asks all that begin with the fault of a store.
func checkStoreCode(t *testing.T, what string, s impl.Store, want int64) {
	t.Helper()
	if got := impl.StoreFault(s); got != want {
		t.Errorf("%s: StoreFault(%s) = %d, want %d", what, shownStore(s), got, want)
	}
	if want == impl.OK {
		if got := impl.CostIn(s); got != (impl.IntResult{Value: costWanted(slices.Concat(s.Trial, s.Kept)...)}) {
			t.Errorf("%s: CostIn(%s) = %+v", what, shownStore(s), got)
		}
		return
	}
	if got := impl.CostIn(s); got != (impl.IntResult{Code: want}) {
		t.Errorf("%s: CostIn = %+v, want the code %d", what, got, want)
	}
	if got := impl.PeekEntry(s, "a"); !samePeek(got, impl.EntryResult{Code: want}) {
		t.Errorf("%s: PeekEntry = %+v, want the code %d", what, got, want)
	}
	for i, got := range []impl.StoreResult{impl.TouchEntry(s, "a"), impl.PinEntry(s, "a", 100), impl.DropEntry(s, ""), impl.PinEntry(s, "zz", 1)} {
		if !sameStored(got, impl.StoreResult{Code: want}) {
			t.Errorf("%s: answer %d is %+v, want the code %d", what, i, got, want)
		}
	}
	for _, e := range []impl.Entry{plain("a"), {}, {Key: "a"}} {
		if got := impl.PutEntry(s, e); !samePut(got, impl.PutResult{Code: want}) {
			t.Errorf("%s: PutEntry = %+v, want the code %d", what, got, want)
		}
	}
}

func TestStoreFaultNumbers(t *testing.T) {
	numbers := slices.Concat(edgeNumbers, []int64{0, 1, 2, 999999, 1000000, 1000001, -1})
	for _, budget := range numbers {
		for _, guard := range numbers {
			want := int64(impl.ErrRange)
			if budget >= 0 && budget <= 1000000 && guard >= 0 && guard <= budget {
				want = impl.OK
			}
			checkStoreCode(t, "nothing in it", impl.Store{Budget: budget, Guard: guard}, want)
			checkStoreCode(t, "nothing in its lists", impl.Store{Budget: budget, Guard: guard, Trial: []impl.Entry{}, Kept: []impl.Entry{}}, want)
			fresh := impl.StoreResult{Code: want}
			if want == impl.OK {
				fresh.Store = impl.Store{Budget: budget, Guard: guard}
			}
			if got := impl.NewStore(budget, guard); !sameStored(got, fresh) {
				t.Errorf("NewStore(%d, %d) = %+v, want %+v", budget, guard, got, fresh)
			}
		}
	}
	checkStoreCode(t, "guard above budget", impl.Store{Budget: 5, Guard: 6}, impl.ErrRange)
	checkStoreCode(t, "guard as budget", impl.Store{Budget: 5, Guard: 5}, impl.OK)
}

func TestStoreFaultCounts(t *testing.T) {
	for _, count := range []int{0, 1, 39, 40, 41, 42, 80} {
		list := manyPlain(count)
		for _, trial := range []int{0, 1, count / 2, count - 1, count} {
			if trial < 0 || trial > count {
				continue
			}
			want := int64(impl.OK)
			if count > 40 {
				want = impl.ErrMany
			}
			checkStoreCode(t, fmt.Sprint(count, " entries"), impl.Store{Budget: 1000000, Guard: 1000000, Trial: list[:trial], Kept: list[trial:]}, want)
		}
	}
}

func TestStoreFaultOfEntries(t *testing.T) {
	for place := range 6 {
		for _, row := range entryRows() {
			all := listOf("abcdef")
			row.turn(&all[place])
			for _, trial := range []int{0, 3, 6} {
				checkStoreCode(t, row.what, impl.Store{Budget: 1000000, Guard: 1000000, Trial: all[:trial], Kept: all[trial:]}, row.want)
			}
		}
	}
	// Each entry is asked all of its codes ahead of the next one.
	faults := slices.Concat(entryFaults()...)
	for _, a := range faults {
		for _, b := range faults {
			for _, trial := range []int{0, 1, 2, 3, 4} {
				all := listOf("abcd")
				a.turn(&all[1])
				b.turn(&all[2])
				checkStoreCode(t, a.what+" ahead of "+b.what, impl.Store{Budget: 1000000, Guard: 1000000, Trial: all[:trial], Kept: all[trial:]}, a.want)
			}
		}
	}
}

func TestStoreFaultTaken(t *testing.T) {
	for _, keys := range []string{"aa", "aba", "abb", "aab", "abcdea", "aaa"} {
		for trial := range len(keys) + 1 {
			checkStoreCode(t, "a key twice", storeOf(1000, 1000, keys[:trial], keys[trial:]), impl.ErrTaken)
			// It is asked ahead of the costs, whatever else is the same.
			checkStoreCode(t, "a key twice, and no room", storeOf(50, 0, keys[:trial], keys[trial:]), impl.ErrTaken)
		}
	}
	other := fullEntry("a")
	checkStoreCode(t, "a key of another entry", impl.Store{Budget: 1000, Guard: 1000, Trial: listOf("a"), Kept: []impl.Entry{other}}, impl.ErrTaken)
	checkStoreCode(t, "small and large letters", storeOf(1000, 1000, "aA", "bB"), impl.OK)
	checkStoreCode(t, "keys that begin alike", impl.Store{Budget: 1000, Guard: 1000, Trial: []impl.Entry{plain("a"), plain("a ")}, Kept: []impl.Entry{plain("a\x00")}}, impl.OK)
	same := plain("b")
	same.Status = 304
	checkStoreCode(t, "an entry ahead of a key", impl.Store{Budget: 1000, Guard: 1000, Trial: listOf("aa"), Kept: []impl.Entry{same}}, impl.ErrRange)
}

func TestStoreFaultFull(t *testing.T) {
	checkStoreCode(t, "just the budget", storeOf(153, 51, "ab", "c"), impl.OK)
	checkStoreCode(t, "above the budget", storeOf(152, 51, "ab", "c"), impl.ErrFull)
	checkStoreCode(t, "above the guard", storeOf(153, 50, "ab", "c"), impl.ErrFull)
	checkStoreCode(t, "just the guard", storeOf(153, 153, "", "abc"), impl.OK)
	checkStoreCode(t, "above the guard alone", storeOf(1000, 152, "", "abc"), impl.ErrFull)
	checkStoreCode(t, "no guard", storeOf(153, 0, "abc", ""), impl.OK)
	checkStoreCode(t, "no guard, and one kept", storeOf(1000, 0, "ab", "c"), impl.ErrFull)
	checkStoreCode(t, "nothing", storeOf(0, 0, "", ""), impl.OK)
	checkStoreCode(t, "no budget", storeOf(0, 0, "a", ""), impl.ErrFull)
	checkStoreCode(t, "far above", impl.Store{Budget: 1999, Guard: 0, Trial: []impl.Entry{costing("a", 2000)}}, impl.ErrFull)
	checkStoreCode(t, "heads count", impl.Store{Budget: 67, Guard: 67, Kept: []impl.Entry{fullEntry("a")}}, impl.ErrFull)
	checkStoreCode(t, "heads count", impl.Store{Budget: 68, Guard: 68, Kept: []impl.Entry{fullEntry("a")}}, impl.OK)
}

// The turns stand in the order in which a store is asked their codes.
func TestStoreFaultInOrder(t *testing.T) {
	type turn struct {
		what string
		turn func(s *impl.Store)
		want int64
	}
	turns := []turn{
		{"budget", func(s *impl.Store) { s.Budget = -1 }, impl.ErrRange},
		{"many", func(s *impl.Store) { s.Kept = append(s.Kept, manyPlain(38)...) }, impl.ErrMany},
		{"entry", func(s *impl.Store) { s.Kept[0].Headers = []impl.Header{head("", "")} }, impl.ErrText},
		{"taken", func(s *impl.Store) { s.Trial[0].Key = s.Kept[0].Key }, impl.ErrTaken},
		{"full", func(s *impl.Store) { s.Trial[1].Body, s.Kept[1].Body = make([]byte, 900), make([]byte, 900) }, impl.ErrFull},
	}
	for first := range turns {
		for later := first; later < len(turns); later++ {
			s := storeOf(1000, 500, "ab", "cd")
			turns[later].turn(&s)
			turns[first].turn(&s)
			checkStoreCode(t, turns[first].what+" ahead of "+turns[later].what, s, turns[first].want)
		}
	}
}

func TestPeekEntry(t *testing.T) {
	full := fullEntry("full")
	s := impl.Store{Budget: 1000, Guard: 500, Trial: append(listOf("ab"), full), Kept: append(listOf("cd"), fullEntry("other"))}
	for _, e := range slices.Concat(s.Trial, s.Kept) {
		if got := impl.PeekEntry(s, e.Key); !samePeek(got, impl.EntryResult{Entry: e}) {
			t.Errorf("PeekEntry of %q = %+v", e.Key, got)
		}
	}
	for _, key := range []string{"", "A", "e", "ab", "a ", "fullx", "ful", "other\x00", strings.Repeat("k", 501)} {
		if got := impl.PeekEntry(s, key); !samePeek(got, impl.EntryResult{Code: impl.ErrNone}) {
			t.Errorf("PeekEntry of %s = %+v", shown(key), got)
		}
		for i, got := range []impl.StoreResult{impl.TouchEntry(s, key), impl.DropEntry(s, key), impl.PinEntry(s, key, 0), impl.PinEntry(s, key, 100)} {
			if !sameStored(got, impl.StoreResult{Code: impl.ErrNone}) {
				t.Errorf("%s: answer %d is %+v", shown(key), i, got)
			}
		}
	}
	for _, none := range []impl.Store{{}, {Trial: []impl.Entry{}, Kept: []impl.Entry{}}} {
		if got := impl.PeekEntry(none, "a"); !samePeek(got, impl.EntryResult{Code: impl.ErrNone}) {
			t.Errorf("PeekEntry in an empty store = %+v", got)
		}
	}
}

// checkLists holds the lists of a store against letters; its numbers are those that it had.
func checkLists(t *testing.T, what string, got impl.StoreResult, before impl.Store, trial, kept string) {
	t.Helper()
	if got.Code != impl.OK || lettersOf(got.Store.Trial) != trial || lettersOf(got.Store.Kept) != kept || got.Store.Budget != before.Budget || got.Store.Guard != before.Guard {
		t.Errorf("%s: %d, %s; want %q and %q", what, got.Code, shownStore(got.Store), trial, kept)
	}
	if code := impl.StoreFault(got.Store); code != impl.OK {
		t.Errorf("%s: the store has the fault %d", what, code)
	}
}

func TestTouchEntry(t *testing.T) {
	for _, row := range []struct {
		guard                   int64
		trial, kept, key        string
		trialBehind, keptBehind string
	}{
		{500, "abc", "", "a", "bc", "a"}, {500, "abc", "", "b", "ac", "b"}, {500, "abc", "", "c", "ab", "c"},
		{500, "abc", "de", "b", "ac", "bde"}, {500, "abc", "de", "d", "abc", "de"}, {500, "abc", "de", "e", "abc", "ed"},
		{500, "", "abc", "c", "", "cab"}, {500, "", "abc", "b", "", "bac"}, {500, "", "a", "a", "", "a"},
		// The guard is just enough for two, and one too little for them.
		{102, "abc", "de", "b", "eac", "bd"}, {102, "abc", "de", "e", "abc", "ed"}, {102, "abc", "de", "d", "abc", "de"},
		{153, "abc", "de", "b", "ac", "bde"}, {152, "abc", "de", "b", "eac", "bd"},
		{101, "abc", "d", "b", "dac", "b"}, {51, "abc", "d", "c", "dab", "c"}, {51, "ab", "", "b", "a", "b"},
		// One that costs more than the guard does not stay there.
		{50, "abc", "", "a", "abc", ""}, {50, "abc", "", "c", "cab", ""}, {0, "abc", "", "b", "bac", ""}, {0, "a", "", "a", "a", ""},
	} {
		s := storeOf(500, row.guard, row.trial, row.kept)
		checkLists(t, fmt.Sprintf("%+v", row), impl.TouchEntry(s, row.key), s, row.trialBehind, row.keptBehind)
	}
}

// An entry above the guard takes all of Kept with it, the last one first; it is ahead of all of them.
func TestTouchAboveGuard(t *testing.T) {
	big := costing("x", 300)
	s := impl.Store{Budget: 1000, Guard: 299, Trial: append(listOf("ab"), big), Kept: listOf("cde")}
	checkLists(t, "above the guard", impl.TouchEntry(s, "x"), s, "xcdeab", "")
	s.Guard = 300
	checkLists(t, "just the guard", impl.TouchEntry(s, "x"), s, "cdeab", "x")
	s.Guard = 300 + 50
	checkLists(t, "not enough for another", impl.TouchEntry(s, "x"), s, "cdeab", "x")
	s.Guard = 300 + 51
	checkLists(t, "enough for another", impl.TouchEntry(s, "x"), s, "deab", "xc")
	s.Guard = 300 + 2*51
	checkLists(t, "enough for two others", impl.TouchEntry(s, "x"), s, "eab", "xcd")
	s.Guard = 300 + 3*51
	checkLists(t, "enough for all", impl.TouchEntry(s, "x"), s, "ab", "xcde")
	s = impl.Store{Budget: 1000, Guard: 402, Trial: listOf("ab"), Kept: []impl.Entry{plain("c"), big, plain("d")}}
	checkLists(t, "a small one, with a big one behind it", impl.TouchEntry(s, "a"), s, "db", "acx")
	s.Kept = []impl.Entry{plain("c"), plain("d"), big}
	checkLists(t, "a small one, with a big one at the end", impl.TouchEntry(s, "a"), s, "xb", "acd")
	// Pins hold nothing back here: nobody goes.
	s.Kept[2].Pins, s.Trial[0].Pins = 20, 1
	checkLists(t, "pinned ones", impl.TouchEntry(s, "a"), s, "xb", "acd")
	if told := impl.TouchEntry(s, "a").Store; told.Trial[0].Pins != 20 || told.Kept[0].Pins != 1 {
		t.Errorf("pins of what was moved: %s", shownStore(told))
	}
}

func TestPinEntry(t *testing.T) {
	for pins := int64(0); pins <= 20; pins++ {
		for place := range 4 {
			s := storeOf(500, 200, "ab", "cd")
			list := [][]impl.Entry{s.Trial, s.Kept}[place/2]
			list[place%2].Pins = pins
			key := "abcd"[place : place+1]
			for _, by := range slices.Concat(edgeNumbers, []int64{0, 1, -1, 19, 20, 21, -19, -20, -21, -pins, -pins - 1, 20 - pins, 21 - pins}) {
				got := impl.PinEntry(s, key, by)
				if !sameStored(got, pinWanted(s, key, by)) {
					t.Errorf("PinEntry(%s, %s, %d) = %d, %s", shownStore(s), key, by, got.Code, shownStore(got.Store))
				}
				if right := by >= -pins && by <= 20-pins; right != (got.Code == impl.OK) || !right && got.Code != impl.ErrRange {
					t.Errorf("%d pins and %d: the code %d", pins, by, got.Code)
				}
			}
		}
	}
	s := storeOf(500, 200, "ab", "cd")
	for _, by := range []int64{math.MaxInt64, math.MinInt64, 21, -1} {
		if got := impl.PinEntry(s, "a", by); !sameStored(got, impl.StoreResult{Code: impl.ErrRange}) {
			t.Errorf("PinEntry by %d = %+v", by, got)
		}
	}
	got := impl.PinEntry(s, "d", 7)
	checkLists(t, "pinned", got, s, "ab", "cd")
	if got.Store.Kept[1].Pins != 7 || got.Store.Kept[0].Pins != 0 {
		t.Errorf("pinned: %s", shownStore(got.Store))
	}
}

func TestDropEntry(t *testing.T) {
	s := storeOf(500, 200, "abc", "def")
	for _, row := range [][3]string{{"a", "bc", "def"}, {"b", "ac", "def"}, {"c", "ab", "def"}, {"d", "abc", "ef"}, {"e", "abc", "df"}, {"f", "abc", "de"}} {
		checkLists(t, "dropped "+row[0], impl.DropEntry(s, row[0]), s, row[1], row[2])
	}
	one := storeOf(51, 51, "", "a")
	checkLists(t, "the only one", impl.DropEntry(one, "a"), one, "", "")
	// A pinned one goes as well.
	one.Kept[0].Pins = 20
	checkLists(t, "a pinned one", impl.DropEntry(one, "a"), one, "", "")
}

// checkPut holds who is there behind a put, and who went, against letters.
func checkPut(t *testing.T, what string, s impl.Store, e impl.Entry, trial, kept, gone string) {
	t.Helper()
	got := impl.PutEntry(s, e)
	checkLists(t, what, impl.StoreResult{Code: got.Code, Store: got.Store}, s, trial, kept)
	if strings.Join(got.Gone, "") != gone || len(got.Gone) != len(gone) {
		t.Errorf("%s: %q went, want %q", what, got.Gone, gone)
	}
	if len(got.Store.Trial) == 0 || !sameHeld(got.Store.Trial[0], e) {
		t.Errorf("%s: %s, and %s is not ahead", what, shownStore(got.Store), shownEntry(e))
	}
}

func checkNoRoom(t *testing.T, what string, s impl.Store, e impl.Entry) {
	t.Helper()
	if got := impl.PutEntry(s, e); !samePut(got, impl.PutResult{Code: impl.ErrFull}) {
		t.Errorf("%s: %d, %s, %q", what, got.Code, shownStore(got.Store), got.Gone)
	}
}

func TestPutEntry(t *testing.T) {
	checkPut(t, "into nothing", impl.Store{Budget: 68, Guard: 0}, fullEntry("k"), "k", "", "")
	checkPut(t, "into empty lists", impl.Store{Budget: 51, Guard: 51, Trial: []impl.Entry{}, Kept: []impl.Entry{}}, plain("k"), "k", "", "")
	checkPut(t, "with room", storeOf(500, 200, "ab", "cd"), plain("k"), "kab", "cd", "")
	checkPut(t, "with just room", storeOf(5*51, 200, "ab", "cd"), plain("k"), "kab", "cd", "")
	checkPut(t, "one too little", storeOf(5*51-1, 200, "ab", "cd"), plain("k"), "ka", "cd", "b")
	checkPut(t, "two go", impl.Store{Budget: 300, Guard: 200, Trial: listOf("abc"), Kept: listOf("de")}, costing("k", 147), "ka", "de", "cb")
	checkPut(t, "all of Trial go", storeOf(5*51, 200, "abc", "de"), costing("k", 153), "k", "de", "cba")
	checkPut(t, "and of Kept", storeOf(5*51, 200, "abc", "de"), costing("k", 154), "k", "d", "cbae")
	checkPut(t, "all go", storeOf(5*51, 200, "abc", "de"), costing("k", 255), "k", "", "cbaed")
	checkPut(t, "from Kept alone", storeOf(3*51, 153, "", "abc"), plain("k"), "k", "ab", "c")
	checkNoRoom(t, "more than the budget", storeOf(5*51, 200, "abc", "de"), costing("k", 256))
	checkNoRoom(t, "more than the budget of an empty store", storeOf(50, 50, "", ""), plain("k"))
	checkNoRoom(t, "no budget", impl.Store{}, plain("k"))
	checkPut(t, "above the guard, but within the budget", storeOf(500, 0, "a", ""), costing("k", 400), "ka", "", "")
	checkPut(t, "a small one after a big one", impl.Store{Budget: 300, Guard: 100, Trial: []impl.Entry{plain("a"), costing("b", 190)}, Kept: listOf("c")}, plain("k"), "ka", "c", "b")
	checkPut(t, "a big one that is not last stays", impl.Store{Budget: 300, Guard: 100, Trial: []impl.Entry{costing("b", 190), plain("a")}, Kept: listOf("c")}, plain("k"), "kb", "c", "a")
}

func TestPutPinned(t *testing.T) {
	s := storeOf(5*51, 200, "abc", "de")
	s.Trial[2].Pins = 1
	checkPut(t, "the last one is pinned", s, plain("k"), "kac", "de", "b")
	s.Trial[0].Pins = 20
	checkPut(t, "only one is not", s, plain("k"), "kac", "de", "b")
	checkPut(t, "one of Kept goes as well", s, costing("k", 102), "kac", "d", "be")
	checkPut(t, "and another one", s, costing("k", 103), "kac", "", "bed")
	checkNoRoom(t, "and then none", s, costing("k", 154))
	s.Trial[1].Pins = 2
	checkPut(t, "all of Trial are pinned", s, plain("k"), "kabc", "d", "e")
	s.Kept[1].Pins = 1
	checkPut(t, "and the last one of Kept", s, plain("k"), "kabc", "e", "d")
	checkNoRoom(t, "and no more is free", s, costing("k", 52))
	s.Kept[0].Pins = 1
	checkNoRoom(t, "all are pinned", s, plain("k"))
	// What is put stays, pinned or not.
	free := storeOf(2*51, 51, "a", "b")
	checkPut(t, "it is pinned itself", free, pinned(plain("k"), 20), "k", "b", "a")
	checkPut(t, "it is pinned, and needs all", free, pinned(costing("k", 102), 1), "k", "", "ab")
	held := impl.Store{Budget: 102, Guard: 51, Trial: []impl.Entry{pinned(plain("a"), 1)}, Kept: []impl.Entry{pinned(plain("b"), 1)}}
	checkNoRoom(t, "it is not pinned, and does not go itself", held, plain("k"))
}

func TestPutTheSameKey(t *testing.T) {
	other := fullEntry("b")
	other.Pins = 0
	s := storeOf(10*51, 200, "abc", "de")
	checkPut(t, "it was in Trial", s, other, "bac", "de", "")
	checkPut(t, "it was the first", s, pinned(plain("a"), 2), "abc", "de", "")
	checkPut(t, "it was the last of Trial", s, plain("c"), "cab", "de", "")
	checkPut(t, "it was in Kept", s, plain("e"), "eabc", "d", "")
	// It is taken out ahead: its room is free.
	s.Budget = 5 * 51
	checkPut(t, "in a full store", s, plain("b"), "bac", "de", "")
	checkPut(t, "in a full store, from Kept", s, plain("d"), "dabc", "e", "")
	checkPut(t, "one byte more", s, costing("b", 52), "ba", "de", "c")
	checkPut(t, "from Kept, and one byte more", s, costing("e", 52), "eab", "d", "c")
	checkPut(t, "from Kept, and all go", s, costing("e", 255), "e", "", "cbad")
	checkNoRoom(t, "too much", s, costing("e", 256))
	// It goes, pinned or not, and its pins go with it.
	for _, list := range [][]impl.Entry{s.Trial, s.Kept} {
		for i := range list {
			list[i].Pins = 5
		}
	}
	checkPut(t, "a pinned one", s, plain("b"), "bac", "de", "")
	checkPut(t, "a pinned one of Kept", s, pinned(plain("e"), 1), "eabc", "d", "")
	checkNoRoom(t, "a pinned one, and one byte more", s, costing("b", 52))
	one := storeOf(51, 51, "", "a")
	checkPut(t, "the only one", one, plain("a"), "a", "", "")
}

func TestPutIntoManyEntries(t *testing.T) {
	keys := manyKeys(41)
	for _, trial := range []int{0, 1, 20, 39, 40} {
		list := manyPlain(40)
		s := impl.Store{Budget: 1000000, Guard: 1000000, Trial: list[:trial], Kept: list[trial:]}
		last := keys[39]
		if trial > 0 {
			last = keys[trial-1]
		}
		for _, e := range []impl.Entry{plain("k"), pinned(plain("k"), 1), costing("k", 2000)} {
			got := impl.PutEntry(s, e)
			if got.Code != impl.OK || !slices.Equal(got.Gone, []string{last}) || !sameStore(got.Store, putWanted(s, e).Store) || impl.StoreFault(got.Store) != impl.OK {
				t.Errorf("%d of 40 in Trial: %d, %q, %s", trial, got.Code, got.Gone, shownStore(got.Store))
			}
		}
		for _, key := range keys[:40] {
			got := impl.PutEntry(s, pinned(plain(key), 1))
			if got.Code != impl.OK || len(got.Gone) != 0 || len(got.Store.Trial)+len(got.Store.Kept) != 40 || got.Store.Trial[0].Key != key || got.Store.Trial[0].Pins != 1 {
				t.Errorf("%d of 40 in Trial, %s again: %d, %q", trial, key, got.Code, got.Gone)
			}
		}
		for i := range list {
			list[i].Pins = 1
		}
		checkNoRoom(t, "all of 40 are pinned", s, plain("k"))
		list[7].Pins = 0
		if got := impl.PutEntry(s, plain("k")); got.Code != impl.OK || !slices.Equal(got.Gone, []string{"07"}) {
			t.Errorf("one of 40 is not pinned: %d, %q", got.Code, got.Gone)
		}
	}
	s := impl.Store{Budget: 1000000, Guard: 1000000, Trial: manyPlain(39)}
	if got := impl.PutEntry(s, plain("k")); got.Code != impl.OK || len(got.Gone) != 0 || len(got.Store.Trial) != 40 {
		t.Errorf("the last of 40: %d, %q", got.Code, got.Gone)
	}
}

// The fault of the entry is asked behind that of the store, and ahead of the room.
func TestPutCodesInOrder(t *testing.T) {
	for _, row := range entryRows() {
		e := fullEntry("k")
		row.turn(&e)
		want := row.want
		if want == impl.OK {
			want = impl.ErrFull
		}
		if got := impl.PutEntry(storeOf(51, 51, "a", ""), e); want != impl.ErrFull && !samePut(got, impl.PutResult{Code: want}) {
			t.Errorf("%s: %+v, want the code %d", row.what, got, want)
		}
		if got := impl.PutEntry(storeOf(50, 50, "", ""), e); !samePut(got, impl.PutResult{Code: want}) {
			t.Errorf("%s: %+v, want the code %d", row.what, got, want)
		}
		if got := impl.PutEntry(storeOf(51, 51, "aa", ""), e); !samePut(got, impl.PutResult{Code: impl.ErrTaken}) {
			t.Errorf("%s: %+v, want the code of the store", row.what, got)
		}
	}
}

func TestSameStores(t *testing.T) {
	make2 := func() impl.Store {
		return impl.Store{Budget: 1000, Guard: 500, Trial: []impl.Entry{fullEntry("a"), plain("b")}, Kept: []impl.Entry{plain("c"), fullEntry("d")}}
	}
	turns := []func(s *impl.Store){
		func(s *impl.Store) { s.Budget++ }, func(s *impl.Store) { s.Guard-- },
		func(s *impl.Store) { s.Trial = s.Trial[:1] }, func(s *impl.Store) { s.Kept = s.Kept[:1] }, func(s *impl.Store) { s.Trial = nil }, func(s *impl.Store) { s.Kept = nil },
		func(s *impl.Store) { s.Trial, s.Kept = s.Kept, s.Trial }, func(s *impl.Store) { slices.Reverse(s.Trial) }, func(s *impl.Store) { slices.Reverse(s.Kept) },
		func(s *impl.Store) { s.Trial = append(s.Trial, s.Kept[0]); s.Kept = s.Kept[1:] },
		func(s *impl.Store) { s.Kept = append(s.Kept, plain("e")) },
	}
	entryTurns := []func(e *impl.Entry){
		func(e *impl.Entry) { e.Key += "x" }, func(e *impl.Entry) { e.Key = "" }, func(e *impl.Entry) { e.Status++ }, func(e *impl.Entry) { e.Pins++ },
		func(e *impl.Entry) { e.Headers = append(e.Headers, head("a", "b")) }, func(e *impl.Entry) { e.Body = append(e.Body, 0) }, func(e *impl.Entry) { e.Tags = append(e.Tags, "") },
		func(e *impl.Entry) { e.Meta.At++ }, func(e *impl.Entry) { e.Meta.Age++ }, func(e *impl.Entry) { e.Meta.Life++ }, func(e *impl.Entry) { e.Meta.Swr++ }, func(e *impl.Entry) { e.Meta.Sie++ },
		func(e *impl.Entry) { e.Meta.Soft = !e.Meta.Soft }, func(e *impl.Entry) { e.Meta.NoCache = !e.Meta.NoCache },
	}
	for _, turn := range entryTurns {
		for place := range 2 {
			turns = append(turns, func(s *impl.Store) { turn(&s.Trial[place]) }, func(s *impl.Store) { turn(&s.Kept[place]) })
		}
	}
	turns = append(turns,
		func(s *impl.Store) { s.Trial[0].Headers[0].Name = "age" }, func(s *impl.Store) { s.Kept[1].Headers[1].Value = "x" }, func(s *impl.Store) { slices.Reverse(s.Kept[1].Headers) },
		func(s *impl.Store) { s.Trial[0].Body[3] = 'x' }, func(s *impl.Store) { s.Kept[1].Tags[1] = "U" }, func(s *impl.Store) { slices.Reverse(s.Trial[0].Tags) })
	if !impl.SameStores(make2(), make2()) {
		t.Error("the same stores are not the same")
	}
	for i, turn := range turns {
		a, b := make2(), make2()
		turn(&b)
		if impl.SameStores(a, b) || impl.SameStores(b, a) {
			t.Errorf("turn %d: they are the same", i)
		}
		turn(&a)
		if !impl.SameStores(a, b) {
			t.Errorf("turn %d: they are not the same", i)
		}
	}
	// Nothing and an empty list are the same, and faults do not tell.
	bare := plain("a")
	empty := impl.Entry{Key: "a", Status: 200, Headers: []impl.Header{}, Body: []byte{}, Tags: []string{}}
	if !impl.SameStores(impl.Store{}, impl.Store{Trial: []impl.Entry{}, Kept: []impl.Entry{}}) || !impl.SameStores(impl.Store{Trial: []impl.Entry{bare}}, impl.Store{Trial: []impl.Entry{empty}, Kept: []impl.Entry{}}) {
		t.Error("nothing and an empty list are not the same")
	}
	for _, wrong := range []impl.Store{{Budget: -1}, {Guard: 5}, {Trial: make([]impl.Entry, 50)}, storeOf(0, 0, "aa", "a"), {Kept: []impl.Entry{{Body: make([]byte, 5000)}}}} {
		if !impl.SameStores(wrong, wrong) || impl.SameStores(wrong, impl.Store{Budget: 7}) {
			t.Errorf("a store with a fault: %s", shownStore(wrong))
		}
	}
}

// storeKeys are more than a store has room for.
var storeKeys = slices.Concat([]string{"a", "b", "A", "a ", "a.com/y?a=1 vary=c", "\x00", "\xff", strings.Repeat("k", 499), strings.Repeat("k", 500)}, manyKeys(40))

// chosenEntry has a fault once in about so many times; never, where that is 0.
func chosenEntry(source *rand.Rand, key string, wrong int) impl.Entry {
	e := impl.Entry{Key: key, Status: []int64{200, 404, 410}[source.Intn(3)], Headers: chosenHeads(source, 3, 0), Meta: chosenMeta(source, 0)}
	e.Body = make([]byte, []int{0, 1, 2, 50, 51, 300}[source.Intn(6)])
	source.Read(e.Body)
	for range source.Intn(3) {
		e.Tags = append(e.Tags, headNames[source.Intn(len(headNames))])
	}
	if source.Intn(3) == 0 {
		e.Pins = source.Int63n(21)
	}
	if wrong > 0 && source.Intn(wrong) == 0 {
		rows := entryRows()
		if source.Intn(2) == 0 {
			rows = slices.Concat(entryFaults()...)
		}
		rows[source.Intn(len(rows))].turn(&e)
	}
	return e
}

// chosenRoom is what is free above a cost: nothing, hardly anything, or some.
func chosenRoom(source *rand.Rand) int64 {
	return []int64{0, 0, 1, 49, 51, 102, 400, 5000}[source.Intn(8)]
}

// chosenStore has a fault once in about so many times; never, where that is 0.
func chosenStore(source *rand.Rand, wrong int) impl.Store {
	var s impl.Store
	count := source.Intn(9)
	if source.Intn(6) == 0 {
		count = 38 + source.Intn(3)
	}
	for i, place := range source.Perm(len(storeKeys))[:count] {
		e := chosenEntry(source, storeKeys[place], 0)
		if i%(2+count/4) == 0 {
			s.Kept = append(s.Kept, e)
		} else {
			s.Trial = append(s.Trial, e)
		}
	}
	s.Guard = costWanted(s.Kept...) + chosenRoom(source)
	s.Budget = max(s.Guard, costWanted(slices.Concat(s.Trial, s.Kept)...)+chosenRoom(source))
	if wrong > 0 && source.Intn(wrong) == 0 {
		faultIn(source, &s)
	}
	return s
}

// faultIn turns a store so that it most likely has a fault.
func faultIn(source *rand.Rand, s *impl.Store) {
	switch source.Intn(6) {
	case 0:
		s.Budget = edgeNumbers[source.Intn(len(edgeNumbers))]
	case 1:
		s.Guard = edgeNumbers[source.Intn(len(edgeNumbers))]
	case 2:
		s.Budget -= 5001
	case 3:
		s.Trial = append(s.Trial, chosenEntry(source, storeKeys[source.Intn(len(storeKeys))], 0))
	case 4:
		s.Kept = append(s.Kept, chosenEntry(source, storeKeys[source.Intn(len(storeKeys))], 1))
	case 5:
		s.Trial = append(s.Trial, manyPlain(30)...)
	}
}

// chosenKey is one that is there most of the time.
func chosenKey(source *rand.Rand, s impl.Store) string {
	all := slices.Concat(s.Trial, s.Kept)
	if len(all) == 0 || source.Intn(4) == 0 {
		return storeKeys[source.Intn(len(storeKeys))]
	}
	return all[source.Intn(len(all))].Key
}

func chosenBy(source *rand.Rand) int64 {
	if source.Intn(8) == 0 {
		return edgeNumbers[source.Intn(len(edgeNumbers))]
	}
	return source.Int63n(45) - 22
}

type storeArguments struct {
	store impl.Store
	key   string
	entry impl.Entry
	by    int64
}

func manyStores(seed int64, count, wrong int) []storeArguments {
	source := rand.New(rand.NewSource(seed))
	list := make([]storeArguments, count)
	for i := range list {
		s := chosenStore(source, wrong)
		list[i] = storeArguments{store: s, key: chosenKey(source, s), entry: chosenEntry(source, chosenKey(source, s), wrong*2), by: chosenBy(source)}
	}
	return list
}

type storeAnswers struct {
	faults            [2]int64
	costs             [2]impl.IntResult
	peek              impl.EntryResult
	touch, pin, drop  impl.StoreResult
	put               impl.PutResult
	made              impl.StoreResult
	same, sameAsDrops bool
}

func askStore(a storeArguments) storeAnswers {
	drop := impl.DropEntry(a.store, a.key)
	return storeAnswers{
		faults: [2]int64{impl.EntryFault(a.entry), impl.StoreFault(a.store)}, costs: [2]impl.IntResult{impl.CostOf(a.entry), impl.CostIn(a.store)},
		peek: impl.PeekEntry(a.store, a.key), touch: impl.TouchEntry(a.store, a.key), pin: impl.PinEntry(a.store, a.key, a.by), drop: drop,
		put: impl.PutEntry(a.store, a.entry), made: impl.NewStore(a.store.Budget, a.store.Guard),
		same: impl.SameStores(a.store, a.store), sameAsDrops: impl.SameStores(a.store, drop.Store),
	}
}

func (a storeAnswers) equals(b storeAnswers) bool {
	return a.faults == b.faults && a.costs == b.costs && samePeek(a.peek, b.peek) && sameStored(a.touch, b.touch) && sameStored(a.pin, b.pin) &&
		sameStored(a.drop, b.drop) && samePut(a.put, b.put) && sameStored(a.made, b.made) && a.same == b.same && a.sameAsDrops == b.sameAsDrops
}

func wantedOf(a storeArguments) storeAnswers {
	w := storeAnswers{
		faults: [2]int64{entryWanted(a.entry), storeFaultWanted(a.store)},
		peek:   peekWanted(a.store, a.key), touch: touchWanted(a.store, a.key), pin: pinWanted(a.store, a.key, a.by), drop: dropEntryWanted(a.store, a.key),
		put: putWanted(a.store, a.entry), same: true,
	}
	w.costs = [2]impl.IntResult{{Code: w.faults[0]}, {Code: w.faults[1]}}
	if w.faults[0] == impl.OK {
		w.costs[0].Value = costWanted(a.entry)
	}
	if w.faults[1] == impl.OK {
		w.costs[1].Value = costWanted(slices.Concat(a.store.Trial, a.store.Kept)...)
	}
	w.made.Store = impl.Store{Budget: a.store.Budget, Guard: a.store.Guard}
	if w.made.Code = storeFaultWanted(w.made.Store); w.made.Code != impl.OK {
		w.made.Store = impl.Store{}
	}
	w.sameAsDrops = sameStore(a.store, w.drop.Store)
	return w
}

func TestManyStores(t *testing.T) {
	puts, gone := map[int64]int{}, map[int]int{}
	for _, a := range manyStores(36, 10000, 5) {
		got, want := askStore(a), wantedOf(a)
		if !got.equals(want) {
			t.Fatalf("%s, %s, %s, %d:\n%+v\nwant\n%+v", shownStore(a.store), shown(a.key), shownEntry(a.entry), a.by, got, want)
		}
		puts[got.put.Code]++
		gone[len(got.put.Gone)]++
	}
	for _, code := range []int64{impl.OK, impl.ErrMany, impl.ErrRange, impl.ErrText, impl.ErrTaken, impl.ErrFull} {
		if puts[code] < 20 {
			t.Errorf("only %d puts told the code %d", puts[code], code)
		}
	}
	for count := range 5 {
		if gone[count] < 20 {
			t.Errorf("only %d puts sent %d away", gone[count], count)
		}
	}
}

// What is done again and again to one store is what the document says, step by step.
func TestManySteps(t *testing.T) {
	source := rand.New(rand.NewSource(37))
	for range 200 {
		s := impl.NewStore([]int64{100, 300, 700, 3000, 1000000}[source.Intn(5)], []int64{0, 51, 100}[source.Intn(3)]).Store
		for range 100 {
			key := storeKeys[source.Intn(7)]
			var got, want impl.StoreResult
			switch source.Intn(5) {
			case 0, 1:
				e := chosenEntry(source, storeKeys[source.Intn(len(storeKeys))], 0)
				put, wanted := impl.PutEntry(s, e), putWanted(s, e)
				if !slices.Equal(put.Gone, wanted.Gone) {
					t.Fatalf("%s and %s: %q went, want %q", shownStore(s), shownEntry(e), put.Gone, wanted.Gone)
				}
				got, want = impl.StoreResult{Code: put.Code, Store: put.Store}, impl.StoreResult{Code: wanted.Code, Store: wanted.Store}
			case 2:
				got, want = impl.TouchEntry(s, key), touchWanted(s, key)
			case 3:
				by := chosenBy(source)
				got, want = impl.PinEntry(s, key, by), pinWanted(s, key, by)
			case 4:
				got, want = impl.DropEntry(s, key), dropEntryWanted(s, key)
			}
			if !sameStored(got, want) {
				t.Fatalf("%s, %s: %d, %s\nwant %d, %s", shownStore(s), shown(key), got.Code, shownStore(got.Store), want.Code, shownStore(want.Store))
			}
			if got.Code == impl.OK {
				s = got.Store
			}
			if code := impl.StoreFault(s); code != impl.OK {
				t.Fatalf("%s has the fault %d", shownStore(s), code)
			}
		}
	}
}

func heldIn(s impl.Store) []impl.Entry {
	return slices.Concat(s.Trial, s.Kept)
}

// Promise 9: what was put is there, all is within its bounds, who went was not pinned, and all others are as they were.
func TestPromise9WhatWasPutIsThere(t *testing.T) {
	put := 0
	for _, a := range manyStores(38, 6000, 0) {
		got := impl.PutEntry(a.store, a.entry)
		if got.Code != impl.OK {
			if got.Code != impl.ErrFull {
				t.Fatalf("PutEntry tells the code %d", got.Code)
			}
			continue
		}
		put++
		if peek := impl.PeekEntry(got.Store, a.entry.Key); !samePeek(peek, impl.EntryResult{Entry: a.entry}) {
			t.Fatalf("%s was put, and %s is there", shownEntry(a.entry), shownEntry(peek.Entry))
		}
		checkWithin(t, got.Store)
		for _, key := range got.Gone {
			was := impl.PeekEntry(a.store, key)
			if was.Code != impl.OK || was.Entry.Pins != 0 || key == a.entry.Key || impl.PeekEntry(got.Store, key).Code != impl.ErrNone {
				t.Fatalf("%s and %s: %s went", shownStore(a.store), shownEntry(a.entry), shown(key))
			}
		}
		for _, e := range heldIn(a.store) {
			if e.Key == a.entry.Key || slices.Contains(got.Gone, e.Key) {
				continue
			}
			if peek := impl.PeekEntry(got.Store, e.Key); !samePeek(peek, impl.EntryResult{Entry: e}) {
				t.Fatalf("%s stayed, and became %s", shownEntry(e), shownEntry(peek.Entry))
			}
		}
		if len(heldIn(got.Store)) != len(heldIn(without(a.store, a.entry.Key)))+1-len(got.Gone) {
			t.Fatalf("%s and %s: %s, and %q went", shownStore(a.store), shownEntry(a.entry), shownStore(got.Store), got.Gone)
		}
	}
	if put < 2000 {
		t.Errorf("only %d were put", put)
	}
}

// checkWithin asks the bounds of a store one by one.
func checkWithin(t *testing.T, s impl.Store) {
	t.Helper()
	if len(heldIn(s)) > 40 || costWanted(heldIn(s)...) > s.Budget || costWanted(s.Kept...) > s.Guard || impl.StoreFault(s) != impl.OK {
		t.Fatalf("%s leaves its bounds", shownStore(s))
	}
}

// Promise 9: nobody goes where there is room, and as few as there can be where there is none.
func TestPromise9NobodyGoesInVain(t *testing.T) {
	for _, a := range manyStores(39, 10000, 0) {
		got := impl.PutEntry(a.store, a.entry)
		if got.Code != impl.OK || len(got.Gone) == 0 {
			continue
		}
		last := impl.PeekEntry(a.store, got.Gone[len(got.Gone)-1]).Entry
		if costWanted(heldIn(got.Store)...)+costWanted(last) <= got.Store.Budget && len(heldIn(got.Store)) < 40 {
			t.Fatalf("%s and %s: %q went, and there was room for the last one", shownStore(a.store), shownEntry(a.entry), got.Gone)
		}
	}
}

// Promise 9: what was touched is as it was, and so is all else: nobody goes, and it stands first.
func TestPromise9WhatWasTouchedIsAsItWas(t *testing.T) {
	for _, a := range manyStores(40, 6000, 0) {
		got := impl.TouchEntry(a.store, a.key)
		if placeOf(heldIn(a.store), a.key) < 0 {
			if !sameStored(got, impl.StoreResult{Code: impl.ErrNone}) {
				t.Fatalf("%s is not there: %+v", shown(a.key), got)
			}
			continue
		}
		checkWithin(t, got.Store)
		if got.Code != impl.OK || len(heldIn(got.Store)) != len(heldIn(a.store)) || impl.CostIn(got.Store) != impl.CostIn(a.store) {
			t.Fatalf("%s, %s: %d, %s", shownStore(a.store), shown(a.key), got.Code, shownStore(got.Store))
		}
		for _, e := range heldIn(a.store) {
			if peek := impl.PeekEntry(got.Store, e.Key); !samePeek(peek, impl.EntryResult{Entry: e}) {
				t.Fatalf("%s became %s", shownEntry(e), shownEntry(peek.Entry))
			}
		}
		first := slices.Concat(got.Store.Kept, got.Store.Trial)[0].Key
		if first != a.key {
			t.Fatalf("%s was touched, and %s stands first", shown(a.key), shown(first))
		}
		if again := impl.TouchEntry(got.Store, a.key); !sameStored(again, got) {
			t.Fatalf("%s, touched again: %s", shownStore(got.Store), shownStore(again.Store))
		}
	}
}

// Promise 9: what was pinned and unpinned is as it was; as long as it is pinned nothing but its pins is another.
func TestPromise9WhatWasPinnedAndUnpinned(t *testing.T) {
	done := 0
	for _, a := range manyStores(41, 20000, 0) {
		on := impl.PinEntry(a.store, a.key, a.by)
		if on.Code != impl.OK {
			continue
		}
		done++
		off := impl.PinEntry(on.Store, a.key, -a.by)
		if !sameStored(off, impl.StoreResult{Store: a.store}) || !impl.SameStores(off.Store, a.store) {
			t.Fatalf("%s, %s pinned and unpinned by %d: %d, %s", shownStore(a.store), shown(a.key), a.by, off.Code, shownStore(off.Store))
		}
		was, is := impl.PeekEntry(a.store, a.key).Entry, impl.PeekEntry(on.Store, a.key).Entry
		if is.Pins != was.Pins+a.by || !sameHeld(pinned(is, was.Pins), was) || impl.SameStores(on.Store, a.store) != (a.by == 0) {
			t.Fatalf("%s, pinned by %d, became %s", shownEntry(was), a.by, shownEntry(is))
		}
		checkWithin(t, on.Store)
	}
	if done < 2000 {
		t.Errorf("only %d were pinned", done)
	}
}

// Promise 9: who is pinned stays, whatever is put but under its own key.
func TestPromise9PinnedStay(t *testing.T) {
	source := rand.New(rand.NewSource(42))
	for range 300 {
		s := chosenStore(source, 0)
		for range 20 {
			got := impl.PutEntry(s, chosenEntry(source, storeKeys[source.Intn(len(storeKeys))], 0))
			if got.Code != impl.OK {
				continue
			}
			for _, e := range heldIn(s) {
				if e.Pins > 0 && e.Key != got.Store.Trial[0].Key && !samePeek(impl.PeekEntry(got.Store, e.Key), impl.EntryResult{Entry: e}) {
					t.Fatalf("%s was pinned and is gone: %s", shownEntry(e), shownStore(got.Store))
				}
			}
			s = got.Store
		}
	}
}

// Promise 9: what was dropped is not there, and all else is as it was.
func TestPromise9WhatWasDropped(t *testing.T) {
	for _, a := range manyStores(43, 5000, 0) {
		got := impl.DropEntry(a.store, a.key)
		if got.Code != impl.OK {
			continue
		}
		checkWithin(t, got.Store)
		if impl.PeekEntry(got.Store, a.key).Code != impl.ErrNone || !sameStore(got.Store, without(a.store, a.key)) {
			t.Fatalf("%s without %s: %s", shownStore(a.store), shown(a.key), shownStore(got.Store))
		}
	}
}

func (a storeAnswers) stores() []impl.StoreResult {
	return []impl.StoreResult{a.touch, a.pin, a.drop, a.made, {Code: a.put.Code, Store: a.put.Store}}
}

// bare: nothing stands beside a code.
func (a storeAnswers) bare() bool {
	for _, told := range a.stores() {
		if told.Code != impl.OK && !sameStore(told.Store, impl.Store{}) {
			return false
		}
	}
	for _, cost := range a.costs {
		if cost.Code != impl.OK && cost.Value != 0 {
			return false
		}
	}
	return (a.peek.Code == impl.OK || sameHeld(a.peek.Entry, impl.Entry{})) && (a.put.Code == impl.OK || len(a.put.Gone) == 0)
}

// Promise 1: asked again in another order the functions of chapter 8 tell the same, and beside a code nothing.
func TestPromise1StoresHangOnArgumentsAlone(t *testing.T) {
	list := manyStores(44, 3000, 3)
	first := make([]storeAnswers, len(list))
	for i, a := range list {
		first[i] = askStore(a)
		if !first[i].bare() {
			t.Errorf("%d: something stands beside a code", i)
		}
	}
	for i, a := range slices.Backward(list) {
		if !askStore(a).equals(first[i]) {
			t.Errorf("%d: asked again it is another answer", i)
		}
	}
}

// roomyList is the list in memory of its own, with more behind it there.
func roomyList[T any](list []T, behind ...T) []T {
	return slices.Concat(list, behind, behind)[:len(list)]
}

// givenEntry is the entry in memory of its own, with something behind each of its lists.
func givenEntry(e impl.Entry) impl.Entry {
	e.Key = strings.Clone(e.Key)
	lines := make([]impl.Header, len(e.Headers))
	for i, line := range e.Headers {
		lines[i] = ownHead(line)
	}
	tags := make([]string, len(e.Tags))
	for i, tag := range e.Tags {
		tags[i] = strings.Clone(tag)
	}
	e.Headers, e.Body, e.Tags = roomyList(lines, head("behind", "kept")), roomyList(e.Body, 'b', 'e', 'h'), roomyList(tags, "behind")
	return e
}

func givenEntries(list []impl.Entry) []impl.Entry {
	own := make([]impl.Entry, len(list))
	for i, e := range list {
		own[i] = givenEntry(e)
	}
	return roomyList(own, givenEntry(fullEntry("behind")))
}

func givenStore(a storeArguments) storeArguments {
	a.store.Trial, a.store.Kept = givenEntries(a.store.Trial), givenEntries(a.store.Kept)
	a.entry, a.key = givenEntry(a.entry), strings.Clone(a.key)
	return a
}

// wholeEntry has all that stands in the memory of its lists in them.
func wholeEntry(e impl.Entry) impl.Entry {
	e.Headers, e.Body, e.Tags = slices.Clone(e.Headers[:cap(e.Headers)]), slices.Clone(e.Body[:cap(e.Body)]), slices.Clone(e.Tags[:cap(e.Tags)])
	return e
}

func wholeEntries(list []impl.Entry) []impl.Entry {
	var whole []impl.Entry
	for _, e := range list[:cap(list)] {
		whole = append(whole, wholeEntry(e))
	}
	return whole
}

func wholeStore(a storeArguments) storeArguments {
	a.store.Trial, a.store.Kept, a.entry = wholeEntries(a.store.Trial), wholeEntries(a.store.Kept), wholeEntry(a.entry)
	return a
}

func sameArguments(a, b storeArguments) bool {
	return sameStore(a.store, b.store) && sameHeld(a.entry, b.entry) && a.key == b.key && a.by == b.by
}

// scribbleEntry writes over all lists of an entry, and behind them.
func scribbleEntry(e impl.Entry) {
	clear(e.Headers[:cap(e.Headers)])
	clear(e.Body[:cap(e.Body)])
	clear(e.Tags[:cap(e.Tags)])
}

func scribbleEntries(list []impl.Entry) {
	for _, e := range list[:cap(list)] {
		scribbleEntry(e)
	}
	clear(list[:cap(list)])
}

func (a storeAnswers) scribble() {
	scribbleEntry(a.peek.Entry)
	for _, told := range a.stores() {
		scribbleEntries(told.Store.Trial)
		scribbleEntries(told.Store.Kept)
	}
	clear(a.put.Gone[:cap(a.put.Gone)])
}

// Promise 1: what came in is left as it was, what stands behind it in memory, too, and no answer shares its memory.
func TestPromise1StoresAreLeftAsTheyWere(t *testing.T) {
	for i, a := range manyStores(45, 3000, 8) {
		given := givenStore(a)
		kept := wholeStore(given)
		answers := askStore(given)
		if !sameArguments(wholeStore(given), kept) {
			t.Fatalf("%d: an argument was changed", i)
		}
		answers.scribble()
		if !sameArguments(wholeStore(given), kept) {
			t.Fatalf("%d: an answer shares its memory with an argument", i)
		}
	}
}

// Promise 1: an answer stays as it is, whatever becomes of what it was made from.
func TestPromise1StoresAreNewMemory(t *testing.T) {
	for i, a := range manyStores(46, 3000, 8) {
		want, given := askStore(a), givenStore(a)
		got := askStore(given)
		scribbleEntries(given.store.Trial)
		scribbleEntries(given.store.Kept)
		scribbleEntry(given.entry)
		if !got.equals(want) {
			t.Fatalf("%d: an answer changed with its arguments", i)
		}
	}
}

// textsIn are all texts of a store and of an entry.
func textsIn(list ...impl.Entry) []string {
	var texts []string
	for _, e := range list {
		texts = append(append(texts, e.Key), e.Tags...)
		for _, line := range e.Headers {
			texts = append(texts, line.Name, line.Value)
		}
	}
	return texts
}

// Promise 1: the texts in what chapter 8 tells are new memory.
func TestPromise1StoreTextsAreNewMemory(t *testing.T) {
	for _, a := range manyStores(47, 300, 0) {
		given := givenStore(a)
		answers := askStore(given)
		told := append(textsIn(answers.peek.Entry), answers.put.Gone...)
		for _, s := range answers.stores() {
			told = append(told, textsIn(heldIn(s.Store)...)...)
		}
		for _, argument := range append(textsIn(append(heldIn(given.store), given.entry)...), given.key) {
			for _, piece := range told {
				if len(piece) > 1 && shareMemory(piece, argument) {
					t.Fatalf("%s shares memory with %s", shown(piece), shown(argument))
				}
			}
		}
	}
}

// Promise 1: no two lists of one answer share memory, even where those of the arguments do.
func TestPromise1ListsOfAStoreAreApart(t *testing.T) {
	lines, body, tags := []impl.Header{head("a", "b")}, []byte("xy"), []string{"t"}
	with := func(key string) impl.Entry {
		return impl.Entry{Key: key, Status: 200, Headers: lines, Body: body, Tags: tags}
	}
	list := []impl.Entry{with("a"), with("b"), with("c"), with("d")}
	s := impl.Store{Budget: 1000, Guard: 500, Trial: list[:2], Kept: list[2:]}
	for i, told := range []impl.StoreResult{
		impl.TouchEntry(s, "b"), impl.TouchEntry(s, "d"), impl.PinEntry(s, "a", 1), impl.PinEntry(s, "d", 0), impl.DropEntry(s, "a"), impl.DropEntry(s, "d"),
		{Store: impl.PutEntry(s, with("e")).Store}, {Store: impl.PutEntry(s, with("c")).Store},
	} {
		want := givenEntries(heldIn(told.Store))
		trial, kept := told.Store.Trial, told.Store.Kept
		if told.Code != impl.OK || len(want) < 3 || len(trial) == 0 || len(kept) == 0 {
			t.Fatalf("answer %d: %d, %s", i, told.Code, shownStore(told.Store))
		}
		_ = append(trial, impl.Entry{})
		for place := range trial {
			scribbleEntry(trial[place])
			for at, e := range heldIn(told.Store)[place+1:] {
				if !sameHeld(e, want[place+1+at]) {
					t.Fatalf("answer %d: the lists of %q share memory with those of %q", i, e.Key, trial[place].Key)
				}
			}
		}
	}
}
