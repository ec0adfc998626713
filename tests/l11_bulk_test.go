package tests

import (
	"math"
	"math/rand"
	"slices"
	"testing"

	"loop.example/g00665/impl"
)

// The signatures and the types as the document tells them.
var (
	_ func(impl.Lanes) int64                                     = impl.LanesFault
	_ func(impl.Bulk, impl.Lanes) int64                          = impl.BulkFault
	_ func(impl.Bulk, impl.Lanes, int64, int64) impl.EnterResult = impl.EnterBulk
	_ func(impl.Bulk, impl.Lanes) impl.LeaveResult               = impl.LeaveBulk
	_ func(impl.Bulk, impl.Lanes, int64) impl.ExpireResult       = impl.ExpireBulk
	_ func(impl.Bulk, impl.Lanes, int64) impl.ExpireResult       = impl.CancelBulk
	_ func(impl.Bulk, impl.Bulk) bool                            = impl.SameBulks

	_ = impl.Lanes{Slots: int64(0), Cap: int64(0), Time: int64(0)}
	_ = impl.Wait{Id: int64(0), Due: int64(0)}
	_ = impl.Bulk{Busy: int64(0), Queue: []impl.Wait{}}
	_ = impl.EnterResult{Code: int64(0), Bulk: impl.Bulk{}, Started: false}
	_ = impl.LeaveResult{Code: int64(0), Bulk: impl.Bulk{}, Next: int64(0)}
	_ = impl.ExpireResult{Code: int64(0), Bulk: impl.Bulk{}, Ids: []int64{}}
)

var plainLanes = impl.Lanes{Slots: 2, Cap: 4, Time: 500}

// waitingAt has an id and the time at which it waits no more, one behind the other.
func waitingAt(numbers ...int64) []impl.Wait {
	var queue []impl.Wait
	for i := 0; i < len(numbers); i += 2 {
		queue = append(queue, impl.Wait{Id: numbers[i], Due: numbers[i+1]})
	}
	return queue
}

func bulkOf(busy int64, numbers ...int64) impl.Bulk {
	return impl.Bulk{Busy: busy, Queue: waitingAt(numbers...)}
}

func sameBulk(a, b impl.Bulk) bool {
	return a.Busy == b.Busy && slices.Equal(a.Queue, b.Queue)
}

func sameEnter(a, b impl.EnterResult) bool {
	return a.Code == b.Code && a.Started == b.Started && sameBulk(a.Bulk, b.Bulk)
}

func sameLeave(a, b impl.LeaveResult) bool {
	return a.Code == b.Code && a.Next == b.Next && sameBulk(a.Bulk, b.Bulk)
}

func sameExpire(a, b impl.ExpireResult) bool {
	return a.Code == b.Code && slices.Equal(a.Ids, b.Ids) && sameBulk(a.Bulk, b.Bulk)
}

func lanesWanted(l impl.Lanes) int64 {
	if within(l.Slots, 1, 8) && within(l.Cap, 0, 8) && within(l.Time, 0, 1000000) {
		return impl.OK
	}
	return impl.ErrRange
}

func bulkWanted(b impl.Bulk, l impl.Lanes) int64 {
	if code := lanesWanted(l); code != impl.OK {
		return code
	}
	if b.Busy < 0 || b.Busy > l.Slots {
		return impl.ErrRange
	}
	if int64(len(b.Queue)) > l.Cap {
		return impl.ErrMany
	}
	times := map[int64]int{}
	for _, w := range b.Queue {
		if !isTime(w.Id) || !isTime(w.Due) {
			return impl.ErrRange
		}
		times[w.Id]++
	}
	if len(times) != len(b.Queue) {
		return impl.ErrTaken
	}
	return impl.OK
}

func placeInQueue(b impl.Bulk, id int64) int {
	return slices.IndexFunc(b.Queue, func(w impl.Wait) bool { return w.Id == id })
}

func enterWanted(b impl.Bulk, l impl.Lanes, id, now int64) impl.EnterResult {
	switch code := bulkWanted(b, l); {
	case code != impl.OK:
		return impl.EnterResult{Code: code}
	case !isTime(id) || !isTime(now):
		return impl.EnterResult{Code: impl.ErrRange}
	case placeInQueue(b, id) >= 0:
		return impl.EnterResult{Code: impl.ErrTaken}
	case b.Busy != l.Slots:
		b.Busy++
		return impl.EnterResult{Bulk: b, Started: true}
	case int64(len(b.Queue)) == l.Cap:
		return impl.EnterResult{Code: impl.ErrFull}
	}
	b.Queue = slices.Concat(b.Queue, waitingAt(id, heldSum(now, l.Time)))
	return impl.EnterResult{Bulk: b}
}

func leaveWanted(b impl.Bulk, l impl.Lanes) impl.LeaveResult {
	switch code := bulkWanted(b, l); {
	case code != impl.OK:
		return impl.LeaveResult{Code: code}
	case b.Busy == 0:
		return impl.LeaveResult{Code: impl.ErrNone}
	case len(b.Queue) == 0:
		return impl.LeaveResult{Bulk: impl.Bulk{Busy: b.Busy - 1}, Next: -1}
	}
	return impl.LeaveResult{Bulk: impl.Bulk{Busy: b.Busy, Queue: b.Queue[1:]}, Next: b.Queue[0].Id}
}

func expireWanted(b impl.Bulk, l impl.Lanes, now int64) impl.ExpireResult {
	if code := bulkWanted(b, l); code != impl.OK {
		return impl.ExpireResult{Code: code}
	}
	if !isTime(now) {
		return impl.ExpireResult{Code: impl.ErrRange}
	}
	told := impl.ExpireResult{Bulk: impl.Bulk{Busy: b.Busy}}
	for _, w := range b.Queue {
		if w.Due > now {
			told.Bulk.Queue = append(told.Bulk.Queue, w)
		} else {
			told.Ids = append(told.Ids, w.Id)
		}
	}
	return told
}

func cancelWanted(b impl.Bulk, l impl.Lanes, id int64) impl.ExpireResult {
	if code := bulkWanted(b, l); code != impl.OK {
		return impl.ExpireResult{Code: code}
	}
	place := placeInQueue(b, id)
	if place < 0 {
		return impl.ExpireResult{Code: impl.ErrNone}
	}
	left := slices.Concat(b.Queue[:place], b.Queue[place+1:])
	return impl.ExpireResult{Bulk: impl.Bulk{Busy: b.Busy, Queue: left}, Ids: []int64{id}}
}

func checkEnter(t *testing.T, what string, b impl.Bulk, l impl.Lanes, id, now int64, want impl.EnterResult) {
	t.Helper()
	if got := impl.EnterBulk(b, l, id, now); !sameEnter(got, want) {
		t.Errorf("%s: EnterBulk(%+v, %+v, %d, %d) = %+v, want %+v", what, b, l, id, now, got, want)
	}
}

func checkLeave(t *testing.T, what string, b impl.Bulk, l impl.Lanes, want impl.LeaveResult) {
	t.Helper()
	if got := impl.LeaveBulk(b, l); !sameLeave(got, want) {
		t.Errorf("%s: LeaveBulk(%+v, %+v) = %+v, want %+v", what, b, l, got, want)
	}
}

func checkExpire(t *testing.T, what string, b impl.Bulk, l impl.Lanes, now int64, want impl.ExpireResult) {
	t.Helper()
	if got := impl.ExpireBulk(b, l, now); !sameExpire(got, want) {
		t.Errorf("%s: ExpireBulk(%+v, %+v, %d) = %+v, want %+v", what, b, l, now, got, want)
	}
}

func checkCancel(t *testing.T, what string, b impl.Bulk, l impl.Lanes, id int64, want impl.ExpireResult) {
	t.Helper()
	if got := impl.CancelBulk(b, l, id); !sameExpire(got, want) {
		t.Errorf("%s: CancelBulk(%+v, %+v, %d) = %+v, want %+v", what, b, l, id, got, want)
	}
}

// checkBulkCode asks all that ask the fault of a bulkhead: it stands ahead of their own codes, and nothing stands beside it.
func checkBulkCode(t *testing.T, what string, b impl.Bulk, l impl.Lanes, want int64) {
	t.Helper()
	if got := impl.BulkFault(b, l); got != want {
		t.Errorf("%s: BulkFault(%+v, %+v) = %d, want %d", what, b, l, got, want)
	}
	if want == impl.OK {
		return
	}
	checkLeave(t, what, b, l, impl.LeaveResult{Code: want})
	for _, n := range []int64{math.MinInt64, -1, 0, 4, 99, impl.MaxTime, impl.MaxTime + 1} {
		checkExpire(t, what, b, l, n, impl.ExpireResult{Code: want})
		checkCancel(t, what, b, l, n, impl.ExpireResult{Code: want})
		checkEnter(t, what, b, l, n, 0, impl.EnterResult{Code: want})
		checkEnter(t, what, b, l, 99, n, impl.EnterResult{Code: want})
	}
}

func codeWhere(right bool, otherwise int64) int64 {
	if right {
		return impl.OK
	}
	return otherwise
}

func TestBulkBounds(t *testing.T) {
	if impl.MaxSlots != 8 || impl.MaxQueue != 8 {
		t.Error("constants")
	}
}

// laneField is a field of lanes, with its bounds.
type laneField struct {
	what        string
	of          func(l *impl.Lanes) *int64
	least, most int64
}

func laneFields() []laneField {
	return []laneField{
		{"Slots", func(l *impl.Lanes) *int64 { return &l.Slots }, 1, 8},
		{"Cap", func(l *impl.Lanes) *int64 { return &l.Cap }, 0, 8},
		{"Time", func(l *impl.Lanes) *int64 { return &l.Time }, 0, 1000000},
	}
}

func TestLanesFault(t *testing.T) {
	for _, l := range []impl.Lanes{plainLanes, {Slots: 1}, {Slots: 8, Cap: 8, Time: 1000000}} {
		if got := impl.LanesFault(l); got != impl.OK {
			t.Errorf("%+v has the code %d", l, got)
		}
	}
	for _, l := range []impl.Lanes{{}, {Slots: -1, Cap: -1, Time: -1}, {Slots: 9, Cap: 9, Time: 1000001}, {Slots: math.MaxInt64, Cap: math.MinInt64}} {
		if got := impl.LanesFault(l); got != impl.ErrRange {
			t.Errorf("%+v has the code %d", l, got)
		}
	}
	for _, field := range laneFields() {
		for _, n := range append([]int64{field.least - 1, field.least, field.least + 1, field.most - 1, field.most, field.most + 1, 256, 257}, edgeNumbers...) {
			l, want := plainLanes, codeWhere(n >= field.least && n <= field.most, impl.ErrRange)
			*field.of(&l) = n
			if got := impl.LanesFault(l); got != want {
				t.Errorf("%s of %d: the code %d, want %d", field.what, n, got, want)
			}
			checkBulkCode(t, field.what, impl.Bulk{}, l, want)
		}
	}
}

func TestBulkFaultBusy(t *testing.T) {
	checkBulkCode(t, "a new one", impl.Bulk{}, plainLanes, impl.OK)
	checkBulkCode(t, "a new one with an empty list", impl.Bulk{Queue: []impl.Wait{}}, plainLanes, impl.OK)
	for slots := int64(1); slots <= 8; slots++ {
		l := impl.Lanes{Slots: slots, Cap: 9 - slots, Time: 7}
		for _, busy := range append([]int64{2, 3, 4, 5, 6, 7, 8, 9, 10, 256}, edgeNumbers...) {
			want := codeWhere(busy >= 0 && busy <= slots, impl.ErrRange)
			checkBulkCode(t, "Busy", impl.Bulk{Busy: busy}, l, want)
			// Somebody may wait though a slot is free, and though nobody is out.
			checkBulkCode(t, "Busy, and one waits", bulkOf(busy, 3, 4), l, want)
		}
	}
}

func TestBulkFaultCounts(t *testing.T) {
	for most := range int64(9) {
		for count := range int64(12) {
			var queue []impl.Wait
			for id := range count {
				queue = append(queue, impl.Wait{Id: id, Due: 5})
			}
			l := impl.Lanes{Slots: 3, Cap: most}
			checkBulkCode(t, "so many wait", impl.Bulk{Busy: 3, Queue: queue}, l, codeWhere(count <= most, impl.ErrMany))
		}
		checkBulkCode(t, "very many wait", impl.Bulk{Queue: make([]impl.Wait, 100000)}, impl.Lanes{Slots: 3, Cap: most}, impl.ErrMany)
	}
}

func TestBulkFaultOfWaits(t *testing.T) {
	for _, n := range append([]int64{impl.MaxTime - 1, impl.MaxTime, impl.MaxTime + 1}, edgeNumbers...) {
		want := codeWhere(isTime(n), impl.ErrRange)
		checkBulkCode(t, "the only Id", bulkOf(2, n, 5), plainLanes, want)
		checkBulkCode(t, "the only Due", bulkOf(2, 5, n), plainLanes, want)
		for place := range 4 {
			ids, dues := bulkOf(1, 11, 5, 12, 4, 13, 9, 14, 5), bulkOf(1, 11, 5, 12, 4, 13, 9, 14, 5)
			ids.Queue[place].Id, dues.Queue[place].Due = n, n
			checkBulkCode(t, "an Id", ids, plainLanes, bulkWanted(ids, plainLanes))
			checkBulkCode(t, "a Due", dues, plainLanes, want)
		}
	}
	checkBulkCode(t, "the least", bulkOf(0, 0, 0), plainLanes, impl.OK)
	checkBulkCode(t, "the greatest", bulkOf(2, impl.MaxTime, impl.MaxTime, impl.MaxTime-1, impl.MaxTime), plainLanes, impl.OK)
	// The order of the ids and of the times does not tell, nor how far off a Due is.
	checkBulkCode(t, "falling", bulkOf(2, 9, 900, 8, 80, 7, 0, 6, impl.MaxTime), plainLanes, impl.OK)
	checkBulkCode(t, "no Time, and a Due", bulkOf(1, 9, 900), impl.Lanes{Slots: 1, Cap: 1}, impl.OK)
}

func TestBulkFaultTaken(t *testing.T) {
	l := impl.Lanes{Slots: 2, Cap: 8, Time: 500}
	for first := range 8 {
		for later := range 8 {
			b := bulkOf(1, 0, 9, 1, 9, 2, 9, 3, 9, 4, 9, 5, 9, 6, 9, impl.MaxTime, 9)
			b.Queue[later].Id = b.Queue[first].Id
			checkBulkCode(t, "two of one Id", b, l, codeWhere(first == later, impl.ErrTaken))
			// That their times are others does not tell.
			b.Queue[later].Due = 10
			checkBulkCode(t, "two of one Id at other times", b, l, codeWhere(first == later, impl.ErrTaken))
			b.Queue[7].Due = -1
			checkBulkCode(t, "two of one Id, and a Due below", b, l, impl.ErrRange)
		}
	}
	checkBulkCode(t, "two alone", bulkOf(0, 7, 1, 7, 1), l, impl.ErrTaken)
	checkBulkCode(t, "three of one", bulkOf(0, 7, 1, 7, 2, 7, 3), l, impl.ErrTaken)
	checkBulkCode(t, "one Due", bulkOf(0, 7, 1, 8, 1), l, impl.OK)
	checkBulkCode(t, "an Id that is a Due", bulkOf(0, 7, 8, 8, 7), l, impl.OK)
}

// faultInBulk gives a bulkhead or its lanes a fault.
type faultInBulk struct {
	what  string
	field string
	turn  func(b *impl.Bulk, l *impl.Lanes)
	want  int64
}

// bulkTurns stand in the order in which they are asked.
func bulkTurns() []faultInBulk {
	return []faultInBulk{
		{"slots below", "slots", func(b *impl.Bulk, l *impl.Lanes) { l.Slots = 0 }, impl.ErrRange},
		{"slots above", "slots", func(b *impl.Bulk, l *impl.Lanes) { l.Slots = 9 }, impl.ErrRange},
		{"cap below", "cap", func(b *impl.Bulk, l *impl.Lanes) { l.Cap = -1 }, impl.ErrRange},
		{"cap above", "cap", func(b *impl.Bulk, l *impl.Lanes) { l.Cap = 9 }, impl.ErrRange},
		{"time below", "time", func(b *impl.Bulk, l *impl.Lanes) { l.Time = -1 }, impl.ErrRange},
		{"time above", "time", func(b *impl.Bulk, l *impl.Lanes) { l.Time = 1000001 }, impl.ErrRange},
		{"busy below", "busy", func(b *impl.Bulk, l *impl.Lanes) { b.Busy = -1 }, impl.ErrRange},
		{"busy above", "busy", func(b *impl.Bulk, l *impl.Lanes) { b.Busy = 3 }, impl.ErrRange},
		{"many", "many", func(b *impl.Bulk, l *impl.Lanes) { b.Queue = append(b.Queue, waitingAt(21, 5, 22, 5)...) }, impl.ErrMany},
		{"id below", "waits", func(b *impl.Bulk, l *impl.Lanes) { b.Queue[0].Id = -1 }, impl.ErrRange},
		{"id above", "waits", func(b *impl.Bulk, l *impl.Lanes) { b.Queue[2].Id = impl.MaxTime + 1 }, impl.ErrRange},
		{"due below", "dues", func(b *impl.Bulk, l *impl.Lanes) { b.Queue[2].Due = -1 }, impl.ErrRange},
		{"due above", "dues", func(b *impl.Bulk, l *impl.Lanes) { b.Queue[0].Due = math.MaxInt64 }, impl.ErrRange},
		{"taken", "waits", func(b *impl.Bulk, l *impl.Lanes) { b.Queue[1].Id = b.Queue[0].Id }, impl.ErrTaken},
	}
}

func TestBulkFaultInOrder(t *testing.T) {
	turns := bulkTurns()
	for first := range turns {
		for later := first; later < len(turns); later++ {
			// Two that turn the same leave only the one that is applied last.
			if later != first && turns[first].field == turns[later].field {
				continue
			}
			b, l := bulkOf(2, 11, 5, 12, 4, 13, 9), plainLanes
			turns[later].turn(&b, &l)
			turns[first].turn(&b, &l)
			checkBulkCode(t, turns[first].what+" ahead of "+turns[later].what, b, l, turns[first].want)
		}
	}
	// An Id and a Due are asked of each that waits ahead of the next, but two of one Id behind all of them.
	checkBulkCode(t, "taken, then a Due above", bulkOf(0, 7, 1, 7, 1, 8, impl.MaxTime+1), plainLanes, impl.ErrRange)
	checkBulkCode(t, "taken, and both wrong", bulkOf(0, -7, 1, -7, 1), plainLanes, impl.ErrRange)
}

// Where the bulkhead is right, Enter asks the id and the time ahead of who waits, and who waits ahead of room.
func TestEnterCodesInOrder(t *testing.T) {
	full := bulkOf(2, 11, 5, 12, 4, 13, 9, impl.MaxTime, 7)
	free := bulkOf(1, 11, 5, 12, 4, 13, 9, impl.MaxTime, 7)
	for _, b := range []impl.Bulk{full, free, bulkOf(2), bulkOf(0), bulkOf(2, 11, 5)} {
		for _, n := range edgeNumbers {
			if isTime(n) {
				checkEnter(t, "an id", b, plainLanes, n, 7, enterWanted(b, plainLanes, n, 7))
				checkEnter(t, "a time", b, plainLanes, 99, n, enterWanted(b, plainLanes, 99, n))
				continue
			}
			for _, other := range []int64{-1, 0, 11, 99, impl.MaxTime, impl.MaxTime + 1} {
				checkEnter(t, "no id", b, plainLanes, n, other, impl.EnterResult{Code: impl.ErrRange})
				checkEnter(t, "no time", b, plainLanes, other, n, impl.EnterResult{Code: impl.ErrRange})
			}
		}
	}
	for _, id := range []int64{11, 12, 13, impl.MaxTime} {
		checkEnter(t, "it waits, and there is no room", full, plainLanes, id, 7, impl.EnterResult{Code: impl.ErrTaken})
		checkEnter(t, "it waits, and a slot is free", free, plainLanes, id, 7, impl.EnterResult{Code: impl.ErrTaken})
		checkEnter(t, "it waits, and there is no time", free, plainLanes, id, -1, impl.EnterResult{Code: impl.ErrRange})
	}
	checkEnter(t, "another, and there is no room", full, plainLanes, 10, 7, impl.EnterResult{Code: impl.ErrFull})
	checkEnter(t, "a Due is no id", full, plainLanes, 5, 7, impl.EnterResult{Code: impl.ErrFull})
}

func TestEnterStarts(t *testing.T) {
	for slots := int64(1); slots <= 8; slots++ {
		for most := range int64(9) {
			l := impl.Lanes{Slots: slots, Cap: most, Time: 500}
			for busy := range slots {
				checkEnter(t, "a slot is free", bulkOf(busy), l, 3, 10, impl.EnterResult{Bulk: bulkOf(busy + 1), Started: true})
			}
		}
	}
	for busy := range int64(2) {
		// Somebody waits, and still who enters is started; who waits stays, even though its time is over.
		checkEnter(t, "one waits", bulkOf(busy, 4, 5), plainLanes, 3, 10, impl.EnterResult{Bulk: bulkOf(busy+1, 4, 5), Started: true})
		checkEnter(t, "as many wait as may", bulkOf(busy, 4, 5, 6, 700, 7, 10, 8, 11), plainLanes, 3, 10, impl.EnterResult{Bulk: bulkOf(busy+1, 4, 5, 6, 700, 7, 10, 8, 11), Started: true})
	}
	checkEnter(t, "the least id", bulkOf(0), plainLanes, 0, 0, impl.EnterResult{Bulk: bulkOf(1), Started: true})
	checkEnter(t, "the greatest id", bulkOf(0), plainLanes, impl.MaxTime, impl.MaxTime, impl.EnterResult{Bulk: bulkOf(1), Started: true})
	checkEnter(t, "nobody may wait, and a slot is free", bulkOf(7), impl.Lanes{Slots: 8}, 3, 10, impl.EnterResult{Bulk: bulkOf(8), Started: true})
}

func TestEnterWaits(t *testing.T) {
	checkEnter(t, "the first one", bulkOf(2), plainLanes, 3, 10, impl.EnterResult{Bulk: bulkOf(2, 3, 510)})
	checkEnter(t, "behind one", bulkOf(2, 9, 505), plainLanes, 3, 10, impl.EnterResult{Bulk: bulkOf(2, 9, 505, 3, 510)})
	checkEnter(t, "behind one who may wait for longer", bulkOf(2, 9, 900), plainLanes, 3, 10, impl.EnterResult{Bulk: bulkOf(2, 9, 900, 3, 510)})
	checkEnter(t, "behind those whose time is over", bulkOf(2, 9, 0, 8, 10, 1, 9), plainLanes, 3, 10, impl.EnterResult{Bulk: bulkOf(2, 9, 0, 8, 10, 1, 9, 3, 510)})
	checkEnter(t, "no time to wait", bulkOf(1), impl.Lanes{Slots: 1, Cap: 1}, 3, 10, impl.EnterResult{Bulk: bulkOf(1, 3, 10)})
	for slots := int64(1); slots <= 8; slots++ {
		for most := range int64(9) {
			l, b := impl.Lanes{Slots: slots, Cap: most, Time: 7}, bulkOf(slots)
			for id := range most {
				want := impl.Bulk{Busy: slots, Queue: slices.Concat(b.Queue, waitingAt(id, 7+2*id))}
				checkEnter(t, "there is room", b, l, id, 2*id, impl.EnterResult{Bulk: want})
				b = want
			}
			checkEnter(t, "the queue is full", b, l, most, 99, impl.EnterResult{Code: impl.ErrFull})
		}
	}
	checkEnter(t, "a Cap of 0", bulkOf(1), impl.Lanes{Slots: 1, Time: 500}, 3, 10, impl.EnterResult{Code: impl.ErrFull})
	checkEnter(t, "those whose time is over take room, too", bulkOf(1, 4, 0), impl.Lanes{Slots: 1, Cap: 1, Time: 500}, 3, 10, impl.EnterResult{Code: impl.ErrFull})
}

func TestEnterDue(t *testing.T) {
	for _, time := range []int64{0, 1, 500, 999999, 1000000} {
		l := impl.Lanes{Slots: 1, Cap: 1, Time: time}
		for _, now := range []int64{0, 1, 499, impl.MaxTime - time - 1, impl.MaxTime - time, impl.MaxTime - time + 1, impl.MaxTime - 1, impl.MaxTime} {
			if isTime(now) {
				checkEnter(t, "a Due", bulkOf(1), l, 3, now, impl.EnterResult{Bulk: bulkOf(1, 3, heldSum(now, time))})
			}
		}
	}
	l := impl.Lanes{Slots: 1, Cap: 1, Time: 1000}
	checkEnter(t, "just the greatest time", bulkOf(1), l, 3, impl.MaxTime-1000, impl.EnterResult{Bulk: bulkOf(1, 3, impl.MaxTime)})
	checkEnter(t, "just above the greatest time", bulkOf(1), l, 3, impl.MaxTime-999, impl.EnterResult{Bulk: bulkOf(1, 3, impl.MaxTime)})
	checkEnter(t, "at the greatest time", bulkOf(1), l, 3, impl.MaxTime, impl.EnterResult{Bulk: bulkOf(1, 3, impl.MaxTime)})
}

func TestLeaveBulk(t *testing.T) {
	checkLeave(t, "nobody is out", bulkOf(0), plainLanes, impl.LeaveResult{Code: impl.ErrNone})
	checkLeave(t, "nobody is out, and one waits", bulkOf(0, 4, 5), plainLanes, impl.LeaveResult{Code: impl.ErrNone})
	for slots := int64(1); slots <= 8; slots++ {
		for busy := int64(1); busy <= slots; busy++ {
			l := impl.Lanes{Slots: slots, Cap: 8, Time: 1}
			checkLeave(t, "nobody waits", bulkOf(busy), l, impl.LeaveResult{Bulk: bulkOf(busy - 1), Next: -1})
			// Who waits goes on though more slots are free.
			checkLeave(t, "one waits", bulkOf(busy, 4, 5), l, impl.LeaveResult{Bulk: bulkOf(busy), Next: 4})
			checkLeave(t, "two wait", bulkOf(busy, 9, 70, 4, 5), l, impl.LeaveResult{Bulk: bulkOf(busy, 4, 5), Next: 9})
			checkLeave(t, "four wait", bulkOf(busy, 4, 5, 3, 0, 9, 9, 0, 2), l, impl.LeaveResult{Bulk: bulkOf(busy, 3, 0, 9, 9, 0, 2), Next: 4})
			checkLeave(t, "as many wait as may", bulkOf(busy, 0, 5, 1, 5, 2, 5, 3, 5, 4, 5, 5, 5, 6, 5, 7, 5), l, impl.LeaveResult{Bulk: bulkOf(busy, 1, 5, 2, 5, 3, 5, 4, 5, 5, 5, 6, 5, 7, 5), Next: 0})
		}
	}
	checkLeave(t, "the greatest id", bulkOf(1, impl.MaxTime, 0), plainLanes, impl.LeaveResult{Bulk: bulkOf(1), Next: impl.MaxTime})
	checkLeave(t, "a Cap of 0", bulkOf(1), impl.Lanes{Slots: 1}, impl.LeaveResult{Bulk: bulkOf(0), Next: -1})
}

func TestExpireBulk(t *testing.T) {
	b := bulkOf(2, 9, 100, 3, 50, 7, 100, 5, 150)
	for _, row := range []struct {
		now  int64
		ids  []int64
		left []impl.Wait
	}{
		{0, nil, b.Queue}, {49, nil, b.Queue},
		{50, []int64{3}, waitingAt(9, 100, 7, 100, 5, 150)}, {51, []int64{3}, waitingAt(9, 100, 7, 100, 5, 150)}, {99, []int64{3}, waitingAt(9, 100, 7, 100, 5, 150)},
		{100, []int64{9, 3, 7}, waitingAt(5, 150)}, {149, []int64{9, 3, 7}, waitingAt(5, 150)},
		{150, []int64{9, 3, 7, 5}, nil}, {151, []int64{9, 3, 7, 5}, nil}, {impl.MaxTime, []int64{9, 3, 7, 5}, nil},
	} {
		checkExpire(t, "four wait", b, plainLanes, row.now, impl.ExpireResult{Bulk: impl.Bulk{Busy: 2, Queue: row.left}, Ids: row.ids})
	}
	for busy := range int64(3) {
		checkExpire(t, "nobody waits", bulkOf(busy), plainLanes, 10, impl.ExpireResult{Bulk: bulkOf(busy)})
		checkExpire(t, "just above now", bulkOf(busy, 4, 11), plainLanes, 10, impl.ExpireResult{Bulk: bulkOf(busy, 4, 11)})
		checkExpire(t, "at now", bulkOf(busy, 4, 10), plainLanes, 10, impl.ExpireResult{Bulk: bulkOf(busy), Ids: []int64{4}})
		checkExpire(t, "below now", bulkOf(busy, 4, 9), plainLanes, 10, impl.ExpireResult{Bulk: bulkOf(busy), Ids: []int64{4}})
		checkExpire(t, "the first", bulkOf(busy, 4, 10, 0, 11, 2, 12), plainLanes, 10, impl.ExpireResult{Bulk: bulkOf(busy, 0, 11, 2, 12), Ids: []int64{4}})
		checkExpire(t, "the one in between", bulkOf(busy, 4, 11, 0, 10, 2, 12), plainLanes, 10, impl.ExpireResult{Bulk: bulkOf(busy, 4, 11, 2, 12), Ids: []int64{0}})
		checkExpire(t, "the last", bulkOf(busy, 4, 11, 0, 12, 2, 10), plainLanes, 10, impl.ExpireResult{Bulk: bulkOf(busy, 4, 11, 0, 12), Ids: []int64{2}})
		checkExpire(t, "the first and the last", bulkOf(busy, 4, 10, 0, 11, 2, 9), plainLanes, 10, impl.ExpireResult{Bulk: bulkOf(busy, 0, 11), Ids: []int64{4, 2}})
		checkExpire(t, "all", bulkOf(busy, 4, 10, 0, 0, 2, 9), plainLanes, 10, impl.ExpireResult{Bulk: bulkOf(busy), Ids: []int64{4, 0, 2}})
		checkExpire(t, "none", bulkOf(busy, 4, 11, 0, impl.MaxTime, 2, 99), plainLanes, 10, impl.ExpireResult{Bulk: bulkOf(busy, 4, 11, 0, impl.MaxTime, 2, 99)})
		for _, n := range edgeNumbers {
			if !isTime(n) {
				checkExpire(t, "no time", bulkOf(busy, 4, 10), plainLanes, n, impl.ExpireResult{Code: impl.ErrRange})
				checkExpire(t, "no time, and nobody waits", bulkOf(busy), plainLanes, n, impl.ExpireResult{Code: impl.ErrRange})
			}
		}
	}
	checkExpire(t, "at the time 0", bulkOf(0, 4, 0, 5, 1), plainLanes, 0, impl.ExpireResult{Bulk: bulkOf(0, 5, 1), Ids: []int64{4}})
	checkExpire(t, "at the greatest time", bulkOf(0, 4, impl.MaxTime), plainLanes, impl.MaxTime, impl.ExpireResult{Bulk: bulkOf(0), Ids: []int64{4}})
	checkExpire(t, "just below the greatest time", bulkOf(0, 4, impl.MaxTime), plainLanes, impl.MaxTime-1, impl.ExpireResult{Bulk: bulkOf(0, 4, impl.MaxTime)})
	// Ids tell nothing of a time.
	checkExpire(t, "small ids, late times", bulkOf(0, 0, 99, 1, 98), plainLanes, 10, impl.ExpireResult{Bulk: bulkOf(0, 0, 99, 1, 98)})
}

func TestCancelBulk(t *testing.T) {
	for busy := range int64(3) {
		b := bulkOf(busy, 9, 100, 3, 50, 0, 100, impl.MaxTime, 150)
		checkCancel(t, "the first", b, plainLanes, 9, impl.ExpireResult{Bulk: bulkOf(busy, 3, 50, 0, 100, impl.MaxTime, 150), Ids: []int64{9}})
		checkCancel(t, "the second", b, plainLanes, 3, impl.ExpireResult{Bulk: bulkOf(busy, 9, 100, 0, 100, impl.MaxTime, 150), Ids: []int64{3}})
		checkCancel(t, "the third", b, plainLanes, 0, impl.ExpireResult{Bulk: bulkOf(busy, 9, 100, 3, 50, impl.MaxTime, 150), Ids: []int64{0}})
		checkCancel(t, "the last", b, plainLanes, impl.MaxTime, impl.ExpireResult{Bulk: bulkOf(busy, 9, 100, 3, 50, 0, 100), Ids: []int64{impl.MaxTime}})
		checkCancel(t, "the only one", bulkOf(busy, 9, 100), plainLanes, 9, impl.ExpireResult{Bulk: bulkOf(busy), Ids: []int64{9}})
		checkCancel(t, "one of two", bulkOf(busy, 9, 100, 8, 100), plainLanes, 8, impl.ExpireResult{Bulk: bulkOf(busy, 9, 100), Ids: []int64{8}})
		none := impl.ExpireResult{Code: impl.ErrNone}
		for _, id := range []int64{1, 2, 50, 100, 150, -1, impl.MaxTime - 1, impl.MaxTime + 1, math.MinInt64, math.MaxInt64} {
			checkCancel(t, "one who does not wait", b, plainLanes, id, none)
			checkCancel(t, "one where nobody waits", bulkOf(busy), plainLanes, id, none)
		}
		checkCancel(t, "0 where nobody waits", bulkOf(busy), plainLanes, 0, none)
	}
}

func TestSameBulks(t *testing.T) {
	made := func() impl.Bulk { return bulkOf(1, 5, 6, 7, 8) }
	turns := []func(b *impl.Bulk){
		func(b *impl.Bulk) { b.Busy++ }, func(b *impl.Bulk) { b.Busy = 0 }, func(b *impl.Bulk) { b.Queue = nil },
		func(b *impl.Bulk) { b.Queue = b.Queue[:1] }, func(b *impl.Bulk) { b.Queue = b.Queue[1:] }, func(b *impl.Bulk) { slices.Reverse(b.Queue) },
		func(b *impl.Bulk) { b.Queue = append(b.Queue, impl.Wait{}) }, func(b *impl.Bulk) { b.Queue = append([]impl.Wait{{}}, b.Queue...) },
		func(b *impl.Bulk) { b.Queue[0].Id++ }, func(b *impl.Bulk) { b.Queue[1].Id-- }, func(b *impl.Bulk) { b.Queue[0].Due-- }, func(b *impl.Bulk) { b.Queue[1].Due++ },
		func(b *impl.Bulk) { b.Queue[0].Id, b.Queue[0].Due = b.Queue[0].Due, b.Queue[0].Id },
	}
	if !impl.SameBulks(made(), made()) {
		t.Error("the same bulkheads are not the same")
	}
	for i, turn := range turns {
		a, b := made(), made()
		turn(&b)
		if impl.SameBulks(a, b) || impl.SameBulks(b, a) {
			t.Errorf("turn %d: they are the same", i)
		}
		turn(&a)
		if !impl.SameBulks(a, b) {
			t.Errorf("turn %d: they are not the same", i)
		}
	}
	if !impl.SameBulks(impl.Bulk{}, impl.Bulk{Queue: []impl.Wait{}}) {
		t.Error("nothing and an empty list are not the same")
	}
	// Faults do not tell.
	for _, wrong := range []impl.Bulk{{Busy: -1}, {Busy: math.MaxInt64}, {Queue: make([]impl.Wait, 500)}, bulkOf(99, 4, 4, 4, 4), bulkOf(0, -1, math.MinInt64)} {
		if !impl.SameBulks(wrong, wrong) || impl.SameBulks(wrong, impl.Bulk{}) {
			t.Errorf("a bulkhead with a fault: %+v", wrong)
		}
	}
}

func chosenLanes(source *rand.Rand) impl.Lanes {
	l := impl.Lanes{Slots: 1 + source.Int63n(3), Cap: source.Int63n(5), Time: source.Int63n(9)}
	switch source.Intn(8) {
	case 0:
		l.Slots, l.Cap = 8, 8
	case 1:
		l.Time = 1000000
	}
	return l
}

// chosenBulk has no fault; its ids and times stand near each other.
func chosenBulk(source *rand.Rand, l impl.Lanes) impl.Bulk {
	b := impl.Bulk{Busy: source.Int63n(l.Slots + 1)}
	if source.Intn(2) == 0 {
		b.Busy = l.Slots
	}
	from, base := []int64{0, 0, impl.MaxTime - 11}[source.Intn(3)], []int64{0, 20, impl.MaxTime - 11}[source.Intn(3)]
	for _, id := range source.Perm(12)[:source.Int63n(l.Cap+1)] {
		b.Queue = append(b.Queue, impl.Wait{Id: from + int64(id), Due: base + source.Int63n(12)})
	}
	return b
}

// turnBulkWrongly gives a bulkhead or its lanes what is most likely a fault.
func turnBulkWrongly(source *rand.Rand, b *impl.Bulk, l *impl.Lanes) {
	n := edgeNumbers[source.Intn(len(edgeNumbers))]
	if len(b.Queue) == 0 {
		b.Queue = append(b.Queue, impl.Wait{Id: 3, Due: 4})
	}
	place := source.Intn(len(b.Queue))
	switch source.Intn(6) {
	case 0:
		*laneFields()[source.Intn(3)].of(l) = n
	case 1:
		b.Busy = []int64{n, l.Slots + 1, -1}[source.Intn(3)]
	case 2:
		b.Queue = append(b.Queue, waitingAt(31, 5, 32, 5, 33, 5)...)
	case 3:
		b.Queue[place].Id = n
	case 4:
		b.Queue[place].Due = n
	case 5:
		b.Queue[place].Id = b.Queue[source.Intn(len(b.Queue))].Id
	}
}

// bulkArguments stand for a call of each function of chapter 11.
type bulkArguments struct {
	bulk, other impl.Bulk
	lanes       impl.Lanes
	id, now     int64
}

// manyBulks have a fault one time in so many (none, where that is 0).
func manyBulks(seed int64, count, wrong int) []bulkArguments {
	source := rand.New(rand.NewSource(seed))
	list := make([]bulkArguments, count)
	for i := range list {
		a := bulkArguments{lanes: chosenLanes(source)}
		a.bulk = chosenBulk(source, a.lanes)
		a.other = []impl.Bulk{a.bulk, chosenBulk(source, a.lanes)}[source.Intn(2)]
		if wrong > 0 && source.Intn(wrong) == 0 {
			turnBulkWrongly(source, &a.bulk, &a.lanes)
		}
		a.id, a.now = source.Int63n(14), source.Int63n(35)
		if len(a.bulk.Queue) > 0 && source.Intn(2) == 0 {
			w := a.bulk.Queue[source.Intn(len(a.bulk.Queue))]
			a.id, a.now = w.Id, w.Due
		}
		if wrong > 0 && source.Intn(3*wrong) == 0 {
			a.id = edgeNumbers[source.Intn(len(edgeNumbers))]
		}
		if wrong > 0 && source.Intn(3*wrong) == 0 {
			a.now = edgeNumbers[source.Intn(len(edgeNumbers))]
		}
		list[i] = a
	}
	return list
}

type bulkAnswers struct {
	faults         [2]int64
	enter          impl.EnterResult
	leave          impl.LeaveResult
	expire, cancel impl.ExpireResult
	same           bool
}

func askBulk(a bulkArguments) bulkAnswers {
	return bulkAnswers{
		faults: [2]int64{impl.LanesFault(a.lanes), impl.BulkFault(a.bulk, a.lanes)}, enter: impl.EnterBulk(a.bulk, a.lanes, a.id, a.now), leave: impl.LeaveBulk(a.bulk, a.lanes),
		expire: impl.ExpireBulk(a.bulk, a.lanes, a.now), cancel: impl.CancelBulk(a.bulk, a.lanes, a.id), same: impl.SameBulks(a.bulk, a.other),
	}
}

func bulksWanted(a bulkArguments) bulkAnswers {
	return bulkAnswers{
		faults: [2]int64{lanesWanted(a.lanes), bulkWanted(a.bulk, a.lanes)}, enter: enterWanted(a.bulk, a.lanes, a.id, a.now), leave: leaveWanted(a.bulk, a.lanes),
		expire: expireWanted(a.bulk, a.lanes, a.now), cancel: cancelWanted(a.bulk, a.lanes, a.id), same: sameBulk(a.bulk, a.other),
	}
}

func (a bulkAnswers) equals(b bulkAnswers) bool {
	return a.faults == b.faults && sameEnter(a.enter, b.enter) && sameLeave(a.leave, b.leave) && sameExpire(a.expire, b.expire) && sameExpire(a.cancel, b.cancel) && a.same == b.same
}

func TestManyBulks(t *testing.T) {
	codes, turns := map[string]map[int64]int{"enter": {}, "leave": {}, "expire": {}, "cancel": {}}, map[string]int{}
	for i, a := range manyBulks(66, 60000, 3) {
		got, want := askBulk(a), bulksWanted(a)
		if !got.equals(want) {
			t.Fatalf("%d: %+v:\n%+v\nwant\n%+v", i, a, got, want)
		}
		codes["enter"][got.enter.Code]++
		codes["leave"][got.leave.Code]++
		codes["expire"][got.expire.Code]++
		codes["cancel"][got.cancel.Code]++
		switch {
		case got.enter.Code == impl.OK && got.enter.Started && len(a.bulk.Queue) > 0:
			turns["started though somebody waits"]++
		case got.enter.Code == impl.OK && !got.enter.Started:
			turns["waits"]++
		}
		if n := len(got.expire.Ids); n > 1 && len(got.expire.Bulk.Queue) > 1 {
			turns["some are over"]++
		}
		if got.leave.Next > 0 {
			turns["the next one goes on"]++
		}
	}
	for what, wanted := range map[string][]int64{
		"enter": {impl.OK, impl.ErrMany, impl.ErrRange, impl.ErrTaken, impl.ErrFull}, "leave": {impl.OK, impl.ErrMany, impl.ErrRange, impl.ErrTaken, impl.ErrNone},
		"expire": {impl.OK, impl.ErrMany, impl.ErrRange, impl.ErrTaken}, "cancel": {impl.OK, impl.ErrMany, impl.ErrRange, impl.ErrTaken, impl.ErrNone},
	} {
		for _, code := range wanted {
			if codes[what][code] < 100 {
				t.Errorf("only %d times %s told the code %d", codes[what][code], what, code)
			}
		}
	}
	for _, turn := range []string{"started though somebody waits", "waits", "some are over", "the next one goes on"} {
		if turns[turn] < 100 {
			t.Errorf("only %d times: %s", turns[turn], turn)
		}
	}
}

// doneInBulk is one step of somebody who stands at a bulkhead.
type doneInBulk struct {
	kind    int
	id, now int64
}

// chosenSteps go on in time; ids come again now and then.
func chosenSteps(source *rand.Rand, count int) []doneInBulk {
	list, now := make([]doneInBulk, count), []int64{0, 0, impl.MaxTime - 60}[source.Intn(3)]
	for i := range list {
		now = min(now+source.Int63n(3), impl.MaxTime)
		list[i] = doneInBulk{kind: []int{0, 0, 0, 1, 1, 2, 3}[source.Intn(7)], id: source.Int63n(10), now: now}
	}
	return list
}

// stepBulk tells what a step leaves (all as it was, where there is a code), who went on to a slot, and who waits no more.
func stepBulk(b impl.Bulk, l impl.Lanes, step doneInBulk) (left impl.Bulk, code int64, next int64, gone []int64) {
	next = -1
	switch step.kind {
	case 0:
		told := impl.EnterBulk(b, l, step.id, step.now)
		left, code = told.Bulk, told.Code
	case 1:
		told := impl.LeaveBulk(b, l)
		left, code, next = told.Bulk, told.Code, told.Next
	case 2:
		told := impl.ExpireBulk(b, l, step.now)
		left, code, gone = told.Bulk, told.Code, told.Ids
	case 3:
		told := impl.CancelBulk(b, l, step.id)
		left, code, gone = told.Bulk, told.Code, told.Ids
	}
	if code != impl.OK {
		return b, code, -1, nil
	}
	return left, code, next, gone
}

// Promise 12: no more are out than there are slots, whatever is done, and a bulkhead without a fault stays one.
func TestPromise12NoMoreOutThanSlots(t *testing.T) {
	source := rand.New(rand.NewSource(67))
	full := 0
	for range 3000 {
		l, b, out := chosenLanes(source), impl.Bulk{}, int64(0)
		for _, step := range chosenSteps(source, 60) {
			left, code, next, _ := stepBulk(b, l, step)
			switch {
			case code == impl.OK && step.kind == 0 && left.Busy > b.Busy:
				out++
			case code == impl.OK && step.kind == 1 && next < 0:
				out--
			}
			if left.Busy != out || out < 0 || out > l.Slots || int64(len(left.Queue)) > l.Cap || impl.BulkFault(left, l) != impl.OK {
				t.Fatalf("%+v of %+v leaves %+v of %+v, and %d are out", step, b, left, l, out)
			}
			if code == impl.ErrFull {
				full++
				if out != l.Slots || int64(len(b.Queue)) != l.Cap {
					t.Fatalf("%+v: there is room in %+v of %+v", step, b, l)
				}
			}
			b = left
		}
	}
	if full < 3000 {
		t.Errorf("only %d times there was no room", full)
	}
}

// Promise 12: who waits goes in turn: told from the order in which they came alone.
func TestPromise12WhoWaitsGoesInTurn(t *testing.T) {
	source := rand.New(rand.NewSource(68))
	went := 0
	for range 3000 {
		l, b := chosenLanes(source), impl.Bulk{}
		var line []int64
		for _, step := range chosenSteps(source, 60) {
			left, code, next, gone := stepBulk(b, l, step)
			if code == impl.OK && step.kind == 0 && left.Busy == b.Busy {
				line = append(line, step.id)
			}
			if next >= 0 {
				if len(line) == 0 || next != line[0] {
					t.Fatalf("%d goes on, and %v wait", next, line)
				}
				line, went = line[1:], went+1
			}
			for _, id := range gone {
				place := slices.Index(line, id)
				if place < 0 {
					t.Fatalf("%d does not wait in %v", id, line)
				}
				line = slices.Delete(line, place, place+1)
			}
			ids := []int64{}
			for _, w := range left.Queue {
				ids = append(ids, w.Id)
			}
			if !slices.Equal(ids, line) {
				t.Fatalf("%+v of %+v leaves %+v, and %v should wait", step, b, left, line)
			}
			b = left
		}
	}
	if went < 3000 {
		t.Errorf("only %d went on", went)
	}
}

// Promise 12: who has waited for Time goes, and nobody goes ahead of that who is not called off and not served.
func TestPromise12WhoHasWaitedLongEnoughGoes(t *testing.T) {
	source := rand.New(rand.NewSource(69))
	over, still := 0, 0
	for range 3000 {
		l, b, since := chosenLanes(source), impl.Bulk{}, map[int64]int64{}
		for _, step := range chosenSteps(source, 60) {
			left, code, _, gone := stepBulk(b, l, step)
			if code == impl.OK && step.kind == 0 {
				since[step.id] = step.now
			}
			if code == impl.OK && step.kind == 2 {
				for _, id := range gone {
					if step.now-since[id] < l.Time && step.now < impl.MaxTime {
						t.Fatalf("%d goes from %+v at %d, and came at %d", id, b, step.now, since[id])
					}
				}
				for _, w := range left.Queue {
					if step.now-since[w.Id] >= l.Time {
						t.Fatalf("%d stays in %+v at %d, and came at %d", w.Id, left, step.now, since[w.Id])
					}
				}
				if len(gone)+len(left.Queue) != len(b.Queue) || left.Busy != b.Busy {
					t.Fatalf("%+v at %d leaves %+v, and %v go", b, step.now, left, gone)
				}
				over, still = over+len(gone), still+len(left.Queue)
			}
			b = left
		}
	}
	if over < 3000 || still < 3000 {
		t.Errorf("only %d were over, and %d waited on", over, still)
	}
}

// Promise 12: who is called off, and who was told to be over, can be called off no more, and may come again.
func TestPromise12WhoIsGoneIsGone(t *testing.T) {
	gone := 0
	for i, a := range manyBulks(70, 20000, 0) {
		for _, told := range []impl.ExpireResult{impl.CancelBulk(a.bulk, a.lanes, a.id), impl.ExpireBulk(a.bulk, a.lanes, a.now)} {
			for _, id := range told.Ids {
				again := impl.CancelBulk(told.Bulk, a.lanes, id)
				enter := impl.EnterBulk(told.Bulk, a.lanes, id, a.now)
				if again.Code != impl.ErrNone || enter.Code != impl.OK || enter.Started != (a.bulk.Busy < a.lanes.Slots) {
					t.Fatalf("%d: %d is gone from %+v, and %+v, %+v", i, id, a.bulk, again, enter)
				}
				gone++
			}
		}
		if again := impl.ExpireBulk(impl.ExpireBulk(a.bulk, a.lanes, a.now).Bulk, a.lanes, a.now); again.Code != impl.OK || len(again.Ids) != 0 {
			t.Fatalf("%d: %v are over twice", i, again.Ids)
		}
	}
	if gone < 5000 {
		t.Errorf("only %d are gone", gone)
	}
}

// bare: nothing stands beside a code.
func (a bulkAnswers) bare() bool {
	return (a.enter.Code == impl.OK || sameEnter(a.enter, impl.EnterResult{Code: a.enter.Code})) && (a.leave.Code == impl.OK || sameLeave(a.leave, impl.LeaveResult{Code: a.leave.Code})) &&
		(a.expire.Code == impl.OK || sameExpire(a.expire, impl.ExpireResult{Code: a.expire.Code})) && (a.cancel.Code == impl.OK || sameExpire(a.cancel, impl.ExpireResult{Code: a.cancel.Code}))
}

// givenBulk is in memory of its own, with something behind each of its lists.
func givenBulk(a bulkArguments) bulkArguments {
	a.bulk.Queue, a.other.Queue = roomyList(a.bulk.Queue, waitingAt(77, 78, 79, 80)...), roomyList(a.other.Queue, waitingAt(77, 78)...)
	return a
}

// wholeBulk has all that stands in the memory of its lists in them.
func wholeBulk(a bulkArguments) bulkArguments {
	a.bulk.Queue, a.other.Queue = slices.Clone(a.bulk.Queue[:cap(a.bulk.Queue)]), slices.Clone(a.other.Queue[:cap(a.other.Queue)])
	return a
}

func sameBulkArguments(a, b bulkArguments) bool {
	return sameBulk(a.bulk, b.bulk) && sameBulk(a.other, b.other) && a.lanes == b.lanes && a.id == b.id && a.now == b.now
}

func (a bulkAnswers) scribble() {
	for _, queue := range [][]impl.Wait{a.enter.Bulk.Queue, a.leave.Bulk.Queue, a.expire.Bulk.Queue, a.cancel.Bulk.Queue} {
		overwrite(queue, impl.Wait{Id: -9, Due: -9})
	}
	overwrite(a.expire.Ids, -9)
	overwrite(a.cancel.Ids, -9)
}

func spoilBulk(a bulkArguments) {
	overwrite(a.bulk.Queue, impl.Wait{Id: -9, Due: -9})
	overwrite(a.other.Queue, impl.Wait{Id: -9, Due: -9})
}

var chapter11 = chapter[bulkArguments, bulkAnswers]{
	ask: askBulk, equal: bulkAnswers.equals, bare: bulkAnswers.bare, given: givenBulk, whole: wholeBulk, same: sameBulkArguments, spoil: spoilBulk, scribble: bulkAnswers.scribble,
}

func TestPromise1BulksHangOnArgumentsAlone(t *testing.T) {
	chapter11.hangsOnArguments(t, manyBulks(71, 5000, 3))
	// An empty list and none are the same.
	for i, a := range manyBulks(72, 5000, 3) {
		if len(a.bulk.Queue) == 0 {
			first := askBulk(a)
			a.bulk.Queue = []impl.Wait{}
			if !askBulk(a).equals(first) {
				t.Errorf("%d: with an empty list it is another answer", i)
			}
		}
	}
}

func TestPromise1BulksAreLeftAsTheyWere(t *testing.T) {
	chapter11.leavesArguments(t, manyBulks(73, 10000, 8))
}

func TestPromise1BulksAreNewMemory(t *testing.T) {
	chapter11.tellsNewMemory(t, manyBulks(74, 10000, 8))
}

// Promise 1: no two lists of one answer share memory.
func TestPromise1ListsOfBulksAreApart(t *testing.T) {
	for i, a := range manyBulks(75, 10000, 0) {
		for _, told := range []impl.ExpireResult{impl.ExpireBulk(a.bulk, a.lanes, a.now), impl.CancelBulk(a.bulk, a.lanes, a.id)} {
			ids := slices.Clone(told.Ids)
			overwrite(told.Bulk.Queue, impl.Wait{Id: -9, Due: -9})
			if !slices.Equal(told.Ids, ids) {
				t.Fatalf("%d: the lists of an answer share memory", i)
			}
		}
	}
}
