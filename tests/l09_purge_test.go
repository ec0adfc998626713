package tests

import (
	"fmt"
	"math"
	"math/rand"
	"slices"
	"strings"
	"testing"

	"loop.example/g00665/impl"
)

// The signatures and the types as the document tells them.
var (
	_ func(impl.Store, string) impl.NamesResult       = impl.KeysTagged
	_ func(impl.Store, string, bool) impl.PurgeResult = impl.PurgeKey
	_ func(impl.Store, string, bool) impl.PurgeResult = impl.PurgeTag
	_ func(impl.Store, bool) impl.PurgeResult         = impl.PurgeAll

	_ = impl.PurgeResult{Code: int64(0), Store: impl.Store{}, Keys: []string{}}
)

var hardOrSoft = []bool{true, false}

func tagged(e impl.Entry, tags ...string) impl.Entry {
	e.Tags = tags
	return e
}

func soft(e impl.Entry) impl.Entry {
	e.Meta.Soft = true
	return e
}

func samePurge(a, b impl.PurgeResult) bool {
	return a.Code == b.Code && sameStore(a.Store, b.Store) && slices.Equal(a.Keys, b.Keys)
}

func shownPurge(p impl.PurgeResult) string {
	text := fmt.Sprintf("code %d keys %q %s soft", p.Code, p.Keys, shownStore(p.Store))
	for _, e := range heldIn(p.Store) {
		if e.Meta.Soft {
			text += " " + shown(e.Key)
		}
	}
	return text
}

// purgeWanted is what the document says of a purge of those that are meant.
func purgeWanted(s impl.Store, hard bool, meant func(e impl.Entry) bool) impl.PurgeResult {
	if code := storeFaultWanted(s); code != impl.OK {
		return impl.PurgeResult{Code: code}
	}
	want := impl.PurgeResult{Store: impl.Store{Budget: s.Budget, Guard: s.Guard}}
	want.Store.Trial, want.Keys = purgedList(s.Trial, hard, meant, want.Keys)
	want.Store.Kept, want.Keys = purgedList(s.Kept, hard, meant, want.Keys)
	return want
}

func purgedList(list []impl.Entry, hard bool, meant func(e impl.Entry) bool, keys []string) ([]impl.Entry, []string) {
	var behind []impl.Entry
	for _, e := range list {
		switch {
		case !meant(e):
			behind = append(behind, e)
			continue
		case !hard:
			behind = append(behind, soft(e))
		}
		keys = append(keys, e.Key)
	}
	return behind, keys
}

func withKey(key string) func(e impl.Entry) bool {
	return func(e impl.Entry) bool { return e.Key == key }
}

func withTag(tag string) func(e impl.Entry) bool {
	return func(e impl.Entry) bool {
		for _, t := range e.Tags {
			if t == tag {
				return true
			}
		}
		return false
	}
}

func withAny(impl.Entry) bool {
	return true
}

func taggedWanted(s impl.Store, tag string) impl.NamesResult {
	told := purgeWanted(s, true, withTag(tag))
	return impl.NamesResult{Code: told.Code, Names: told.Keys}
}

// purgeArguments stand for a call of each function of chapter 9.
type purgeArguments struct {
	store    impl.Store
	key, tag string
}

// purgeAnswers: the key, the tag and all, each hard ahead of soft.
type purgeAnswers struct {
	tagged impl.NamesResult
	purges [6]impl.PurgeResult
}

func askPurge(a purgeArguments) purgeAnswers {
	return purgeAnswers{tagged: impl.KeysTagged(a.store, a.tag), purges: [6]impl.PurgeResult{
		impl.PurgeKey(a.store, a.key, true), impl.PurgeKey(a.store, a.key, false),
		impl.PurgeTag(a.store, a.tag, true), impl.PurgeTag(a.store, a.tag, false),
		impl.PurgeAll(a.store, true), impl.PurgeAll(a.store, false),
	}}
}

func purgesWanted(a purgeArguments) purgeAnswers {
	w := purgeAnswers{tagged: taggedWanted(a.store, a.tag)}
	for i, meant := range []func(e impl.Entry) bool{withKey(a.key), withTag(a.tag), withAny} {
		w.purges[2*i], w.purges[2*i+1] = purgeWanted(a.store, true, meant), purgeWanted(a.store, false, meant)
	}
	return w
}

func (a purgeAnswers) equals(b purgeAnswers) bool {
	for i := range a.purges {
		if !samePurge(a.purges[i], b.purges[i]) {
			return false
		}
	}
	return sameNames(a.tagged, b.tagged)
}

func (a purgeAnswers) String() string {
	text := fmt.Sprintf("%+v", a.tagged)
	for _, p := range a.purges {
		text += "\n" + shownPurge(p)
	}
	return text
}

func checkPurges(t *testing.T, what string, a purgeArguments) {
	t.Helper()
	if got, want := askPurge(a), purgesWanted(a); !got.equals(want) {
		t.Errorf("%s: %s, key %s, tag %s:\n%s\nwant\n%s", what, shownStore(a.store), shown(a.key), shown(a.tag), got, want)
	}
}

// checkPurged holds a purge against letters: who is there behind it, who of them is Soft, and whose Keys are told.
func checkPurged(t *testing.T, what string, got impl.PurgeResult, before impl.Store, trial, kept, softOnes, keys string) {
	t.Helper()
	checkLists(t, what, impl.StoreResult{Code: got.Code, Store: got.Store}, before, trial, kept)
	softs := ""
	for _, e := range heldIn(got.Store) {
		if e.Meta.Soft {
			softs += e.Key
		}
	}
	if softs != softOnes || strings.Join(got.Keys, " ") != strings.Join(strings.Split(keys, ""), " ") {
		t.Errorf("%s: %q are Soft and %q told, want %q and %q", what, softs, got.Keys, softOnes, keys)
	}
}

// letterTags is a store whose entries of one letter have these tags, by letter.
func letterTags(trial, kept string, tags map[string][]string) impl.Store {
	s := storeOf(1000, 500, trial, kept)
	for _, list := range [][]impl.Entry{s.Trial, s.Kept} {
		for i := range list {
			list[i].Tags = tags[list[i].Key]
		}
	}
	return s
}

func TestKeysTagged(t *testing.T) {
	s := letterTags("dab", "fec", map[string][]string{
		"a": {"x"}, "b": {"y", "x"}, "c": {"x", "x"}, "d": {"X", "xx", "x "}, "e": {"", "y"}, "f": {"z", "y", "x", "w"},
	})
	for _, row := range []struct {
		tag  string
		want string
	}{
		{"x", "abfc"}, {"y", "bfe"}, {"z", "f"}, {"w", "f"}, {"", "e"},
		// To the byte: neither other letters, nor a part, nor more.
		{"X", "d"}, {"xx", "d"}, {"x ", "d"}, {" x", ""}, {"Y", ""}, {"xy", ""}, {"x y", ""}, {"y x", ""}, {"q", ""}, {"x\x00", ""}, {" ", ""},
		// A Key is no tag.
		{"a", ""}, {"f", ""}, {strings.Repeat("x", 5000), ""},
	} {
		want := impl.NamesResult{}
		for _, letter := range row.want {
			want.Names = append(want.Names, string(letter))
		}
		if got := impl.KeysTagged(s, row.tag); !sameNames(got, want) {
			t.Errorf("KeysTagged of %s = %+v, want %q", shown(row.tag), got, row.want)
		}
	}
	long := strings.Repeat("\xff", 5000)
	s.Trial[1].Tags, s.Kept[0].Tags = slices.Concat(make([]string, 9), []string{long}), []string{long + "x", long[1:]}
	if got := impl.KeysTagged(s, long); !sameNames(got, impl.NamesResult{Names: []string{"a"}}) {
		t.Errorf("KeysTagged of a long tag = %+v", got)
	}
	if got := impl.KeysTagged(s, ""); !sameNames(got, impl.NamesResult{Names: []string{"a", "e"}}) {
		t.Errorf("KeysTagged of an empty tag = %+v", got)
	}
}

func TestPurgeKey(t *testing.T) {
	s := storeOf(1000, 500, "abc", "def")
	for _, row := range [][3]string{{"a", "bc", "def"}, {"b", "ac", "def"}, {"c", "ab", "def"}, {"d", "abc", "ef"}, {"e", "abc", "df"}, {"f", "abc", "de"}} {
		checkPurged(t, "hard, "+row[0], impl.PurgeKey(s, row[0], true), s, row[1], row[2], "", row[0])
		checkPurged(t, "soft, "+row[0], impl.PurgeKey(s, row[0], false), s, "abc", "def", row[0], row[0])
	}
	// Where there is none, that is no fault: nothing is purged.
	for _, key := range []string{"", "g", "A", "ab", "a ", " a", "a\x00", strings.Repeat("a", 500), strings.Repeat("a", 501), strings.Repeat("k", 100000)} {
		for _, hard := range hardOrSoft {
			if got := impl.PurgeKey(s, key, hard); !samePurge(got, impl.PurgeResult{Store: s}) {
				t.Errorf("PurgeKey of %s, %t: %s", shown(key), hard, shownPurge(got))
			}
		}
	}
	// A tag is no Key.
	tags := letterTags("a", "b", map[string][]string{"a": {"b"}, "b": {"c"}})
	checkPurged(t, "a Key that is a tag, hard", impl.PurgeKey(tags, "b", true), tags, "a", "", "", "b")
	checkPurged(t, "a Key that is a tag, soft", impl.PurgeKey(tags, "b", false), tags, "a", "b", "b", "b")
	checkPurged(t, "a tag alone", impl.PurgeKey(tags, "c", true), tags, "a", "b", "", "")
	for _, key := range []string{strings.Repeat("k", 499), strings.Repeat("k", 500), "a.com/y?a=1 vary=c", "\x00", "\xff"} {
		full := impl.Store{Budget: 5000, Guard: 5000, Trial: []impl.Entry{plain("k")}, Kept: []impl.Entry{fullEntry(key), fullEntry(key[1:] + "z")}}
		checkPurges(t, "a Key of any bytes", purgeArguments{full, key, "t"})
	}
}

func TestPurgeTag(t *testing.T) {
	s := letterTags("dab", "fec", map[string][]string{"a": {"x"}, "b": {"y", "x"}, "c": {"x", "x"}, "d": {"X"}, "e": {"", "y"}, "f": {"z", "x"}})
	checkPurged(t, "several, hard", impl.PurgeTag(s, "x", true), s, "d", "e", "", "abfc")
	checkPurged(t, "several, soft", impl.PurgeTag(s, "x", false), s, "dab", "fec", "abfc", "abfc")
	checkPurged(t, "one of each list, hard", impl.PurgeTag(s, "y", true), s, "da", "fc", "", "be")
	checkPurged(t, "one of each list, soft", impl.PurgeTag(s, "y", false), s, "dab", "fec", "be", "be")
	checkPurged(t, "one, hard", impl.PurgeTag(s, "z", true), s, "dab", "ec", "", "f")
	checkPurged(t, "one, soft", impl.PurgeTag(s, "z", false), s, "dab", "fec", "f", "f")
	checkPurged(t, "an empty tag, hard", impl.PurgeTag(s, "", true), s, "dab", "fc", "", "e")
	checkPurged(t, "an empty tag, soft", impl.PurgeTag(s, "", false), s, "dab", "fec", "e", "e")
	for _, hard := range hardOrSoft {
		for _, tag := range []string{"q", "a", "Y", "x ", "xy", "y x", strings.Repeat("x", 100000)} {
			if got := impl.PurgeTag(s, tag, hard); !samePurge(got, impl.PurgeResult{Store: s}) {
				t.Errorf("PurgeTag of %s, %t: %s", shown(tag), hard, shownPurge(got))
			}
		}
	}
	// All of one list, and none of the other.
	s = letterTags("abc", "def", map[string][]string{"a": {"t"}, "b": {"t"}, "c": {"t"}, "d": {"k"}, "e": {"k"}, "f": {"k"}})
	checkPurged(t, "all of Trial, hard", impl.PurgeTag(s, "t", true), s, "", "def", "", "abc")
	checkPurged(t, "all of Trial, soft", impl.PurgeTag(s, "t", false), s, "abc", "def", "abc", "abc")
	checkPurged(t, "all of Kept, hard", impl.PurgeTag(s, "k", true), s, "abc", "", "", "def")
	checkPurged(t, "all of Kept, soft", impl.PurgeTag(s, "k", false), s, "abc", "def", "def", "def")
}

func TestPurgeAll(t *testing.T) {
	for _, row := range [][2]string{{"", ""}, {"a", ""}, {"", "a"}, {"ab", ""}, {"", "ba"}, {"cab", "fde"}} {
		s := storeOf(1000, 500, row[0], row[1])
		checkPurged(t, "all, hard", impl.PurgeAll(s, true), s, "", "", "", row[0]+row[1])
		checkPurged(t, "all, soft", impl.PurgeAll(s, false), s, row[0], row[1], row[0]+row[1], row[0]+row[1])
	}
	keys := manyKeys(40)
	for _, trial := range []int{0, 1, 20, 39, 40} {
		list := manyPlain(40)
		for i := range list {
			list[i].Tags = []string{"t"}
		}
		s := impl.Store{Budget: 40 * 52, Guard: int64(40-trial) * 52, Trial: list[:trial], Kept: list[trial:]}
		for _, key := range keys {
			checkPurges(t, "a full store", purgeArguments{s, key, "t"})
		}
		if got := impl.PurgeAll(s, true); !samePurge(got, impl.PurgeResult{Store: impl.Store{Budget: s.Budget, Guard: s.Guard}, Keys: keys}) {
			t.Errorf("a full store, %d of it in Trial: %s", trial, shownPurge(got))
		}
	}
}

// Pins hold nothing back, and stay as they are where an entry stays.
func TestPurgePinned(t *testing.T) {
	for pins := range int64(21) {
		s := letterTags("abc", "def", map[string][]string{"b": {"x"}, "c": {"x"}, "d": {"x"}})
		for _, list := range [][]impl.Entry{s.Trial, s.Kept} {
			for i := range list {
				list[i].Pins = pins
			}
		}
		checkPurged(t, "a pinned one, hard", impl.PurgeKey(s, "e", true), s, "abc", "df", "", "e")
		checkPurged(t, "pinned ones, hard", impl.PurgeTag(s, "x", true), s, "a", "ef", "", "bcd")
		checkPurged(t, "all are pinned, hard", impl.PurgeAll(s, true), s, "", "", "", "abcdef")
		for _, got := range []impl.PurgeResult{
			impl.PurgeKey(s, "b", true), impl.PurgeKey(s, "b", false), impl.PurgeTag(s, "x", true), impl.PurgeTag(s, "x", false), impl.PurgeAll(s, false),
		} {
			for _, e := range heldIn(got.Store) {
				if e.Pins != pins {
					t.Errorf("%q was pinned %d times, and became %d", e.Key, pins, e.Pins)
				}
			}
		}
	}
	// Some are, and some are not.
	s := storeOf(1000, 500, "abc", "def")
	s.Trial[1].Pins, s.Kept[0].Pins, s.Kept[2].Pins = 1, 20, 3
	checkPurges(t, "some are pinned", purgeArguments{s, "d", ""})
	checkPurged(t, "some are pinned", impl.PurgeAll(s, true), s, "", "", "", "abcdef")
}

// One that is Soft already is purged once more: its Key is told, and it stays as it is.
func TestPurgeSoftAlready(t *testing.T) {
	s := letterTags("abc", "def", map[string][]string{"a": {"x"}, "b": {"x"}, "e": {"x"}})
	s.Trial[1].Meta.Soft, s.Kept[2].Meta.Soft = true, true
	checkPurged(t, "its key, soft", impl.PurgeKey(s, "b", false), s, "abc", "def", "bf", "b")
	checkPurged(t, "its key, hard", impl.PurgeKey(s, "b", true), s, "ac", "def", "f", "b")
	checkPurged(t, "another key, soft", impl.PurgeKey(s, "a", false), s, "abc", "def", "abf", "a")
	checkPurged(t, "another key, hard", impl.PurgeKey(s, "a", true), s, "bc", "def", "bf", "a")
	checkPurged(t, "its tag, soft", impl.PurgeTag(s, "x", false), s, "abc", "def", "abef", "abe")
	checkPurged(t, "its tag, hard", impl.PurgeTag(s, "x", true), s, "c", "df", "f", "abe")
	checkPurged(t, "no tag, soft", impl.PurgeTag(s, "y", false), s, "abc", "def", "bf", "")
	checkPurged(t, "all, soft", impl.PurgeAll(s, false), s, "abc", "def", "abcdef", "abcdef")
	checkPurged(t, "all, hard", impl.PurgeAll(s, true), s, "", "", "", "abcdef")
	if first := impl.PurgeAll(s, false); !samePurge(impl.PurgeAll(first.Store, false), first) {
		t.Error("what is Soft changed once more")
	}
}

// A soft purge turns one field of an entry, and a hard one none.
func TestPurgeTurnsNothingElse(t *testing.T) {
	bare := fullEntry("k")
	bare.Meta.Soft = false
	for _, noCache := range []bool{false, true} {
		for _, wasSoft := range []bool{false, true} {
			e := bare
			e.Meta.NoCache, e.Meta.Soft = noCache, wasSoft
			other := e
			other.Key, other.Tags = "o", []string{"v"}
			s := impl.Store{Budget: 1000, Guard: 500, Trial: []impl.Entry{other}, Kept: []impl.Entry{e}}
			for i, got := range []impl.PurgeResult{impl.PurgeKey(s, "k", false), impl.PurgeTag(s, "u", false)} {
				want := impl.PurgeResult{Store: impl.Store{Budget: 1000, Guard: 500, Trial: []impl.Entry{other}, Kept: []impl.Entry{soft(e)}}, Keys: []string{"k"}}
				if !samePurge(got, want) {
					t.Errorf("soft %d: %s became %s", i, shownEntry(e), shownPurge(got))
				}
			}
			for i, got := range []impl.PurgeResult{impl.PurgeKey(s, "k", true), impl.PurgeTag(s, "u", true)} {
				want := impl.PurgeResult{Store: impl.Store{Budget: 1000, Guard: 500, Trial: []impl.Entry{other}}, Keys: []string{"k"}}
				if !samePurge(got, want) {
					t.Errorf("hard %d: %s", i, shownPurge(got))
				}
			}
		}
	}
}

func TestPurgeNothing(t *testing.T) {
	for _, numbers := range [][2]int64{{0, 0}, {5, 0}, {5, 5}, {1000000, 1000000}} {
		for _, list := range [][]impl.Entry{nil, {}, make([]impl.Entry, 0, 5)} {
			for _, other := range [][]impl.Entry{nil, {}} {
				s := impl.Store{Budget: numbers[0], Guard: numbers[1], Trial: list, Kept: other}
				answers := askPurge(purgeArguments{s, "a", "x"})
				if !sameNames(answers.tagged, impl.NamesResult{}) {
					t.Errorf("nothing is tagged, and %+v is told", answers.tagged)
				}
				for i, got := range answers.purges {
					if !samePurge(got, impl.PurgeResult{Store: impl.Store{Budget: numbers[0], Guard: numbers[1]}}) {
						t.Errorf("answer %d of nothing is %s", i, shownPurge(got))
					}
				}
			}
		}
	}
	for _, none := range [][]impl.Entry{nil, {}} {
		one := tagged(plain("a"), "x")
		for _, s := range []impl.Store{{Budget: 100, Guard: 100, Trial: []impl.Entry{one}, Kept: none}, {Budget: 100, Guard: 100, Trial: none, Kept: []impl.Entry{one}}} {
			checkPurges(t, "nothing in one list", purgeArguments{s, "a", "x"})
			checkPurges(t, "nothing in one list, and nothing meant", purgeArguments{s, "b", "y"})
		}
	}
	// Tags that are nil and those that are an empty list hold none.
	s := impl.Store{Budget: 200, Guard: 0, Trial: []impl.Entry{tagged(plain("a")), {Key: "b", Status: 200, Tags: []string{}}}}
	checkPurges(t, "no tags", purgeArguments{s, "", ""})
	if got := impl.KeysTagged(s, ""); !sameNames(got, impl.NamesResult{}) {
		t.Errorf("KeysTagged where there are no tags = %+v", got)
	}
}

// storeTurns give a store of the entries ab and cd a fault, in the order in which they are asked.
func storeTurns() []storeTurn {
	return []storeTurn{
		{"budget below", func(s *impl.Store) { s.Budget = -1 }, impl.ErrRange},
		{"budget above", func(s *impl.Store) { s.Budget = impl.MaxBudget + 1 }, impl.ErrRange},
		{"budget far above", func(s *impl.Store) { s.Budget = math.MaxInt64 }, impl.ErrRange},
		{"guard below", func(s *impl.Store) { s.Guard = math.MinInt64 }, impl.ErrRange},
		{"guard above", func(s *impl.Store) { s.Guard = s.Budget + 1 }, impl.ErrRange},
		{"many", func(s *impl.Store) { s.Kept = append(s.Kept, manyPlain(38)...) }, impl.ErrMany},
		{"an entry of Trial", func(s *impl.Store) { s.Trial[1].Headers = []impl.Header{head("", "")} }, impl.ErrText},
		{"an entry of Kept", func(s *impl.Store) { s.Kept[0].Status = 304 }, impl.ErrRange},
		{"tags", func(s *impl.Store) { s.Kept[1].Tags = make([]string, 11) }, impl.ErrMany},
		{"taken", func(s *impl.Store) { s.Trial[0].Key = s.Kept[0].Key }, impl.ErrTaken},
		{"full", func(s *impl.Store) { s.Trial[1].Body = make([]byte, 900) }, impl.ErrFull},
		{"guard full", func(s *impl.Store) { s.Kept[1].Body = make([]byte, 450) }, impl.ErrFull},
	}
}

type storeTurn struct {
	what string
	turn func(s *impl.Store)
	want int64
}

// The fault of a store is asked ahead of all else: whether what is purged is there, and whether it is what is wrong.
func TestPurgeStoreFault(t *testing.T) {
	turns := storeTurns()
	for first := range turns {
		for later := first; later < len(turns); later++ {
			s := storeOf(1000, 500, "ab", "cd")
			turns[later].turn(&s)
			turns[first].turn(&s)
			for _, name := range []string{"", "a", "b", "c", "d", "zz", strings.Repeat("k", 501)} {
				answers := askPurge(purgeArguments{s, name, name})
				if !sameNames(answers.tagged, impl.NamesResult{Code: turns[first].want}) {
					t.Errorf("%s ahead of %s: KeysTagged of %s = %+v, want the code %d", turns[first].what, turns[later].what, shown(name), answers.tagged, turns[first].want)
				}
				for i, got := range answers.purges {
					if !samePurge(got, impl.PurgeResult{Code: turns[first].want}) {
						t.Errorf("%s ahead of %s, %s: answer %d is %s, want the code %d", turns[first].what, turns[later].what, shown(name), i, shownPurge(got), turns[first].want)
					}
				}
			}
		}
	}
	s := storeOf(4*51, 2*51, "ab", "cd")
	checkPurges(t, "just within its bounds", purgeArguments{s, "a", ""})
	s.Guard--
	checkPurges(t, "one above its guard", purgeArguments{s, "a", ""})
	s.Guard, s.Budget = 2*51, 4*51-1
	checkPurges(t, "one above its budget", purgeArguments{s, "a", ""})
}

var purgeTags = []string{"x", "y", "X", "", "x ", "\xff", strings.Repeat("t", 300)}

// manyPurges are stores with tags that many entries share.
func manyPurges(seed int64, count, wrong int) []purgeArguments {
	source := rand.New(rand.NewSource(seed))
	list := make([]purgeArguments, count)
	for i := range list {
		s := chosenStore(source, wrong)
		for _, entries := range [][]impl.Entry{s.Trial, s.Kept} {
			for at := range entries {
				for range source.Intn(4) {
					entries[at].Tags = append(entries[at].Tags, purgeTags[source.Intn(len(purgeTags))])
				}
			}
		}
		list[i] = purgeArguments{store: s, key: chosenKey(source, s), tag: purgeTags[source.Intn(len(purgeTags))]}
	}
	return list
}

func TestManyPurges(t *testing.T) {
	codes, counts := map[int64]int{}, map[int]int{}
	for _, a := range manyPurges(48, 8000, 2) {
		got, want := askPurge(a), purgesWanted(a)
		if !got.equals(want) {
			t.Fatalf("%s, key %s, tag %s:\n%s\nwant\n%s", shownStore(a.store), shown(a.key), shown(a.tag), got, want)
		}
		codes[got.tagged.Code]++
		counts[len(got.tagged.Names)]++
	}
	for _, code := range []int64{impl.OK, impl.ErrMany, impl.ErrRange, impl.ErrText, impl.ErrTaken, impl.ErrFull} {
		if codes[code] < 20 {
			t.Errorf("only %d stores told the code %d", codes[code], code)
		}
	}
	for count := range 6 {
		if counts[count] < 20 {
			t.Errorf("only %d tags were on %d entries", counts[count], count)
		}
	}
}

// Promise 10: after a hard purge nothing of it is there, and all else is as it was.
func TestPromise10NothingIsThereAfterAHardPurge(t *testing.T) {
	purged := 0
	for _, a := range manyPurges(49, 3000, 0) {
		for i, meant := range []func(e impl.Entry) bool{withKey(a.key), withTag(a.tag), withAny} {
			got := askPurge(a).purges[2*i]
			checkWithin(t, got.Store)
			purged += len(got.Keys)
			stayed := 0
			for _, e := range heldIn(a.store) {
				peek := impl.PeekEntry(got.Store, e.Key)
				switch {
				case meant(e) != slices.Contains(got.Keys, e.Key):
					t.Fatalf("%s: %q were purged", shownEntry(e), got.Keys)
				case meant(e) && peek.Code != impl.ErrNone:
					t.Fatalf("%s was purged, and is there", shownEntry(e))
				case !meant(e) && !samePeek(peek, impl.EntryResult{Entry: e}):
					t.Fatalf("%s was not meant, and became %s", shownEntry(e), shownEntry(peek.Entry))
				case !meant(e):
					stayed++
				}
			}
			if got.Code != impl.OK || stayed != len(heldIn(got.Store)) || got.Store.Budget != a.store.Budget || got.Store.Guard != a.store.Guard {
				t.Fatalf("%s became %s", shownStore(a.store), shownPurge(got))
			}
			if impl.CostIn(got.Store).Value != costWanted(heldIn(got.Store)...) {
				t.Fatalf("%s costs %+v", shownStore(got.Store), impl.CostIn(got.Store))
			}
		}
		if again := impl.KeysTagged(impl.PurgeTag(a.store, a.tag, true).Store, a.tag); !sameNames(again, impl.NamesResult{}) {
			t.Fatalf("%s was purged, and %q have it", shown(a.tag), again.Names)
		}
	}
	if purged < 10000 {
		t.Errorf("only %d were purged", purged)
	}
}

// phaseTimes stand at the edges of an answer's phases.
func phaseTimes(m impl.Meta) []int64 {
	var times []int64
	for _, behind := range []int64{0, 1, m.Life, m.Life - m.Age, m.Swr - m.Age, m.Sie - m.Age, m.Life + m.Swr - m.Age} {
		for _, by := range []int64{-1, 0, 1} {
			if at := m.At + behind + by; at >= m.At && at <= impl.MaxTime {
				times = append(times, at)
			}
		}
	}
	return append(times, impl.MaxTime)
}

// Promise 10: after a soft purge nothing of it is fresh, at any time; it stands where it stood, and all else is as it was.
func TestPromise10NothingIsFreshAfterASoftPurge(t *testing.T) {
	freshAhead := 0
	for _, a := range manyPurges(50, 1500, 0) {
		for i, meant := range []func(e impl.Entry) bool{withKey(a.key), withTag(a.tag), withAny} {
			got := askPurge(a).purges[2*i+1]
			before, behind := heldIn(a.store), heldIn(got.Store)
			checkWithin(t, got.Store)
			if got.Code != impl.OK || len(got.Store.Trial) != len(a.store.Trial) || len(behind) != len(before) || impl.CostIn(got.Store) != impl.CostIn(a.store) {
				t.Fatalf("%s became %s", shownStore(a.store), shownPurge(got))
			}
			for at, e := range before {
				if meant(e) != slices.Contains(got.Keys, e.Key) || !meant(e) && !sameHeld(behind[at], e) {
					t.Fatalf("%s became %s, and %q were purged", shownEntry(e), shownEntry(behind[at]), got.Keys)
				}
				if !meant(e) {
					continue
				}
				for _, now := range phaseTimes(e.Meta) {
					if impl.PhaseOf(e.Meta, now).Value == impl.PhaseFresh {
						freshAhead++
					}
					if impl.PhaseOf(behind[at].Meta, now).Value == impl.PhaseFresh || impl.EarlyDue(behind[at].Meta, now, 1000000, 999) {
						t.Fatalf("%s was purged, and is fresh at %d", shownEntry(behind[at]), now)
					}
				}
				unturned := behind[at]
				unturned.Meta.Soft = e.Meta.Soft
				if !sameHeld(unturned, e) {
					t.Fatalf("%s became %s", shownEntry(e), shownEntry(behind[at]))
				}
			}
		}
	}
	if freshAhead < 5000 {
		t.Errorf("only %d were fresh ahead of it", freshAhead)
	}
}

// Promise 10: a purge done once more finds nothing (hard), or the same (soft), and a hard one behind a soft one is as if alone.
func TestPromise10PurgesDoneAgain(t *testing.T) {
	for i, a := range manyPurges(51, 2000, 0) {
		first := askPurge(a)
		for place, got := range first.purges {
			again := askPurge(purgeArguments{got.Store, a.key, a.tag}).purges
			want := impl.PurgeResult{Store: got.Store}
			if place%2 == 1 {
				want.Keys = got.Keys
				if !samePurge(again[place-1], first.purges[place-1]) {
					t.Fatalf("%d: hard behind soft: %s", i, shownPurge(again[place-1]))
				}
			}
			if !samePurge(again[place], want) {
				t.Fatalf("%d: once more: %s, want %s", i, shownPurge(again[place]), shownPurge(want))
			}
		}
	}
}

// Promise 10: a purge of a tag is one of each Key that is told of it, and one of all is one of each Key there.
func TestPromise10PurgesKeyByKey(t *testing.T) {
	for i, a := range manyPurges(52, 1500, 0) {
		for _, hard := range hardOrSoft {
			for _, got := range []impl.PurgeResult{impl.PurgeTag(a.store, a.tag, hard), impl.PurgeAll(a.store, hard)} {
				s := a.store
				for _, key := range got.Keys {
					one := impl.PurgeKey(s, key, hard)
					if one.Code != impl.OK || !slices.Equal(one.Keys, []string{key}) {
						t.Fatalf("%d: %s", i, shownPurge(one))
					}
					s = one.Store
				}
				if !sameStore(s, got.Store) {
					t.Fatalf("%d: key by key %s, want %s", i, shownStore(s), shownStore(got.Store))
				}
			}
			if tags := impl.PurgeTag(a.store, a.tag, hard).Keys; !slices.Equal(tags, impl.KeysTagged(a.store, a.tag).Names) {
				t.Fatalf("%d: %q were purged, want those that KeysTagged tells", i, tags)
			}
		}
	}
}

// bare: nothing stands beside a code.
func (a purgeAnswers) bare() bool {
	for _, p := range a.purges {
		if p.Code != impl.OK && !samePurge(p, impl.PurgeResult{Code: p.Code}) {
			return false
		}
	}
	return a.tagged.Code == impl.OK || len(a.tagged.Names) == 0
}

// Promise 1: asked again in another order the functions of chapter 9 tell the same, and beside a code nothing.
func TestPromise1PurgesHangOnArgumentsAlone(t *testing.T) {
	list := manyPurges(53, 2000, 3)
	first := make([]purgeAnswers, len(list))
	for i, a := range list {
		first[i] = askPurge(a)
		if !first[i].bare() {
			t.Errorf("%d: something stands beside a code", i)
		}
	}
	for i, a := range slices.Backward(list) {
		if !askPurge(a).equals(first[i]) {
			t.Errorf("%d: asked again it is another answer", i)
		}
	}
}

// givenPurge is in memory of its own, with something behind each of its lists.
func givenPurge(a purgeArguments) purgeArguments {
	a.store.Trial, a.store.Kept = givenEntries(a.store.Trial), givenEntries(a.store.Kept)
	a.key, a.tag = strings.Clone(a.key), strings.Clone(a.tag)
	return a
}

// wholePurged has all that stands in the memory of a store's lists in it.
func wholePurged(s impl.Store) impl.Store {
	s.Trial, s.Kept = wholeEntries(s.Trial), wholeEntries(s.Kept)
	return s
}

func (a purgeAnswers) scribble() {
	clear(a.tagged.Names[:cap(a.tagged.Names)])
	for _, p := range a.purges {
		scribbleEntries(p.Store.Trial)
		scribbleEntries(p.Store.Kept)
		clear(p.Keys[:cap(p.Keys)])
	}
}

// Promise 1: what came in is left as it was, what stands behind it in memory, too, and no answer shares its memory.
func TestPromise1PurgedStoresAreLeftAsTheyWere(t *testing.T) {
	for i, a := range manyPurges(54, 2000, 8) {
		given := givenPurge(a)
		kept := wholePurged(given.store)
		answers := askPurge(given)
		if !sameStore(wholePurged(given.store), kept) {
			t.Fatalf("%d: an argument was changed", i)
		}
		answers.scribble()
		if !sameStore(wholePurged(given.store), kept) {
			t.Fatalf("%d: an answer shares its memory with an argument", i)
		}
	}
}

// Promise 1: an answer stays as it is, whatever becomes of what it was made from.
func TestPromise1PurgesAreNewMemory(t *testing.T) {
	for i, a := range manyPurges(55, 2000, 8) {
		want, given := askPurge(a), givenPurge(a)
		got := askPurge(given)
		scribbleEntries(given.store.Trial)
		scribbleEntries(given.store.Kept)
		if !got.equals(want) {
			t.Fatalf("%d: an answer changed with its arguments", i)
		}
	}
}

// Promise 1: the texts in what chapter 9 tells are new memory.
func TestPromise1PurgeTextsAreNewMemory(t *testing.T) {
	for _, a := range manyPurges(56, 200, 0) {
		given := givenPurge(a)
		answers := askPurge(given)
		told := slices.Clone(answers.tagged.Names)
		for _, p := range answers.purges {
			told = append(append(told, p.Keys...), textsIn(heldIn(p.Store)...)...)
		}
		for _, argument := range append(textsIn(heldIn(given.store)...), given.key, given.tag) {
			for _, piece := range told {
				if len(piece) > 1 && shareMemory(piece, argument) {
					t.Fatalf("%s shares memory with %s", shown(piece), shown(argument))
				}
			}
		}
	}
}

// Promise 1: no two lists of one answer share memory, even where those of the arguments do.
func TestPromise1ListsOfAPurgeAreApart(t *testing.T) {
	lines, body, tags := []impl.Header{head("a", "b")}, []byte("xy"), []string{"t"}
	with := func(key string) impl.Entry {
		return impl.Entry{Key: key, Status: 200, Headers: lines, Body: body, Tags: tags}
	}
	list := []impl.Entry{with("a"), with("b"), with("c"), with("d"), with("e"), with("f")}
	s := impl.Store{Budget: 1000, Guard: 500, Trial: list[:3], Kept: list[3:]}
	for i, told := range []impl.PurgeResult{
		impl.PurgeKey(s, "b", true), impl.PurgeKey(s, "e", true), impl.PurgeKey(s, "b", false), impl.PurgeKey(s, "z", true), impl.PurgeKey(s, "z", false),
		impl.PurgeTag(s, "t", false), impl.PurgeTag(s, "z", true), impl.PurgeTag(s, "z", false), impl.PurgeAll(s, false),
	} {
		all, want := heldIn(told.Store), givenEntries(heldIn(told.Store))
		if told.Code != impl.OK || len(want) < 5 {
			t.Fatalf("answer %d: %s", i, shownPurge(told))
		}
		_ = append(told.Store.Trial, impl.Entry{})
		_ = append(told.Keys, "")
		if !slices.EqualFunc(heldIn(told.Store), want, sameHeld) {
			t.Fatalf("answer %d: its lists stand behind one another in memory", i)
		}
		for place := range all {
			scribbleEntry(all[place])
			for at, e := range all[place+1:] {
				if !sameHeld(e, want[place+1+at]) {
					t.Fatalf("answer %d: the lists of %q share memory with those of %q", i, e.Key, all[place].Key)
				}
			}
		}
	}
}
