package tests

import (
	"fmt"
	"math"
	"math/rand"
	"net/http"
	"strings"
	"testing"
	"time"

	"loop.example/g00665/impl"
)

// The signatures and the types as the document tells them.
var (
	_ func(impl.Date) int64                    = impl.DateFault
	_ func(int64, int64, int64) impl.IntResult = impl.DaysOf
	_ func(impl.Date) impl.IntResult           = impl.SecondsOf
	_ func(int64) impl.DateResult              = impl.DateAt
	_ func(int64) impl.IntResult               = impl.WeekdayOf
	_ func(int64) impl.TextResult              = impl.FormatDate
	_ func(string) impl.IntResult              = impl.ParseDate

	_ = impl.Date{Year: int64(0), Month: int64(0), Day: int64(0), Hour: int64(0), Minute: int64(0), Second: int64(0)}
	_ = impl.DateResult{Code: int64(0), Date: impl.Date{}}
)

var (
	wrongNumber  = impl.IntResult{Code: impl.ErrRange}
	unreadDate   = impl.IntResult{Code: impl.ErrText}
	leastDate    = impl.Date{Year: 1970, Month: 1, Day: 1}
	greatestDate = impl.Date{Year: 9999, Month: 12, Day: 31, Hour: 23, Minute: 59, Second: 59}

	// Numbers that are no seconds.
	beyond = []int64{-1, -86400, -impl.MaxSeconds, math.MinInt64, math.MinInt64 + 1, impl.MaxSeconds + 1, impl.MaxSeconds + 86400, 2 * impl.MaxSeconds, math.MaxInt64}
)

// The library's calendar is the other opinion on what a date is.
func calendarDate(seconds int64) impl.Date {
	at := time.Unix(seconds, 0).UTC()
	return impl.Date{Year: int64(at.Year()), Month: int64(at.Month()), Day: int64(at.Day()), Hour: int64(at.Hour()), Minute: int64(at.Minute()), Second: int64(at.Second())}
}

func calendarHas(d impl.Date) bool {
	for _, n := range []int64{d.Year, d.Month, d.Day, d.Hour, d.Minute, d.Second} {
		if n < 0 || n > 9999 {
			return false
		}
	}
	at := time.Date(int(d.Year), time.Month(d.Month), int(d.Day), int(d.Hour), int(d.Minute), int(d.Second), 0, time.UTC)
	return d.Year >= 1970 && calendarDate(at.Unix()) == d
}

func calendarParsed(text string) impl.IntResult {
	at, err := time.Parse(http.TimeFormat, text)
	// The library reads more than it tells.
	if err != nil || at.UTC().Format(http.TimeFormat) != text || at.Unix() < 0 || at.Unix() > 253402300799 {
		return unreadDate
	}
	return impl.IntResult{Value: at.Unix()}
}

func checkFault(t *testing.T, d impl.Date) {
	t.Helper()
	want := int64(impl.ErrRange)
	if calendarHas(d) {
		want = impl.OK
	}
	if got := impl.DateFault(d); got != want {
		t.Errorf("DateFault(%+v) = %d, want %d", d, got, want)
	}
	if got := impl.SecondsOf(d); got.Code != want || want != impl.OK && got.Value != 0 {
		t.Errorf("SecondsOf(%+v) = %+v, want the code %d", d, got, want)
	}
	d.Hour, d.Minute, d.Second = 0, 0, 0
	wantDays := wrongNumber
	if calendarHas(d) {
		at := time.Date(int(d.Year), time.Month(d.Month), int(d.Day), 0, 0, 0, 0, time.UTC)
		wantDays = impl.IntResult{Value: at.Unix() / 86400}
	}
	if got := impl.DaysOf(d.Year, d.Month, d.Day); got != wantDays {
		t.Errorf("DaysOf(%d, %d, %d) = %+v, want %+v", d.Year, d.Month, d.Day, got, wantDays)
	}
}

func checkSeconds(t *testing.T, seconds int64) {
	t.Helper()
	at := time.Unix(seconds, 0).UTC()
	want := calendarDate(seconds)
	if got := impl.DateAt(seconds); got != (impl.DateResult{Date: want}) {
		t.Errorf("DateAt(%d) = %+v, want %+v", seconds, got, want)
	}
	if got := impl.SecondsOf(want); got != (impl.IntResult{Value: seconds}) {
		t.Errorf("SecondsOf(%+v) = %+v, want %d", want, got, seconds)
	}
	if got := impl.WeekdayOf(seconds); got != (impl.IntResult{Value: int64(at.Weekday())}) {
		t.Errorf("WeekdayOf(%d) = %+v, want %d", seconds, got, at.Weekday())
	}
	text := at.Format(http.TimeFormat)
	if got := impl.FormatDate(seconds); got != (impl.TextResult{Text: text}) {
		t.Errorf("FormatDate(%d) = %+v, want %q", seconds, got, text)
	}
	if got := impl.ParseDate(text); got != (impl.IntResult{Value: seconds}) {
		t.Errorf("ParseDate(%q) = %+v, want %d", text, got, seconds)
	}
}

// fieldOf points at one of the fields of d, in their order.
func fieldOf(d *impl.Date, place int) *int64 {
	return []*int64{&d.Year, &d.Month, &d.Day, &d.Hour, &d.Minute, &d.Second}[place]
}

func TestDateFaultAtEachBound(t *testing.T) {
	bounds := [][2]int64{{1970, 9999}, {1, 12}, {1, 31}, {0, 23}, {0, 59}, {0, 59}}
	for _, base := range []impl.Date{leastDate, greatestDate, {Year: 2000, Month: 1, Day: 31, Hour: 12, Minute: 30, Second: 30}} {
		for place, bound := range bounds {
			right := []int64{bound[0], bound[0] + 1, bound[1] - 1, bound[1]}
			if place == 1 {
				right = []int64{1, 3, 5, 7, 8, 10, 12}
			}
			wrong := []int64{bound[0] - 1, bound[1] + 1, -1, -bound[1], math.MinInt64, math.MaxInt64, bound[1] + 1<<32, bound[0] - 1<<32}
			for i, n := range append(right, wrong...) {
				d := base
				*fieldOf(&d, place) = n
				want := int64(impl.OK)
				if i >= len(right) {
					want = impl.ErrRange
				}
				if got := impl.DateFault(d); got != want {
					t.Errorf("DateFault(%+v) = %d, want %d", d, got, want)
				}
				checkFault(t, d)
			}
		}
	}
	if impl.DateFault(impl.Date{}) != impl.ErrRange || impl.DateFault(impl.Date{Year: 1970}) != impl.ErrRange || impl.DateFault(impl.Date{Year: 1970, Month: 1}) != impl.ErrRange {
		t.Error("the zero value is no date")
	}
}

func TestDaysOfMonths(t *testing.T) {
	for _, year := range []int64{-400, 0, 1600, 1900, 1969, 1970, 1971, 1972, 1996, 1999, 2000, 2001, 2004, 2023, 2024, 2100, 2200, 2300, 2400, 3000, 3200, 9600, 9900, 9996, 9998, 9999, 10000, 10004} {
		for month := int64(-1); month <= 14; month++ {
			for day := int64(-1); day <= 33; day++ {
				checkFault(t, impl.Date{Year: year, Month: month, Day: day})
			}
		}
	}
	for _, n := range edgeNumbers {
		for _, m := range edgeNumbers {
			for _, d := range []impl.Date{{Year: n, Month: m, Day: 1}, {Year: 2000, Month: n, Day: m}, {Year: n, Month: 1, Day: m}, {Year: n, Month: n, Day: m}} {
				checkFault(t, d)
			}
		}
	}
	rows := []struct{ year, month, day, want int64 }{
		{1970, 1, 1, 0}, {1970, 1, 2, 1}, {1970, 1, 31, 30}, {1970, 2, 1, 31}, {1970, 2, 28, 58}, {1970, 3, 1, 59}, {1970, 12, 31, 364}, {1971, 1, 1, 365},
		{1972, 2, 28, 788}, {1972, 2, 29, 789}, {1972, 3, 1, 790}, {1972, 12, 31, 1095}, {1973, 1, 1, 1096}, {2000, 2, 29, 11016}, {2000, 3, 1, 11017}, {9999, 12, 31, 2932896},
	}
	for _, row := range rows {
		if got := impl.DaysOf(row.year, row.month, row.day); got != (impl.IntResult{Value: row.want}) {
			t.Errorf("DaysOf(%d, %d, %d) = %+v, want %d", row.year, row.month, row.day, got, row.want)
		}
	}
}

func TestLeapYears(t *testing.T) {
	for year := int64(1960); year <= 10010; year++ {
		checkFault(t, impl.Date{Year: year, Month: 2, Day: 29})
	}
	for year, leap := range map[int64]bool{1972: true, 1970: false, 1973: false, 1974: false, 2000: true, 2100: false, 2200: false, 2300: false, 2400: true, 2024: true, 2023: false, 9996: true, 9900: false, 9600: true} {
		want := wrongNumber
		if leap {
			want = impl.IntResult{Value: impl.DaysOf(year, 3, 1).Value - 1}
		}
		if got := impl.DaysOf(year, 2, 29); got != want {
			t.Errorf("DaysOf(%d, 2, 29) = %+v, want %+v", year, got, want)
		}
		// A date of that day is read where it is one, whatever day of the week it names.
		read := 0
		for _, name := range []string{"Sun", "Mon", "Tue", "Wed", "Thu", "Fri", "Sat"} {
			if impl.ParseDate(fmt.Sprintf("%s, 29 Feb %d 12:00:00 GMT", name, year)).Code == impl.OK {
				read++
			}
		}
		if leap != (read == 1) || read > 1 {
			t.Errorf("29 Feb %d is read with %d days of the week", year, read)
		}
	}
}

func TestSecondsOf(t *testing.T) {
	if impl.MaxSeconds != 253402300799 {
		t.Error("MaxSeconds")
	}
	rows := []struct {
		date impl.Date
		want int64
	}{
		{leastDate, 0}, {greatestDate, 253402300799}, {impl.Date{Year: 1970, Month: 1, Day: 1, Second: 59}, 59}, {impl.Date{Year: 1970, Month: 1, Day: 1, Minute: 1}, 60}, {impl.Date{Year: 1970, Month: 1, Day: 1, Hour: 1}, 3600},
		{impl.Date{Year: 1970, Month: 1, Day: 1, Hour: 23, Minute: 59, Second: 59}, 86399}, {impl.Date{Year: 1970, Month: 1, Day: 2}, 86400}, {impl.Date{Year: 1994, Month: 11, Day: 6, Hour: 8, Minute: 49, Second: 37}, 784111777},
		{impl.Date{Year: 1970, Month: 12, Day: 31, Hour: 23, Minute: 59, Second: 59}, 31535999}, {impl.Date{Year: 1971, Month: 1, Day: 1}, 31536000}, {impl.Date{Year: 2000, Month: 2, Day: 29}, 951782400},
	}
	for _, row := range rows {
		if got := impl.SecondsOf(row.date); got != (impl.IntResult{Value: row.want}) {
			t.Errorf("SecondsOf(%+v) = %+v, want %d", row.date, got, row.want)
		}
		checkSeconds(t, row.want)
	}
}

func TestSecondsBeyondTheirBounds(t *testing.T) {
	for _, n := range beyond {
		if got := impl.DateAt(n); got != (impl.DateResult{Code: impl.ErrRange}) {
			t.Errorf("DateAt(%d) = %+v", n, got)
		}
		if got := impl.WeekdayOf(n); got != wrongNumber {
			t.Errorf("WeekdayOf(%d) = %+v", n, got)
		}
		if got := impl.FormatDate(n); got != (impl.TextResult{Code: impl.ErrRange}) {
			t.Errorf("FormatDate(%d) = %+v", n, got)
		}
	}
	for _, n := range []int64{0, 1, impl.MaxSeconds - 1, impl.MaxSeconds} {
		checkSeconds(t, n)
	}
}

func TestLastSecondsOfYears(t *testing.T) {
	for year := 1970; year <= 9999; year++ {
		next := time.Date(year+1, 1, 1, 0, 0, 0, 0, time.UTC).Unix()
		checkSeconds(t, next-1)
		if d := impl.DateAt(next - 1).Date; d != (impl.Date{Year: int64(year), Month: 12, Day: 31, Hour: 23, Minute: 59, Second: 59}) {
			t.Errorf("the last second of %d is %+v", year, d)
		}
		if year < 9999 {
			checkSeconds(t, next)
		}
	}
}

func TestSecondsOfWholeDays(t *testing.T) {
	for _, begin := range []int64{0, 951782400, impl.MaxSeconds - 86399} {
		for n := begin; n < begin+86400; n++ {
			checkSeconds(t, n)
		}
	}
	source := rand.New(rand.NewSource(5))
	for range 50000 {
		checkSeconds(t, source.Int63n(impl.MaxSeconds+1))
	}
}

func TestWeekdayOf(t *testing.T) {
	for n := range int64(14) {
		for _, second := range []int64{0, 43200, 86399} {
			if got := impl.WeekdayOf(n*86400 + second); got != (impl.IntResult{Value: (n + 4) % 7}) {
				t.Errorf("WeekdayOf day %d = %+v", n, got)
			}
		}
	}
	for place, name := range []string{"Sun", "Mon", "Tue", "Wed", "Thu", "Fri", "Sat"} {
		// 1970-01-04 is the first Sunday.
		seconds := int64(3+place) * 86400
		if got := impl.FormatDate(seconds).Text; impl.WeekdayOf(seconds).Value != int64(place) || !strings.HasPrefix(got, name+", ") {
			t.Errorf("day %d of the week is %d, %q", place, impl.WeekdayOf(seconds).Value, got)
		}
	}
}

func TestFormatDate(t *testing.T) {
	rows := []struct {
		seconds int64
		want    string
	}{
		{0, "Thu, 01 Jan 1970 00:00:00 GMT"}, {784111777, "Sun, 06 Nov 1994 08:49:37 GMT"}, {impl.MaxSeconds, "Fri, 31 Dec 9999 23:59:59 GMT"}, {951782400, "Tue, 29 Feb 2000 00:00:00 GMT"},
		{951868800 - 1, "Tue, 29 Feb 2000 23:59:59 GMT"}, {951868800, "Wed, 01 Mar 2000 00:00:00 GMT"}, {946684799, "Fri, 31 Dec 1999 23:59:59 GMT"}, {946684800, "Sat, 01 Jan 2000 00:00:00 GMT"}, {4107542400, "Mon, 01 Mar 2100 00:00:00 GMT"}, {4107542399, "Sun, 28 Feb 2100 23:59:59 GMT"},
	}
	for _, row := range rows {
		if got := impl.FormatDate(row.seconds); got != (impl.TextResult{Text: row.want}) {
			t.Errorf("FormatDate(%d) = %+v, want %q", row.seconds, got, row.want)
		}
	}
	for month, name := range []string{"Jan", "Feb", "Mar", "Apr", "May", "Jun", "Jul", "Aug", "Sep", "Oct", "Nov", "Dec"} {
		days := impl.DaysOf(2001, int64(month+1), 9).Value
		if got := impl.FormatDate(days * 86400).Text; len(got) != 29 || got[4:] != " 09 "+name+" 2001 00:00:00 GMT" {
			t.Errorf("the 9 of month %d is told as %q", month+1, got)
		}
	}
}

// wrongDates are near to right ones: bytes changed, put in and left out, and other ways to write a date.
func wrongDates() []string {
	texts := []string{
		"", " ", "GMT", "Mon, 06 Nov 1994 08:49:37 GMT", "sun, 06 Nov 1994 08:49:37 GMT", "SUN, 06 Nov 1994 08:49:37 GMT", "Sun, 06 nov 1994 08:49:37 GMT", "Sun, 06 NOV 1994 08:49:37 GMT", "Sun, 06 Nov 1994 08:49:37 gmt",
		"Sun, 06 Nov 1994 08:49:37 UTC", "Sun, 06 Nov 1994 08:49:37 +00", "Sun, 06 Nov 1994 08:49:37 EST", "Sun, 6 Nov 1994 08:49:37 GMT", "Sun,  6 Nov 1994 08:49:37 GMT", "Sun, 06 Nov   94 08:49:37 GMT", "Sunday, 06-Nov-94 08:49:37 GMT", "Sun Nov  6 08:49:37 1994",
		"Sun, 06-Nov-1994 08:49:37 GMT", "Sun, 06 Nov 1994 8:49:37 GMT", "Sun, 06 Nov 1994  8:49:37 GMT", "Sun, 06 Nov 1994 08:49 GMT", "Sun, 06 Nov 1994 08.49.37 GMT", "Sun; 06 Nov 1994 08:49:37 GMT", "Sun 06 Nov 1994 08:49:37 GMT", "06 Nov 1994 08:49:37 GMT",
		" Sun, 06 Nov 1994 08:49:37 GMT", "Sun, 06 Nov 1994 08:49:37 GMT ", "Sun, 06 Nov 1994 08:49:37 GMT\n", "Sun, 06 Nov 1994 08:49:37", "Sun, +6 Nov 1994 08:49:37 GMT", "Sun, -6 Nov 1994 08:49:37 GMT", "Sun, 0x6 Nov 1994 8:49:37 GMT", "unM, 06 Nov 1994 08:49:37 GMT", "Sun, 06 ovD 1994 08:49:37 GMT",
		// Days, hours, minutes and seconds that are none, with a day of the week that would fit.
		"Thu, 00 Jan 1970 00:00:00 GMT", "Wed, 00 Jan 1970 00:00:00 GMT", "Wed, 31 Dec 1969 23:59:59 GMT", "Sat, 01 Jan 10000 00:00:00 GMT", "Sat, 01 Jan 0000 00:00:00 GMT", "Thu, 32 Jan 1970 00:00:00 GMT", "Sun, 32 Jan 1970 00:00:00 GMT", "Mon, 29 Feb 1971 00:00:00 GMT", "Mon, 29 Feb 2100 00:00:00 GMT", "Tue, 30 Feb 2000 00:00:00 GMT", "Wed, 30 Feb 2000 00:00:00 GMT",
		"Fri, 31 Apr 1970 00:00:00 GMT", "Sun, 06 Nov 1994 24:00:00 GMT", "Mon, 07 Nov 1994 24:00:00 GMT", "Sun, 06 Nov 1994 08:60:00 GMT", "Sun, 06 Nov 1994 08:49:60 GMT", "Fri, 31 Dec 9999 23:59:60 GMT", "Thu, 31 Dec 1998 23:59:60 GMT", "Sun, 99 Nov 1994 99:99:99 GMT",
	}
	for _, seconds := range []int64{0, 784111777, 951782400, impl.MaxSeconds} {
		right := time.Unix(seconds, 0).UTC().Format(http.TimeFormat)
		for at := range len(right) {
			for b := range 256 {
				if byte(b) != right[at] {
					texts = append(texts, right[:at]+string([]byte{byte(b)})+right[at+1:])
				}
			}
			texts = append(texts, right[:at], right[at+1:], right[:at]+right[at+1:], right[:at]+" "+right[at:], right[:at]+"0"+right[at:])
		}
		texts = append(texts, right+right, right+"\x00", strings.ToLower(right), strings.ToUpper(right))
	}
	return texts
}

func TestParseDate(t *testing.T) {
	read := 0
	for _, text := range append(wrongDates(), allTexts()...) {
		want := calendarParsed(text)
		if want.Code == impl.OK {
			read++
		}
		if got := impl.ParseDate(text); got != want {
			t.Errorf("ParseDate(%s) = %+v, want %+v", shown(text), got, want)
		}
	}
	// Changed digits of the clock make right dates of some.
	if read < 100 {
		t.Errorf("only %d of the texts are dates", read)
	}
	for _, text := range []string{"Mon, 06 Nov 1994 08:49:37 GMT", "", "Wed, 31 Dec 1969 23:59:59 GMT", "Sat, 01 Jan 10000 00:00:00 GMT", "Thu, 31 Dec 1998 23:59:60 GMT", "Mon, 29 Feb 2100 00:00:00 GMT", strings.Repeat("0", 29), strings.Repeat("Thu, 01 Jan 1970 00:00:00 GMT", 1000)} {
		if got := impl.ParseDate(text); got != unreadDate {
			t.Errorf("ParseDate(%s) = %+v", shown(text), got)
		}
	}
	if got := impl.ParseDate("Sun, 06 Nov 1994 08:49:37 GMT"); got != (impl.IntResult{Value: 784111777}) {
		t.Errorf("ParseDate = %+v", got)
	}
}

func nextDay(d impl.Date) impl.Date {
	for _, next := range []impl.Date{{Year: d.Year, Month: d.Month, Day: d.Day + 1}, {Year: d.Year, Month: d.Month + 1, Day: 1}} {
		if impl.DateFault(next) == impl.OK {
			return next
		}
	}
	return impl.Date{Year: d.Year + 1, Month: 1, Day: 1}
}

// Promise 4: from one day to the next one is one day, and dates are read back from their texts and from their seconds.
func TestPromise4EveryDay(t *testing.T) {
	day, days := leastDate, int64(0)
	for ; impl.DateFault(day) == impl.OK; day, days = nextDay(day), days+1 {
		if got := impl.DaysOf(day.Year, day.Month, day.Day); got != (impl.IntResult{Value: days}) {
			t.Fatalf("DaysOf(%+v) = %+v, want %d", day, got, days)
		}
		// A second of the day that goes through all of them.
		seconds := days*86400 + days*7919%86400
		date := impl.DateAt(seconds)
		if date.Code != impl.OK || date.Date.Year != day.Year || date.Date.Month != day.Month || date.Date.Day != day.Day || impl.SecondsOf(date.Date) != (impl.IntResult{Value: seconds}) {
			t.Fatalf("DateAt(%d) = %+v on %+v", seconds, date, day)
		}
		if impl.WeekdayOf(seconds) != (impl.IntResult{Value: (days + 4) % 7}) {
			t.Fatalf("WeekdayOf(%d) = %+v", seconds, impl.WeekdayOf(seconds))
		}
		if days%5 == 0 && impl.ParseDate(impl.FormatDate(seconds).Text) != (impl.IntResult{Value: seconds}) {
			t.Fatalf("%d is not read back from %q", seconds, impl.FormatDate(seconds).Text)
		}
	}
	if days != 2932897 || days*86400 != impl.MaxSeconds+1 || day != (impl.Date{Year: 10000, Month: 1, Day: 1}) {
		t.Errorf("there are %d days, up to %+v", days, day)
	}
}

type dateAnswers struct {
	fault                 int64
	days, seconds         impl.IntResult
	at                    impl.DateResult
	weekday, parsed, read impl.IntResult
	format                impl.TextResult
}

func askDate(seconds int64, text string) dateAnswers {
	d := impl.DateAt(seconds).Date
	format := impl.FormatDate(seconds)
	return dateAnswers{impl.DateFault(d), impl.DaysOf(d.Year, d.Month, d.Day), impl.SecondsOf(d), impl.DateAt(seconds), impl.WeekdayOf(seconds), impl.ParseDate(text), impl.ParseDate(format.Text), format}
}

// Promise 1: the answers hang on the arguments alone, whatever was asked ahead of them, and are new memory.
func TestPromise1DateAnswersHangOnArguments(t *testing.T) {
	texts := []string{"", "Sun, 06 Nov 1994 08:49:37 GMT", "Mon, 06 Nov 1994 08:49:37 GMT", "Sun, 06 Nov 1994 08:49:60 GMT", "Fri, 31 Dec 9999 23:59:59 GMT", "Sun, 06 Abc 1994 08:49:37 GMT"}
	numbers := append([]int64{0, 784111777, 951782400, impl.MaxSeconds}, append(beyond, edgeNumbers...)...)
	first := map[string]dateAnswers{}
	for round := range 3 {
		for i := range numbers {
			for j := range texts {
				seconds, text := numbers[i], texts[j]
				if round == 1 {
					seconds, text = numbers[len(numbers)-1-i], texts[len(texts)-1-j]
				}
				key := fmt.Sprint(seconds, text)
				got := askDate(seconds, text)
				if round == 0 {
					first[key] = got
				} else if first[key] != got {
					t.Errorf("asked again, %d and %q are told as %+v, once %+v", seconds, text, got, first[key])
				}
			}
		}
	}
	a, b := impl.FormatDate(784111777).Text, impl.FormatDate(784111777).Text
	if shareMemory(a, b) {
		t.Error("two answers of FormatDate share memory")
	}
}
