package tests

import (
	"math"
	"strconv"
	"strings"
	"testing"
	"time"

	"loop.example/jetton/impl"
)

// The dates of the package time are the yardstick: it reckons by Gregory's calendar throughout, too.

const lastDay = 3652059

// dateOf is the date of a day's number.
func dateOf(n int) time.Time {
	return time.Date(1, 1, n, 0, 0, 0, 0, time.UTC)
}

// numberOfDate is the number of a date, if it is a day.
func numberOfDate(d time.Time) (int, bool) {
	n := int((d.Unix()-dateOf(1).Unix())/86400) + 1
	return n, d.Year() >= 1 && d.Year() <= 9999
}

// lengthOf is how many days a month of a year has; months past the year lead on.
func lengthOf(y, m int) int {
	return time.Date(y, time.Month(m+1), 0, 0, 0, 0, 0, time.UTC).Day()
}

// wantAdd counts months from the year 0 on, and days from there.
func wantAdd(n int, s impl.Span) (int, bool) {
	if n < 1 || n > lastDay || s.Months < -120000 || s.Months > 120000 || s.Days < -4000000 || s.Days > 4000000 {
		return 0, false
	}
	y, m, d := dateOf(n).Date()
	months := 12*y + int(m) - 1 + s.Months
	if months < 12 || months >= 12*10000 {
		return 0, false
	}
	y, m = months/12, time.Month(months%12+1)
	d = min(d, lengthOf(y, int(m)))
	later, ok := numberOfDate(time.Date(y, m, d+s.Days, 0, 0, 0, 0, time.UTC))
	if !ok {
		return 0, false
	}
	return later, true
}

// badInts is far off, and wraps round when it is reckoned with.
var badInts = []int{math.MinInt, math.MinInt + 1, -1 << 62, -1 << 32, 1 << 32, 1 << 62, math.MaxInt - 1, math.MaxInt}

// badDays is numbers of no day.
var badDays = append([]int{0, -1, -lastDay, lastDay + 1, lastDay + 366, 10000000}, badInts...)

// edgeYears is years of each sort, and those at both ends.
var edgeYears = []int{1, 2, 3, 4, 5, 99, 100, 101, 399, 400, 401, 1582, 1600, 1700, 1752, 1899, 1900, 1970, 1999, 2000, 2001, 2023, 2024, 2025, 2100, 2400, 9600, 9900, 9995, 9996, 9997, 9998, 9999}

// edgeDays is both ends, the ends of months of each sort in years of each sort, and days here and there.
func edgeDays() []int {
	list := []int{1, 2, 30, 31, 32, lastDay - 1, lastDay}
	for _, y := range edgeYears {
		for m := 1; m <= 12; m++ {
			n, _ := numberOfDate(time.Date(y, time.Month(m), lengthOf(y, m), 0, 0, 0, 0, time.UTC))
			list = append(list, n, n-lengthOf(y, m)+1, n-lengthOf(y, m)+15)
			if m < 4 {
				list = append(list, n-1, n-2, n-3)
			}
		}
	}
	return list
}

// someSpans is spans that are ok, forth and back, and at both edges.
func someSpans() []impl.Span {
	months := []int{0, 1, 2, 3, 6, 11, 12, 13, 24, 48, 1200, 4800, 119987, 119988, 120000}
	days := []int{0, 1, 27, 28, 29, 30, 31, 32, 365, 366, 146097, lastDay - 1, lastDay, 4000000}
	var list []impl.Span
	for _, m := range months {
		for _, d := range days {
			list = append(list, impl.Span{Months: m, Days: d}, impl.Span{Months: -m, Days: d}, impl.Span{Months: m, Days: -d}, impl.Span{Months: -m, Days: -d})
		}
	}
	return list
}

// badSpans is spans that are not ok, each in one way.
func badSpans() []impl.Span {
	var list []impl.Span
	for _, n := range append([]int{120001, -120001, 4000001, -4000001}, badInts...) {
		list = append(list, impl.Span{Months: n})
		if n < -4000000 || n > 4000000 {
			list = append(list, impl.Span{Days: n}, impl.Span{Months: n, Days: -n})
		}
	}
	return list
}

func TestLimitsOfDays(t *testing.T) {
	if impl.YearMax != 9999 || impl.DayMax != 3652059 || impl.SpanMonths != 120000 || impl.SpanDays != 4000000 {
		t.Error(impl.YearMax, impl.DayMax, impl.SpanMonths, impl.SpanDays)
	}
}

func TestP25DaysAndTheirParts(t *testing.T) {
	for n := 1; n <= lastDay; n++ {
		y, m, d, ok := impl.DayParts(n)
		wantY, wantM, wantD := dateOf(n).Date()
		if !ok || y != wantY || m != int(wantM) || d != wantD {
			t.Fatal(n, y, m, d, ok)
		}
		if impl.DayOf(y, m, d) != n {
			t.Fatal(n, y, m, d, impl.DayOf(y, m, d))
		}
	}
	for _, n := range badDays {
		if y, m, d, ok := impl.DayParts(n); ok || y != 0 || m != 0 || d != 0 {
			t.Error(n, y, m, d, ok)
		}
	}
}

func TestP25ThereIsADayFromOneToTheLast(t *testing.T) {
	for y := 1; y <= 9999; y++ {
		for m := 1; m <= 12; m++ {
			for d := -1; d <= 33; d++ {
				n := impl.DayOf(y, m, d)
				if (n != 0) != (d >= 1 && d <= lengthOf(y, m)) {
					t.Fatal(y, m, d, n)
				}
			}
		}
	}
}

func TestP25PartsOfNoDay(t *testing.T) {
	years := append([]int{0, -1, -4, -400, 10000, 10004, 12000}, badInts...)
	months := append([]int{0, -1, -11, -12, 13, 14, 24}, badInts...)
	days := append([]int{0, -1, -30, 32, 33, 366}, badInts...)
	for _, y := range append(years, 1, 2000, 9999) {
		for _, m := range append(months, 1, 2, 12) {
			for _, d := range append(days, 1, 28) {
				isDay := y >= 1 && y <= 9999 && m >= 1 && m <= 12 && d >= 1 && d <= 28
				if n := impl.DayOf(y, m, d); (n != 0) != isDay {
					t.Fatal(y, m, d, n)
				}
			}
		}
	}
	for _, text := range []string{"1900 2 29", "2023 2 29", "2024 2 30", "2100 2 29", "1 2 29", "9999 2 29", "2024 4 31", "2024 6 31", "2024 9 31", "2024 11 31"} {
		p := strings.Fields(text)
		y, _ := strconv.Atoi(p[0])
		m, _ := strconv.Atoi(p[1])
		d, _ := strconv.Atoi(p[2])
		if n := impl.DayOf(y, m, d); n != 0 {
			t.Error(text, n)
		}
	}
}

func TestP26BehindEachDayComesTheNext(t *testing.T) {
	for n := 1; n < lastDay; n++ {
		y, m, d, _ := impl.DayParts(n)
		nextY, nextM, nextD, ok := impl.DayParts(n + 1)
		wantY, wantM, wantD := y, m, d+1
		if d == impl.DayLast(y, m) {
			wantY, wantM, wantD = y+m/12, m%12+1, 1
		}
		if !ok || nextY != wantY || nextM != wantM || nextD != wantD {
			t.Fatal(n, nextY, nextM, nextD)
		}
		if impl.DayWeek(n+1) != impl.DayWeek(n)%7+1 {
			t.Fatal(n, impl.DayWeek(n), impl.DayWeek(n+1))
		}
	}
}

func TestP26DaysOfTheWeek(t *testing.T) {
	for _, n := range edgeDays() {
		if want := (int(dateOf(n).Weekday())+6)%7 + 1; impl.DayWeek(n) != want {
			t.Fatal(n, impl.DayWeek(n), want)
		}
	}
	if impl.DayWeek(1) != 1 || impl.DayWeek(7) != 7 || impl.DayWeek(8) != 1 {
		t.Error("the first week")
	}
	for _, n := range badDays {
		if impl.DayWeek(n) != 0 {
			t.Error(n, impl.DayWeek(n))
		}
	}
}

func TestP27MonthsOfAYear(t *testing.T) {
	for y := 1; y <= 9999; y++ {
		days := 0
		for m := 1; m <= 12; m++ {
			last := impl.DayLast(y, m)
			if last != lengthOf(y, m) {
				t.Fatal(y, m, last)
			}
			days += last
		}
		want := 365
		if impl.DayOf(y, 2, 29) != 0 {
			want = 366
		}
		if days != want || days != dateOf(impl.DayOf(y, 12, 31)).YearDay() {
			t.Fatal(y, days, want)
		}
	}
	for y, want := range map[int]int{4: 29, 100: 28, 400: 29, 1900: 28, 2000: 29, 2023: 28, 2024: 29, 9996: 29, 9999: 28} {
		if impl.DayLast(y, 2) != want {
			t.Error(y, impl.DayLast(y, 2))
		}
	}
}

func TestP27MonthsThatAreNone(t *testing.T) {
	for _, n := range append([]int{0, -1, -12, 10000, 10001}, badInts...) {
		if impl.DayLast(n, 1) != 0 || impl.DayLast(n, 2) != 0 || impl.DayLast(n, n) != 0 {
			t.Error("year", n)
		}
	}
	for _, n := range append([]int{0, -1, -11, 13, 14, 25}, badInts...) {
		if impl.DayLast(1, n) != 0 || impl.DayLast(2000, n) != 0 || impl.DayLast(9999, n) != 0 {
			t.Error("month", n)
		}
	}
}

func TestSpanOk(t *testing.T) {
	for _, s := range someSpans() {
		if !impl.SpanOk(s) {
			t.Error("ok:", s)
		}
	}
	for _, s := range badSpans() {
		if impl.SpanOk(s) {
			t.Error("not ok:", s)
		}
	}
}

func mustAdd(t *testing.T, n int, s impl.Span) {
	t.Helper()
	later, ok := impl.DayAdd(n, s)
	want, wantOk := wantAdd(n, s)
	if later != want || ok != wantOk {
		t.Fatal("DayAdd", n, s, later, ok, "want", want, wantOk)
	}
}

func TestP28MonthsThenDays(t *testing.T) {
	for _, n := range edgeDays() {
		for _, s := range someSpans() {
			mustAdd(t, n, s)
		}
		if later, ok := impl.DayAdd(n, impl.Span{}); later != n || !ok {
			t.Fatal(n, later, ok)
		}
		for _, s := range badSpans() {
			mustAdd(t, n, s)
		}
		for m := -40; m <= 40; m++ {
			mustAdd(t, n, impl.Span{Months: m})
			mustAdd(t, n, impl.Span{Months: m, Days: -m})
		}
	}
	for _, n := range badDays {
		for _, s := range append(someSpans(), badSpans()...) {
			mustAdd(t, n, s)
		}
	}
}

func TestP28BothEndsOfTheCalendar(t *testing.T) {
	for _, n := range edgeDays() {
		for _, more := range []int{-1, 0, 1} {
			mustAdd(t, n, impl.Span{Days: lastDay - n + more})
			mustAdd(t, n, impl.Span{Days: 1 - n + more})
			months := 12*(9999-dateOf(n).Year()) + 12 - int(dateOf(n).Month())
			mustAdd(t, n, impl.Span{Months: months + more, Days: -3})
			mustAdd(t, n, impl.Span{Months: months - 119987 + more, Days: 3})
		}
	}
	// The months alone lead out; that the days would lead back in does not help.
	if n, ok := impl.DayAdd(lastDay, impl.Span{Months: 1, Days: -400}); n != 0 || ok {
		t.Error(n, ok)
	}
	if n, ok := impl.DayAdd(1, impl.Span{Months: -1, Days: 400}); n != 0 || ok {
		t.Error(n, ok)
	}
	if n, ok := impl.DayAdd(1, impl.Span{Months: 119987, Days: 30}); n != lastDay || !ok {
		t.Error(n, ok)
	}
	if n, ok := impl.DayAdd(lastDay, impl.Span{Months: -119987, Days: -30}); n != 1 || !ok {
		t.Error(n, ok)
	}
}

func TestP29ForthAndBack(t *testing.T) {
	for _, n := range edgeDays() {
		_, _, d, _ := impl.DayParts(n)
		for m := -50; m <= 50; m++ {
			there, ok := impl.DayAdd(n, impl.Span{Months: m})
			if !ok {
				continue
			}
			_, _, thereD, _ := impl.DayParts(there)
			back, ok := impl.DayAdd(there, impl.Span{Months: -m})
			if !ok || back != n-(d-thereD) {
				t.Fatal(n, m, there, back, ok)
			}
		}
	}
	n := impl.DayOf(2024, 1, 31)
	there, _ := impl.DayAdd(n, impl.Span{Months: 1})
	back, ok := impl.DayAdd(there, impl.Span{Months: -1})
	if impl.DayPut(there) != "2024-02-29" || impl.DayPut(back) != "2024-01-29" || !ok {
		t.Error(there, back)
	}
}

// wantUntil counts up month by month.
func wantUntil(a, b int) impl.Span {
	span := impl.Span{Days: b - a}
	for m := 1; ; m++ {
		n, ok := wantAdd(a, impl.Span{Months: m})
		if !ok || n > b {
			return span
		}
		span = impl.Span{Months: m, Days: b - n}
	}
}

func mustUntil(t *testing.T, a, b int) {
	t.Helper()
	span, ok := impl.DayUntil(a, b)
	if !ok || span.Months < 0 || span.Days < 0 || span.Days >= 31 {
		t.Fatal("DayUntil", a, b, span, ok)
	}
	if n, ok := impl.DayAdd(a, span); n != b || !ok {
		t.Fatal("DayUntil", a, b, span, "leads to", n, ok)
	}
	more, ok := impl.DayAdd(a, impl.Span{Months: span.Months + 1})
	if ok && more <= b {
		t.Fatal("DayUntil", a, b, span, "a month more leads to", more)
	}
}

func TestP30FromOneDayToTheOther(t *testing.T) {
	list := edgeDays()
	for _, a := range list {
		for _, b := range list {
			if a <= b {
				mustUntil(t, a, b)
				continue
			}
			if span, ok := impl.DayUntil(a, b); ok || span != (impl.Span{}) {
				t.Fatal(a, b, span, ok)
			}
		}
		for b := a; b <= min(a+800, lastDay); b++ {
			mustUntil(t, a, b)
		}
	}
	for a := impl.DayOf(2023, 12, 25); a <= impl.DayOf(2024, 3, 5); a++ {
		for b := a; b <= a+500; b++ {
			if span, ok := impl.DayUntil(a, b); !ok || span != wantUntil(a, b) {
				t.Fatal(a, b, span, ok)
			}
		}
	}
}

func TestP30EdgesAndNoDays(t *testing.T) {
	rows := map[[2]string]impl.Span{
		{"2024-01-31", "2024-02-28"}: {Days: 28},
		{"2024-01-31", "2024-02-29"}: {Months: 1},
		{"2023-01-31", "2023-02-28"}: {Months: 1},
		{"2024-01-31", "2024-03-30"}: {Months: 1, Days: 30},
		{"2024-02-29", "2025-02-28"}: {Months: 12},
		{"2024-02-29", "2025-03-28"}: {Months: 12, Days: 28},
		{"2024-05-31", "2024-05-31"}: {},
		{"0001-01-01", "9999-12-31"}: {Months: 119987, Days: 30},
		{"9999-11-30", "9999-12-31"}: {Months: 1, Days: 1},
		{"9999-12-01", "9999-12-31"}: {Days: 30},
	}
	for pair, want := range rows {
		a, _ := impl.DayGet(pair[0])
		b, _ := impl.DayGet(pair[1])
		if span, ok := impl.DayUntil(a, b); !ok || span != want {
			t.Error(pair, span, ok)
		}
	}
	for _, n := range badDays {
		for _, m := range append([]int{1, lastDay}, badDays...) {
			span, ok := impl.DayUntil(n, m)
			turned, turnedOk := impl.DayUntil(m, n)
			if ok || turnedOk || span != (impl.Span{}) || turned != (impl.Span{}) {
				t.Error(n, m, span, turned)
			}
		}
	}
}

func TestP31DaysAreReadBack(t *testing.T) {
	before := ""
	for n := 1; n <= lastDay; n++ {
		text := impl.DayPut(n)
		if back, ok := impl.DayGet(text); back != n || !ok {
			t.Fatal(n, text, back, ok)
		}
		if text <= before || len(text) != 10 {
			t.Fatal(n, text, before)
		}
		before = text
	}
	for _, n := range edgeDays() {
		if want := dateOf(n).Format("2006-01-02"); impl.DayPut(n) != want {
			t.Error(n, impl.DayPut(n), want)
		}
	}
	for _, n := range badDays {
		if impl.DayPut(n) != "" {
			t.Error(n, impl.DayPut(n))
		}
	}
}

// eachBeside calls with texts that are one byte off: another one, one more, or one less; and with the text.
func eachBeside(s string, alphabet string, call func(string)) {
	call(s)
	for i := range len(s) + 1 {
		for j := range len(alphabet) {
			call(s[:i] + alphabet[j:j+1] + s[i:])
			if i < len(s) {
				call(s[:i] + alphabet[j:j+1] + s[i+1:])
			}
		}
		if i < len(s) {
			call(s[:i] + s[i+1:])
			call(s[:i])
		}
	}
}

// wantDay reads a date of four, two and two figures.
func wantDay(s string) (int, bool) {
	d, err := time.Parse("2006-01-02", s)
	if err != nil || len(s) != 10 || d.Format("2006-01-02") != s {
		return 0, false
	}
	n, ok := numberOfDate(d)
	if !ok {
		return 0, false
	}
	return n, true
}

func mustDayGet(t *testing.T, s string) {
	t.Helper()
	n, ok := impl.DayGet(s)
	want, wantOk := wantDay(s)
	if n != want || ok != wantOk {
		t.Fatalf("DayGet %q: %d %v, want %d %v", s, n, ok, want, wantOk)
	}
	if ok && impl.DayPut(n) != s {
		t.Fatalf("DayGet %q is written %q", s, impl.DayPut(n))
	}
}

func TestP32WhatIsReadAsADayIsWrittenSo(t *testing.T) {
	alphabet := "0123456789-+ ._/:\x00\xffaT"
	for _, s := range []string{"0001-01-01", "9999-12-31", "2024-02-29", "1900-02-28", "2000-10-10", "2023-11-30"} {
		eachBeside(s, alphabet, func(s string) { mustDayGet(t, s) })
	}
	for y := range 10 {
		for m := range 14 {
			for d := range 33 {
				mustDayGet(t, "202"+strconv.Itoa(y)+"-"+strconv.Itoa(100 + m)[1:]+"-"+strconv.Itoa(100 + d)[1:])
			}
		}
	}
	for _, s := range []string{"", "0000-01-01", "0000-12-31", "10000-01-01", "2024-1-1", "24-01-01", "2024-00-10", "2024-10-00", "20240101", "2024/01/01", "-001-01-01", "+001-01-01", "2024-+1-01", "2024-01-+1", "2024-01--1", " 024-01-01", "2024-01-01\n", "２０24-01", strings.Repeat("1", 1000)} {
		mustDayGet(t, s)
	}
}

// wantSpan writes a span.
func wantSpan(s impl.Span) string {
	return strconv.Itoa(s.Months) + "m" + strconv.Itoa(s.Days) + "d"
}

func mustSpanGet(t *testing.T, s string) {
	t.Helper()
	span, ok := impl.SpanGet(s)
	if ok && (impl.SpanPut(span) != s || wantSpan(span) != s || !impl.SpanOk(span)) {
		t.Fatalf("SpanGet %q: %v, written %q", s, span, impl.SpanPut(span))
	}
	if !ok && span != (impl.Span{}) {
		t.Fatalf("SpanGet %q: %v beside false", s, span)
	}
}

func TestP33SpansAreReadBack(t *testing.T) {
	for _, s := range someSpans() {
		text := impl.SpanPut(s)
		if text != wantSpan(s) {
			t.Fatal(s, text)
		}
		if back, ok := impl.SpanGet(text); back != s || !ok {
			t.Fatal(s, text, back, ok)
		}
	}
	for _, s := range badSpans() {
		if impl.SpanPut(s) != "" {
			t.Error(s, impl.SpanPut(s))
		}
		if span, ok := impl.SpanGet(wantSpan(s)); ok || span != (impl.Span{}) {
			t.Error(s, span, ok)
		}
	}
}

func TestP33WhatIsReadAsASpanIsWrittenSo(t *testing.T) {
	read := 0
	eachText("-01md", 7, func(s string) {
		mustSpanGet(t, s)
		if _, ok := impl.SpanGet(s); ok {
			read++
		}
	})
	// Numbers of 1 figure are 0, 1 and -1; of more they begin with 1: both together have at most 5 bytes.
	if want := spansOf(5); read != want {
		t.Error(read, want)
	}
	for _, s := range []string{"0m0d", "12m-31d", "-120000m-4000000d"} {
		eachBeside(s, "0129-+ md\x00\xff.", func(s string) { mustSpanGet(t, s) })
	}
	for _, s := range []string{"", "m", "d", "md", "0m", "0d", "0m0", "m0d", "0md", "-0m0d", "0m-0d", "+1m0d", "0m+1d", "01m0d", "0m01d", "1d1m", "1 m1d", "1m 1d", "1M1D", "1m1d1m1d", "1m1dd", "1mm1d", "0x1m0d", "1_0m0d", "99999999999999999999m0d", "0m-99999999999999999999d"} {
		if span, ok := impl.SpanGet(s); ok || span != (impl.Span{}) {
			t.Errorf("%q: %v %v", s, span, ok)
		}
	}
}

// spansOf is how many spans of the figures 0 and 1 have numbers of so many bytes at most together.
func spansOf(bytes int) int {
	byLength := map[int]int{}
	for n := -9999; n <= 9999; n++ {
		if s := strconv.Itoa(n); strings.Trim(s, "-01") == "" {
			byLength[len(s)]++
		}
	}
	count := 0
	for a, many := range byLength {
		for b, other := range byLength {
			if a+b <= bytes {
				count += many * other
			}
		}
	}
	return count
}
