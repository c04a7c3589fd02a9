package tests

import (
	"math"
	"slices"
	"testing"
	"time"

	"loop.example/g01375/impl"
)

const (
	firstDay = -36524 // 1 January 1900
	lastDay  = 73048  // 31 December 2199
)

// calendarDay is a day of Go's own calendar, which is not under test.
func calendarDay(n int64) time.Time {
	return time.Date(2000, 1, 1+int(n), 0, 0, 0, 0, time.UTC)
}

func wrongYears() []int64 {
	return []int64{1899, 2200, 0, -2000, 1600, 2400, math.MinInt64, math.MaxInt64}
}

func wrongDays() []int64 {
	return []int64{firstDay - 1, lastDay + 1, -1e9, 1e9, math.MinInt64, math.MaxInt64}
}

func TestIsLeap(t *testing.T) {
	for year := int64(impl.FirstYear); year <= impl.LastYear; year++ {
		want := time.Date(int(year), 2, 29, 0, 0, 0, 0, time.UTC).Day() == 29
		expect(t, "leap "+shown(year), shown(impl.IsLeap(year)), shown(want))
	}
	for year, want := range map[int64]bool{1900: false, 1904: true, 1999: false, 2000: true, 2100: false, 2196: true, 2199: false} {
		expect(t, "leap "+shown(year), shown(impl.IsLeap(year)), shown(want))
	}
	for _, year := range append(wrongYears(), 1896, 2204) {
		expect(t, "leap "+shown(year), shown(impl.IsLeap(year)), "false")
	}
}

func TestLongOfMonth(t *testing.T) {
	longs := []int64{31, 28, 31, 30, 31, 30, 31, 31, 30, 31, 30, 31}
	for i, want := range longs {
		for _, year := range []int64{1900, 2001, 2100, 2199} {
			long, ok := impl.LongOfMonth(year, int64(i)+1)
			expect(t, "long of "+shown(year, i+1), shown(long, ok), shown(want, true))
		}
	}
	for year, want := range map[int64]int64{1904: 29, 2000: 29, 2024: 29, 2196: 29, 1999: 28, 2199: 28} {
		long, ok := impl.LongOfMonth(year, 2)
		expect(t, "long of February "+shown(year), shown(long, ok), shown(want, true))
	}
	for _, month := range []int64{0, 13, -1, math.MinInt64, math.MaxInt64} {
		long, ok := impl.LongOfMonth(2000, month)
		expect(t, "long of month "+shown(month), shown(long, ok), "0 false")
	}
	for _, year := range wrongYears() {
		long, ok := impl.LongOfMonth(year, 1)
		expect(t, "long in year "+shown(year), shown(long, ok), "0 false")
	}
}

func TestDaysAreCounted(t *testing.T) {
	for n := int64(firstDay); n <= lastDay; n++ {
		day := calendarDay(n)
		date := shown(day.Year(), int(day.Month()), day.Day(), true)
		year, month, at, ok := impl.DateOf(n)
		if got := shown(year, month, at, ok); got != date {
			t.Fatalf("date of %d: got %s, want %s", n, got, date)
		}
		back, ok := impl.DayOf(year, month, at)
		if !ok || back != n {
			t.Fatalf("day of %s: got %s, want %d", date, shown(back, ok), n)
		}
		weekday, ok := impl.WeekdayOf(n)
		if want := int64(day.Weekday()+6) % 7; !ok || weekday != want {
			t.Fatalf("weekday of %s: got %s, want %d", date, shown(weekday, ok), want)
		}
	}
}

func TestDayOf(t *testing.T) {
	rows := []struct{ year, month, day, want int64 }{
		{2000, 1, 1, 0}, {2000, 3, 1, 60}, {2000, 2, 29, 59}, {1999, 12, 31, -1}, {2000, 12, 31, 365}, {2001, 1, 1, 366},
		{1900, 1, 1, firstDay}, {1900, 2, 28, firstDay + 58}, {1900, 3, 1, firstDay + 59}, {1900, 12, 31, firstDay + 364},
		{2199, 1, 1, lastDay - 364}, {2199, 12, 31, lastDay}, {2100, 3, 1, 36584}, {2100, 2, 28, 36583}, {2004, 2, 29, 1520},
	}
	for _, row := range rows {
		n, ok := impl.DayOf(row.year, row.month, row.day)
		expect(t, "day of "+shown(row.year, row.month, row.day), shown(n, ok), shown(row.want, true))
	}
	wrong := [][3]int64{{1900, 2, 29}, {2100, 2, 29}, {2001, 2, 29}, {2000, 2, 30}, {2000, 1, 32}, {2000, 4, 31}, {2000, 6, 31},
		{2000, 9, 31}, {2000, 11, 31}, {2000, 12, 32}, {2000, 1, 0}, {2000, 1, -1}, {2000, 0, 1}, {2000, 13, 1}, {2000, -1, 1},
		{1899, 12, 31}, {2200, 1, 1}, {2000, 1, math.MaxInt64}, {2000, 1, math.MinInt64}, {2000, math.MaxInt64, 1}}
	for _, year := range wrongYears() {
		wrong = append(wrong, [3]int64{year, 1, 1})
	}
	for _, date := range wrong {
		n, ok := impl.DayOf(date[0], date[1], date[2])
		expect(t, "day of "+shown(date), shown(n, ok), "0 false")
	}
}

func TestWrongDays(t *testing.T) {
	for _, n := range wrongDays() {
		year, month, day, ok := impl.DateOf(n)
		expect(t, "date of "+shown(n), shown(year, month, day, ok), "0 0 0 false")
		weekday, ok := impl.WeekdayOf(n)
		expect(t, "weekday of "+shown(n), shown(weekday, ok), "0 false")
		year, week, ok := impl.WeekOf(n)
		expect(t, "week of "+shown(n), shown(year, week, ok), "0 0 false")
	}
}

func TestWeekOf(t *testing.T) {
	for n := int64(firstDay); n <= lastDay-2; n++ {
		wantYear, want := calendarDay(n).ISOWeek()
		year, week, ok := impl.WeekOf(n)
		if got := shown(year, week, ok); got != shown(wantYear, want, true) {
			t.Fatalf("week of %d: got %s, want %d %d", n, got, wantYear, want)
		}
	}
	rows := []struct{ year, month, day, wantYear, want int64 }{
		{2000, 3, 1, 2000, 9}, {2000, 1, 1, 1999, 52}, {2000, 1, 2, 1999, 52}, {2000, 1, 3, 2000, 1},
		{2021, 1, 3, 2020, 53}, {2021, 1, 4, 2021, 1}, {2024, 12, 29, 2024, 52}, {2024, 12, 30, 2025, 1},
		{1900, 1, 1, 1900, 1}, {1900, 1, 7, 1900, 1}, {1900, 1, 8, 1900, 2}, {2199, 12, 29, 2199, 52},
	}
	for _, row := range rows {
		n, _ := impl.DayOf(row.year, row.month, row.day)
		year, week, ok := impl.WeekOf(n)
		expect(t, "week of "+shown(row.year, row.month, row.day), shown(year, week, ok), shown(row.wantYear, row.want, true))
	}
	// Their Thursday is 2 January 2200.
	for _, n := range []int64{lastDay - 1, lastDay} {
		year, week, ok := impl.WeekOf(n)
		expect(t, "week of "+shown(n), shown(year, week, ok), "0 0 false")
	}
}

// easterByTable finds Easter by the way of Gauss, with the numbers that hold
// for each century.
func easterByTable(year int) time.Time {
	century := map[int][2]int{19: {24, 5}, 20: {24, 5}, 21: {24, 6}}[year/100]
	d := (19*(year%19) + century[0]) % 30
	e := (2*(year%4) + 4*(year%7) + 6*d + century[1]) % 7
	march := 22 + d + e
	if d == 29 && e == 6 || d == 28 && e == 6 && (11*century[0]+11)%30 < 19 {
		march -= 7
	}
	return time.Date(year, 3, march, 0, 0, 0, 0, time.UTC)
}

func TestEasterOf(t *testing.T) {
	for year := impl.FirstYear; year <= impl.LastYear; year++ {
		want := easterByTable(year)
		n, ok := impl.EasterOf(int64(year))
		if !ok || !calendarDay(n).Equal(want) {
			t.Errorf("Easter of %d: got %s, want %v", year, shown(n, ok), want)
		}
	}
	rows := [][3]int64{{2000, 4, 23}, {1900, 4, 15}, {1913, 3, 23}, {1943, 4, 25}, {1954, 4, 18}, {1981, 4, 19}, {2008, 3, 23},
		{2038, 4, 25}, {2049, 4, 18}, {2076, 4, 19}, {2106, 4, 18}, {2160, 3, 23}, {2199, 4, 14}}
	for _, row := range rows {
		want, _ := impl.DayOf(row[0], row[1], row[2])
		n, ok := impl.EasterOf(row[0])
		expect(t, "Easter of "+shown(row[0]), shown(n, ok), shown(want, true))
	}
	for _, year := range wrongYears() {
		n, ok := impl.EasterOf(year)
		expect(t, "Easter of "+shown(year), shown(n, ok), "0 false")
	}
}

// daysInMonth lists the days of a month that are a weekday.
func daysInMonth(year, month, weekday int64) []int64 {
	var days []int64
	long, _ := impl.LongOfMonth(year, month)
	for day := int64(1); day <= long; day++ {
		n, _ := impl.DayOf(year, month, day)
		if got, _ := impl.WeekdayOf(n); got == weekday {
			days = append(days, n)
		}
	}
	return days
}

func TestWeekdayIn(t *testing.T) {
	for _, year := range []int64{1900, 1999, 2000, 2015, 2024, 2100, 2199} {
		for month := int64(1); month <= 12; month++ {
			for weekday := range int64(7) {
				days := daysInMonth(year, month, weekday)
				for count := int64(1); count <= 5; count++ {
					want := "0 false"
					if count <= int64(len(days)) {
						want = shown(days[count-1], true)
					}
					n, ok := impl.WeekdayIn(year, month, weekday, count)
					expect(t, "weekday in "+shown(year, month, weekday, count), shown(n, ok), want)
				}
			}
		}
	}
	rows := []struct {
		year, month, weekday, count int64
		want                        string
	}{
		{2000, 3, 0, 2, "72 true"}, {2000, 2, 1, 5, "59 true"}, {2000, 2, 0, 4, "58 true"}, {2000, 2, 0, 5, "0 false"},
		{2000, 1, 5, 1, "0 true"}, {1900, 1, 0, 1, "-36524 true"}, {2199, 12, 1, 5, "73048 true"}, {2199, 12, 2, 5, "0 false"},
	}
	for _, row := range rows {
		n, ok := impl.WeekdayIn(row.year, row.month, row.weekday, row.count)
		expect(t, "weekday in "+shown(row.year, row.month, row.weekday, row.count), shown(n, ok), row.want)
	}
}

func TestWrongWeekdayIn(t *testing.T) {
	wrong := [][4]int64{{2000, 3, -1, 1}, {2000, 3, 7, 1}, {2000, 3, 0, 0}, {2000, 3, 0, -1}, {2000, 3, 0, 6}, {2000, 0, 0, 1},
		{2000, 13, 0, 1}, {2000, 3, math.MinInt64, 1}, {2000, 3, math.MaxInt64, 1}, {2000, 3, 0, math.MinInt64},
		{2000, 3, 0, math.MaxInt64}, {2000, math.MaxInt64, 0, 1}}
	for _, year := range wrongYears() {
		wrong = append(wrong, [4]int64{year, 3, 0, 1})
	}
	// 7 times one less is 1, where it wraps around.
	wrong = append(wrong, [4]int64{2000, 3, 0, 7905747460161236408})
	for _, row := range wrong {
		n, ok := impl.WeekdayIn(row[0], row[1], row[2], row[3])
		expect(t, "weekday in "+shown(row), shown(n, ok), "0 false")
	}
}

// daysFrom lists days with the same distance.
func daysFrom(first, step int64, count int) []int64 {
	days := make([]int64, count)
	for i := range days {
		days[i] = first + step*int64(i)
	}
	return days
}

func wrongFeasts() [][]int64 {
	return [][]int64{daysFrom(0, 1, impl.MaxFeasts+1), {3, 3}, {3, 2}, {1, 5, 4}, {4, 1, 5}, {firstDay - 1}, {lastDay + 1},
		{firstDay - 1, 3}, {3, lastDay + 1}, {math.MinInt64}, {math.MaxInt64}}
}

func isWorkDay(n int64, feasts []int64) bool {
	weekday := calendarDay(n).Weekday()
	return weekday != time.Saturday && weekday != time.Sunday && !slices.Contains(feasts, n)
}

func TestWorkDays(t *testing.T) {
	lists := [][]int64{nil, {}, {3}, {0, 1}, {-8, -7, 2, 3, 20}, daysFrom(-30, 2, impl.MaxFeasts), {firstDay, firstDay + 1, lastDay}}
	starts := append(daysFrom(-20, 1, 40), daysFrom(firstDay, 1, 9)...)
	for _, feasts := range lists {
		for _, from := range append(starts, daysFrom(lastDay-30, 1, 31)...) {
			want := 0
			for to := from; to <= min(from+30, lastDay); to++ {
				if isWorkDay(to, feasts) {
					want++
				}
				count, ok := impl.WorkDays(from, to, feasts)
				expect(t, "work days "+shown(from, to, feasts), shown(count, ok), shown(want, true))
			}
		}
	}
	all, ok := impl.WorkDays(firstDay, lastDay, nil)
	expect(t, "all work days", shown(all, ok), "78267 true")
	all, ok = impl.WorkDays(firstDay, lastDay, []int64{firstDay, 0, 1, 2, lastDay})
	expect(t, "all work days but some", shown(all, ok), "78264 true")
}

func TestWrongWorkDays(t *testing.T) {
	for _, row := range [][2]int64{{1, 0}, {lastDay, firstDay}, {firstDay - 1, 0}, {0, lastDay + 1}, {firstDay - 2, firstDay - 1},
		{lastDay + 1, lastDay + 2}, {math.MinInt64, math.MaxInt64}} {
		count, ok := impl.WorkDays(row[0], row[1], nil)
		expect(t, "work days "+shown(row), shown(count, ok), "0 false")
	}
	for _, feasts := range wrongFeasts() {
		count, ok := impl.WorkDays(0, 9, feasts)
		expect(t, "work days with feasts "+shown(feasts), shown(count, ok), "0 false")
	}
}

func TestWorkDayBehind(t *testing.T) {
	lists := [][]int64{nil, {2}, {0, 3, 4}, daysFrom(1, 1, impl.MaxFeasts), {lastDay}, {firstDay + 1}}
	for _, feasts := range lists {
		for _, from := range append(daysFrom(-8, 1, 16), firstDay, lastDay-9, lastDay-1, lastDay) {
			day := from
			for count := int64(1); count <= 12; count++ {
				for day++; day <= lastDay && !isWorkDay(day, feasts); day++ {
				}
				want := "0 false"
				if day <= lastDay {
					want = shown(day, true)
				}
				n, ok := impl.WorkDayBehind(from, count, feasts)
				expect(t, "work day behind "+shown(from, count, feasts), shown(n, ok), want)
			}
		}
	}
	// 1000 work days are 200 weeks: from a Saturday on, they end on a Friday.
	n, ok := impl.WorkDayBehind(0, 1000, nil)
	expect(t, "the last one that can be counted", shown(n, ok), "1399 true")
	n, ok = impl.WorkDayBehind(lastDay-1400, 1000, nil)
	expect(t, "the last one of the days", shown(n, ok), "73048 true")
	n, ok = impl.WorkDayBehind(lastDay-1399, 1000, nil)
	expect(t, "one behind the days", shown(n, ok), "0 false")
}

func TestWrongWorkDayBehind(t *testing.T) {
	for _, count := range []int64{0, -1, 1001, math.MinInt64, math.MaxInt64} {
		n, ok := impl.WorkDayBehind(0, count, nil)
		expect(t, "work days behind: "+shown(count), shown(n, ok), "0 false")
	}
	for _, from := range wrongDays() {
		n, ok := impl.WorkDayBehind(from, 1, nil)
		expect(t, "work day behind "+shown(from), shown(n, ok), "0 false")
	}
	for _, feasts := range wrongFeasts() {
		n, ok := impl.WorkDayBehind(0, 1, feasts)
		expect(t, "work day with feasts "+shown(feasts), shown(n, ok), "0 false")
	}
}
