package tests

import (
	"math"
	"strings"
	"testing"
	"time"

	"loop.example/g00221/impl"
)

// day: a day, or a number of days, that was told.
func day(n int64) impl.DayOut {
	return impl.DayOut{Day: n}
}

// noDay: a code, and nothing beside it.
func noDay(code int64) impl.DayOut {
	return impl.DayOut{Code: code}
}

// date: a Date by its parts.
func date(year int64, month int64, day int64) impl.Date {
	return impl.Date{Year: year, Month: month, Day: day}
}

// dayAt: the day of a Date that is told as it is.
func dayAt(year int64, month int64, day int64) int64 {
	return dayOfTime(time.Date(int(year), time.Month(month), int(day), 0, 0, 0, 0, time.UTC))
}

// timeOf: a day, or a number beyond, by the library's calendar.
func timeOf(day int64) time.Time {
	return time.Date(2000, time.January, 1+int(day), 0, 0, 0, 0, time.UTC)
}

// dayOfTime: how many days behind January 1st, 2000.
func dayOfTime(at time.Time) int64 {
	return int64(at.Sub(timeOf(0)) / (24 * time.Hour))
}

// noDays: numbers that are no day, on both sides.
func noDays() []int64 {
	return []int64{-1, impl.MaxDay + 1, -2, -365, -impl.MaxDay, 2 * impl.MaxDay, 1 << 32, 1 << 62,
		math.MaxInt64, math.MinInt64, math.MinInt64 + 1}
}

// someDays: the first and last ones, the ends of months, and others by a fixed rule.
func someDays(step int64) []int64 {
	list := []int64{0, 1, 30, 31, 58, 59, 60, 365, 366, impl.MaxDay - 1, impl.MaxDay}
	for year := int64(2000); year <= 2099; year += 7 {
		list = append(list, dayAt(year, 1, 29), dayAt(year, 1, 30), dayAt(year, 1, 31), dayAt(year, 2, 28),
			dayAt(year, 3, 1)-1, dayAt(year, 4, 30), dayAt(year, 12, 31))
	}
	for n := int64(0); n <= impl.MaxDay; n += step {
		list = append(list, n)
	}
	return list
}

func TestDayConstants(t *testing.T) {
	if impl.MaxDay != 36524 || impl.BasisAct365 != 1 || impl.BasisAct360 != 2 || impl.Basis30E != 3 {
		t.Error("a constant is another one")
	}
}

func TestDayOf(t *testing.T) {
	cases := []struct {
		d    impl.Date
		want impl.DayOut
	}{
		{date(2000, 1, 1), day(0)},
		{date(2000, 1, 31), day(30)},
		{date(2000, 2, 1), day(31)},
		{date(2000, 2, 28), day(58)},
		{date(2000, 2, 29), day(59)},
		{date(2000, 3, 1), day(60)},
		{date(2000, 12, 31), day(365)},
		{date(2001, 1, 1), day(366)},
		{date(2001, 2, 28), day(424)},
		{date(2001, 3, 1), day(425)},
		{date(2004, 1, 1), day(1461)},
		{date(2004, 2, 29), day(1520)},
		{date(2096, 2, 28), day(35122)},
		{date(2096, 2, 29), day(35123)},
		{date(2096, 3, 1), day(35124)},
		{date(2099, 2, 28), day(36218)},
		{date(2099, 12, 31), day(impl.MaxDay)},
		{date(2000, 2, 30), noDay(impl.ErrForm)},
		{date(2001, 2, 29), noDay(impl.ErrForm)},
		{date(2002, 2, 29), noDay(impl.ErrForm)},
		{date(2003, 2, 29), noDay(impl.ErrForm)},
		{date(2096, 2, 30), noDay(impl.ErrForm)},
		{date(2099, 2, 29), noDay(impl.ErrForm)},
		{date(1999, 12, 31), noDay(impl.ErrForm)},
		{date(1996, 2, 29), noDay(impl.ErrForm)},
		{date(2100, 1, 1), noDay(impl.ErrForm)},
		{date(2000, 0, 1), noDay(impl.ErrForm)},
		{date(2000, 13, 1), noDay(impl.ErrForm)},
		{date(2000, -1, 1), noDay(impl.ErrForm)},
		{date(2000, 1, 0), noDay(impl.ErrForm)},
		{date(2000, 1, 32), noDay(impl.ErrForm)},
		{date(2000, 1, -1), noDay(impl.ErrForm)},
		{date(2000, 4, 31), noDay(impl.ErrForm)},
		{date(0, 0, 0), noDay(impl.ErrForm)},
		{date(0, 1, 1), noDay(impl.ErrForm)},
		{date(-2000, 1, 1), noDay(impl.ErrForm)},
		{date(math.MinInt64, 1, 1), noDay(impl.ErrForm)},
		{date(math.MaxInt64, 1, 1), noDay(impl.ErrForm)},
		{date(2000, math.MinInt64, 1), noDay(impl.ErrForm)},
		{date(2000, math.MaxInt64, 1), noDay(impl.ErrForm)},
		{date(2000, 1, math.MinInt64), noDay(impl.ErrForm)},
		{date(2000, 1, math.MaxInt64), noDay(impl.ErrForm)},
		{date(math.MinInt64, math.MinInt64, math.MinInt64), noDay(impl.ErrForm)},
	}
	for _, c := range cases {
		if got := impl.DayOf(c.d); got != c.want {
			t.Errorf("DayOf(%+v) is %+v, not %+v", c.d, got, c.want)
		}
	}
}

// Of all Dates about the years from 2000 to 2099 just those that the calendar has are taken.
func TestDayOfAll(t *testing.T) {
	for year := int64(1996); year <= 2104; year++ {
		for month := int64(-1); month <= 14; month++ {
			for number := int64(-1); number <= 33; number++ {
				at := time.Date(int(year), time.Month(month), int(number), 0, 0, 0, 0, time.UTC)
				there := int64(at.Year()) == year && int64(at.Month()) == month && int64(at.Day()) == number
				want := noDay(impl.ErrForm)
				if there && year >= 2000 && year <= 2099 {
					want = day(dayOfTime(at))
				}
				if got := impl.DayOf(date(year, month, number)); got != want {
					t.Fatalf("DayOf %d %d %d is %+v, not %+v", year, month, number, got, want)
				}
			}
		}
	}
}

func TestDateOf(t *testing.T) {
	cases := []struct {
		day  int64
		want impl.Date
	}{
		{0, date(2000, 1, 1)},
		{30, date(2000, 1, 31)},
		{31, date(2000, 2, 1)},
		{59, date(2000, 2, 29)},
		{60, date(2000, 3, 1)},
		{365, date(2000, 12, 31)},
		{366, date(2001, 1, 1)},
		{1460, date(2003, 12, 31)},
		{1461, date(2004, 1, 1)},
		{35123, date(2096, 2, 29)},
		{35124, date(2096, 3, 1)},
		{impl.MaxDay, date(2099, 12, 31)},
	}
	for _, c := range cases {
		if got := impl.DateOf(c.day); got != c.want {
			t.Errorf("DateOf(%d) is %+v, not %+v", c.day, got, c.want)
		}
	}
	for _, n := range noDays() {
		if got := impl.DateOf(n); got != (impl.Date{}) {
			t.Errorf("DateOf(%d) is %+v", n, got)
		}
	}
}

// Promise 5, of all days: they come back from Dates and texts, which are those of the calendar.
func TestDaysComeBack(t *testing.T) {
	for n := int64(0); n <= impl.MaxDay; n++ {
		at := timeOf(n)
		want := date(int64(at.Year()), int64(at.Month()), int64(at.Day()))
		if got := impl.DateOf(n); got != want {
			t.Fatalf("DateOf(%d) is %+v, not %+v", n, got, want)
		}
		if got := impl.DayOf(want); got != day(n) {
			t.Fatalf("DayOf(%+v) is %+v, not %d", want, got, n)
		}
		text := at.Format("2006-01-02")
		if got := impl.DateText(n); got != text {
			t.Fatalf("DateText(%d) is %q, not %q", n, got, text)
		}
		if got := impl.DateRead(text); got != day(n) {
			t.Fatalf("DateRead(%q) is %+v, not %d", text, got, n)
		}
	}
}

// Promise 5: the day behind one is the next one of its month, or the first one of the next month.
func TestDayBehind(t *testing.T) {
	lengths := [12]int64{31, 28, 31, 30, 31, 30, 31, 31, 30, 31, 30, 31}
	for n := int64(0); n < impl.MaxDay; n++ {
		d := impl.DateOf(n)
		last := lengths[d.Month-1]
		if d.Month == 2 && d.Year%4 == 0 {
			last = 29
		}
		want := date(d.Year, d.Month, d.Day+1)
		if d.Day == last {
			want = date(d.Year, d.Month+1, 1)
		}
		if want.Month == 13 {
			want = date(d.Year+1, 1, 1)
		}
		if got := impl.DateOf(n + 1); got != want {
			t.Fatalf("behind %+v stands %+v, not %+v", d, got, want)
		}
	}
}

func TestDayAdd(t *testing.T) {
	cases := []struct {
		day, months int64
		want        impl.DayOut
	}{
		{0, 0, day(0)},
		{0, 1, day(31)},
		{0, 12, day(366)},
		{dayAt(2000, 1, 29), 1, day(dayAt(2000, 2, 29))},
		{dayAt(2000, 1, 30), 1, day(dayAt(2000, 2, 29))},
		{dayAt(2000, 1, 31), 1, day(dayAt(2000, 2, 29))},
		{dayAt(2001, 1, 28), 1, day(dayAt(2001, 2, 28))},
		{dayAt(2001, 1, 29), 1, day(dayAt(2001, 2, 28))},
		{dayAt(2001, 1, 30), 1, day(dayAt(2001, 2, 28))},
		{dayAt(2001, 1, 31), 1, day(dayAt(2001, 2, 28))},
		{dayAt(2001, 1, 31), 2, day(dayAt(2001, 3, 31))},
		{dayAt(2001, 1, 31), 3, day(dayAt(2001, 4, 30))},
		{dayAt(2001, 3, 31), -1, day(dayAt(2001, 2, 28))},
		{dayAt(2004, 3, 31), -1, day(dayAt(2004, 2, 29))},
		{dayAt(2004, 2, 29), 12, day(dayAt(2005, 2, 28))},
		{dayAt(2004, 2, 29), -12, day(dayAt(2003, 2, 28))},
		{dayAt(2004, 2, 29), 48, day(dayAt(2008, 2, 29))},
		{dayAt(2004, 2, 28), 1, day(dayAt(2004, 3, 28))},
		{dayAt(2004, 2, 29), 1, day(dayAt(2004, 3, 29))},
		{dayAt(2000, 12, 31), 2, day(dayAt(2001, 2, 28))},
		{dayAt(2096, 1, 31), 1, day(dayAt(2096, 2, 29))},
		{dayAt(2001, 1, 1), -1, day(dayAt(2000, 12, 1))},
		{dayAt(2000, 12, 15), 1, day(dayAt(2001, 1, 15))},
		{dayAt(2000, 12, 15), -11, day(dayAt(2000, 1, 15))},
		// Just into the years that there are, and just out of them.
		{0, 1199, day(dayAt(2099, 12, 1))},
		{0, 1200, noDay(impl.ErrRange)},
		{30, 1199, day(impl.MaxDay)},
		{30, 1200, noDay(impl.ErrRange)},
		{31, 1198, day(dayAt(2099, 12, 1))},
		{31, 1199, noDay(impl.ErrRange)},
		{0, -1, noDay(impl.ErrRange)},
		{30, -1, noDay(impl.ErrRange)},
		{31, -1, day(0)},
		{31, -2, noDay(impl.ErrRange)},
		{dayAt(2000, 12, 31), -11, day(30)},
		{dayAt(2000, 12, 31), -12, noDay(impl.ErrRange)},
		{dayAt(2001, 1, 1), -12, day(0)},
		{dayAt(2001, 1, 1), -13, noDay(impl.ErrRange)},
		{impl.MaxDay, 0, day(impl.MaxDay)},
		{impl.MaxDay, 1, noDay(impl.ErrRange)},
		{impl.MaxDay, -1199, day(30)},
		{impl.MaxDay, -1200, noDay(impl.ErrRange)},
		{dayAt(2099, 11, 30), 1, day(dayAt(2099, 12, 30))},
		{dayAt(2099, 11, 30), 2, noDay(impl.ErrRange)},
		{0, 1201, noDay(impl.ErrRange)},
		{impl.MaxDay, -1201, noDay(impl.ErrRange)},
		{impl.MaxDay / 2, 1201, noDay(impl.ErrRange)},
		{impl.MaxDay / 2, -1201, noDay(impl.ErrRange)},
		{0, math.MaxInt64, noDay(impl.ErrRange)},
		{0, math.MinInt64, noDay(impl.ErrRange)},
		{impl.MaxDay, math.MaxInt64, noDay(impl.ErrRange)},
		{impl.MaxDay, math.MinInt64, noDay(impl.ErrRange)},
		// What is no day comes ahead of the months.
		{-1, 1, noDay(impl.ErrForm)},
		{-1, 1201, noDay(impl.ErrForm)},
		{impl.MaxDay + 1, -1, noDay(impl.ErrForm)},
		{impl.MaxDay + 1, -1201, noDay(impl.ErrForm)},
	}
	for _, c := range cases {
		if got := impl.DayAdd(c.day, c.months); got != c.want {
			t.Errorf("DayAdd(%d, %d) is %+v, not %+v", c.day, c.months, got, c.want)
		}
	}
	for _, n := range noDays() {
		if got := impl.DayAdd(n, 0); got != noDay(impl.ErrForm) {
			t.Errorf("DayAdd(%d, 0) is %+v", n, got)
		}
	}
}

// monthsBehind: what DayAdd tells of a day, by the library's calendar.
func monthsBehind(n int64, months int64) impl.DayOut {
	at := timeOf(n)
	first := time.Date(at.Year(), at.Month()+time.Month(months), 1, 0, 0, 0, 0, time.UTC)
	if months < -1200 || months > 1200 || first.Year() < 2000 || first.Year() > 2099 {
		return noDay(impl.ErrRange)
	}
	last := first.AddDate(0, 1, -1)
	return day(dayOfTime(first) + int64(min(at.Day(), last.Day())) - 1)
}

// Promise 6: the day of that month with the same number, or its last one; one month more is later.
func TestMonthsBehind(t *testing.T) {
	for _, n := range someDays(61) {
		last := int64(-1)
		for months := int64(-1202); months <= 1202; months++ {
			got, want := impl.DayAdd(n, months), monthsBehind(n, months)
			if got != want {
				t.Fatalf("DayAdd(%d, %d) is %+v, not %+v", n, months, got, want)
			}
			if got.Code != impl.OK {
				continue
			}
			if got.Day <= last {
				t.Fatalf("DayAdd(%d, %d) is %d, of one month less %d", n, months, got.Day, last)
			}
			last = got.Day
		}
	}
}

// Promise 6 of all days, by few months.
func TestMonthsBehindAll(t *testing.T) {
	for n := int64(0); n <= impl.MaxDay; n++ {
		for _, months := range []int64{-13, -12, -1, 0, 1, 2, 12} {
			if got, want := impl.DayAdd(n, months), monthsBehind(n, months); got != want {
				t.Fatalf("DayAdd(%d, %d) is %+v, not %+v", n, months, got, want)
			}
		}
	}
}

func TestSpan(t *testing.T) {
	jan := func(n int64) int64 { return dayAt(2001, 1, n) }
	cases := []struct {
		basis, from, to int64
		want            impl.DayOut
	}{
		{impl.BasisAct365, 0, 0, day(0)},
		{impl.BasisAct360, 0, 0, day(0)},
		{impl.Basis30E, 0, 0, day(0)},
		{impl.BasisAct365, 0, impl.MaxDay, day(impl.MaxDay)},
		{impl.BasisAct360, 0, impl.MaxDay, day(impl.MaxDay)},
		{impl.Basis30E, 0, impl.MaxDay, day(99*360 + 11*30 + 29)},
		{impl.BasisAct365, impl.MaxDay, impl.MaxDay, day(0)},
		{impl.Basis30E, impl.MaxDay, impl.MaxDay, day(0)},
		{impl.BasisAct365, 100, 131, day(31)},
		{impl.BasisAct360, 100, 131, day(31)},
		{impl.Basis30E, jan(1), jan(2), day(1)},
		{impl.Basis30E, jan(1), jan(30), day(29)},
		{impl.Basis30E, jan(1), jan(31), day(29)},
		{impl.Basis30E, jan(29), jan(31), day(1)},
		{impl.Basis30E, jan(30), jan(31), day(0)},
		{impl.Basis30E, jan(31), jan(31), day(0)},
		{impl.Basis30E, jan(31), dayAt(2001, 2, 1), day(1)},
		{impl.Basis30E, jan(30), dayAt(2001, 2, 1), day(1)},
		{impl.Basis30E, jan(31), dayAt(2001, 3, 31), day(60)},
		{impl.Basis30E, jan(31), dayAt(2001, 3, 30), day(60)},
		{impl.Basis30E, jan(15), dayAt(2001, 2, 15), day(30)},
		{impl.Basis30E, jan(15), dayAt(2002, 1, 15), day(360)},
		// The days alone would be below 0 here, the whole is not.
		{impl.Basis30E, jan(30), dayAt(2001, 2, 28), day(28)},
		{impl.Basis30E, jan(31), dayAt(2001, 2, 28), day(28)},
		{impl.Basis30E, jan(31), dayAt(2002, 1, 1), day(331)},
		{impl.Basis30E, dayAt(2001, 12, 31), dayAt(2002, 1, 1), day(1)},
		// Februaries end before their 30th day.
		{impl.Basis30E, dayAt(2001, 2, 28), dayAt(2001, 3, 1), day(3)},
		{impl.Basis30E, dayAt(2004, 2, 28), dayAt(2004, 3, 1), day(3)},
		{impl.Basis30E, dayAt(2004, 2, 29), dayAt(2004, 3, 1), day(2)},
		{impl.Basis30E, dayAt(2004, 2, 29), dayAt(2005, 2, 28), day(359)},
		{0, 0, 1, noDay(impl.ErrForm)},
		{4, 0, 1, noDay(impl.ErrForm)},
		{-1, 0, 1, noDay(impl.ErrForm)},
		{math.MaxInt64, 0, 1, noDay(impl.ErrForm)},
		{math.MinInt64, 0, 1, noDay(impl.ErrForm)},
		{0, 0, 0, noDay(impl.ErrForm)},
	}
	for _, c := range cases {
		if got := impl.Span(c.basis, c.from, c.to); got != c.want {
			t.Errorf("Span(%d, %d, %d) is %+v, not %+v", c.basis, c.from, c.to, got, c.want)
		}
	}
}

func TestSpanWrong(t *testing.T) {
	for basis := int64(1); basis <= 3; basis++ {
		for _, n := range noDays() {
			for _, ends := range [][2]int64{{n, impl.MaxDay}, {0, n}, {n, n}} {
				if got := impl.Span(basis, ends[0], ends[1]); got != noDay(impl.ErrForm) {
					t.Errorf("Span(%d, %d, %d) is %+v", basis, ends[0], ends[1], got)
				}
			}
		}
		// To one below from: also where both count as a 30th.
		for _, to := range []int64{0, 29, 59, 1000, impl.MaxDay - 1} {
			if got := impl.Span(basis, to+1, to); got != noDay(impl.ErrForm) {
				t.Errorf("Span(%d, %d, %d) is %+v", basis, to+1, to, got)
			}
		}
	}
}

// evenSpan: the days between two days by months of 30, as the document tells it.
func evenSpan(from int64, to int64) int64 {
	a, b := timeOf(from), timeOf(to)
	years, months := b.Year()-a.Year(), int(b.Month())-int(a.Month())
	return max(0, int64(360*years+30*months+min(b.Day(), 30)-min(a.Day(), 30)))
}

// Promise 7: by the days that there are a Span is the sum of its parts.
func TestSpanOfParts(t *testing.T) {
	list := someDays(787)
	for _, from := range list {
		for _, to := range list {
			if to < from {
				continue
			}
			if got := impl.Span(impl.Basis30E, from, to); got != day(evenSpan(from, to)) {
				t.Fatalf("Span(3, %d, %d) is %+v, not %d", from, to, got, evenSpan(from, to))
			}
			for basis := int64(impl.BasisAct365); basis <= impl.BasisAct360; basis++ {
				whole := impl.Span(basis, from, to)
				if whole != day(to-from) {
					t.Fatalf("Span(%d, %d, %d) is %+v", basis, from, to, whole)
				}
				mid := from + (to-from)*2/5
				parts := impl.Span(basis, from, mid).Day + impl.Span(basis, mid, to).Day
				if parts != whole.Day {
					t.Fatalf("the parts of Span(%d, %d, %d) are %d", basis, from, to, parts)
				}
			}
		}
	}
}

func TestInterest(t *testing.T) {
	const most, unit = impl.MaxMoney, impl.RateUnit
	cases := []struct {
		balance, rate, basis, from, to int64
		want                           impl.MoneyOut
	}{
		{1000000, 50000, impl.BasisAct365, 0, 365, money(50000)},
		{1000000, 50000, impl.BasisAct360, 0, 360, money(50000)},
		{1000000, 50000, impl.Basis30E, 0, 366, money(50000)},
		{1000000, 50000, impl.BasisAct365, 0, 31, money(4247)},
		{1000000, 50000, impl.BasisAct360, 0, 31, money(4306)},
		{1000000, 50000, impl.Basis30E, 0, 31, money(4167)},
		{1000000, 50000, impl.BasisAct360, 0, 366, money(50833)},
		{1000000, 50000, impl.BasisAct365, 0, 366, money(50137)},
		// Halves to the even one.
		{1, unit, impl.BasisAct360, 0, 180, money(0)},
		{3, unit, impl.BasisAct360, 0, 180, money(2)},
		{5, unit, impl.BasisAct360, 0, 180, money(2)},
		{1, unit, impl.BasisAct360, 0, 181, money(1)},
		{0, unit, impl.BasisAct365, 0, 365, money(0)},
		{most, 0, impl.BasisAct365, 0, impl.MaxDay, money(0)},
		{most, unit, impl.BasisAct365, 7, 7, money(0)},
		{most, unit, impl.Basis30E, 29, 30, money(0)},
		{most, unit, impl.BasisAct365, 0, 365, money(most)},
		{most, unit, impl.BasisAct360, 0, 360, money(most)},
		{most, unit, impl.Basis30E, 0, 366, money(most)},
		// The code of MulDiv: what is borne is no money, or the factor is too great.
		{most, unit, impl.BasisAct365, 0, 366, refused(impl.ErrRange)},
		{most, unit, impl.BasisAct360, 0, 361, refused(impl.ErrRange)},
		{most, unit, impl.Basis30E, 0, 367, refused(impl.ErrRange)},
		{1000, unit, impl.BasisAct365, 0, 10000, money(27397)},
		{1000, unit, impl.BasisAct365, 0, 10001, refused(impl.ErrForm)},
		{0, unit, impl.BasisAct365, 0, impl.MaxDay, refused(impl.ErrForm)},
		{1000, 273792, impl.BasisAct365, 0, impl.MaxDay, money(27397)},
		{1000, 273793, impl.BasisAct365, 0, impl.MaxDay, refused(impl.ErrForm)},
		{most, unit, impl.BasisAct365, 0, impl.MaxDay, refused(impl.ErrForm)},
		{-1, 1, impl.BasisAct365, 0, 1, refused(impl.ErrForm)},
		{-most, 1, impl.BasisAct365, 0, 1, refused(impl.ErrForm)},
		{-1, 0, impl.BasisAct365, 0, 0, refused(impl.ErrForm)},
		{most + 1, 0, impl.BasisAct365, 0, 0, refused(impl.ErrForm)},
		{most + 1, 1, impl.BasisAct365, 0, 1, refused(impl.ErrForm)},
		{math.MaxInt64, 1, impl.BasisAct365, 0, 1, refused(impl.ErrForm)},
		{math.MinInt64, 1, impl.BasisAct365, 0, 1, refused(impl.ErrForm)},
		{1, -1, impl.BasisAct365, 0, 1, refused(impl.ErrForm)},
		{1, unit + 1, impl.BasisAct365, 0, 1, refused(impl.ErrForm)},
		{0, -1, impl.BasisAct365, 0, 0, refused(impl.ErrForm)},
		{0, unit + 1, impl.BasisAct365, 0, 0, refused(impl.ErrForm)},
		{1, math.MaxInt64, impl.BasisAct365, 0, 1, refused(impl.ErrForm)},
		{1, math.MinInt64, impl.BasisAct365, 0, 1, refused(impl.ErrForm)},
		{0, 0, 0, 0, 1, refused(impl.ErrForm)},
		{0, 0, 4, 0, 1, refused(impl.ErrForm)},
		{1, 1, impl.BasisAct365, -1, 1, refused(impl.ErrForm)},
		{1, 1, impl.BasisAct365, 0, impl.MaxDay + 1, refused(impl.ErrForm)},
		{1, 1, impl.BasisAct365, 2, 1, refused(impl.ErrForm)},
		{1, 1, impl.Basis30E, 30, 29, refused(impl.ErrForm)},
		{1, 1, impl.BasisAct365, math.MinInt64, math.MaxInt64, refused(impl.ErrForm)},
	}
	for _, c := range cases {
		if got := impl.Interest(c.balance, c.rate, c.basis, c.from, c.to); got != c.want {
			t.Errorf("Interest(%d, %d, %d, %d, %d) is %+v, not %+v", c.balance, c.rate, c.basis, c.from, c.to, got, c.want)
		}
	}
}

// interestOf: what Interest tells of what it takes, by numbers without bounds.
func interestOf(balance int64, rate int64, basis int64, from int64, to int64) impl.MoneyOut {
	span, year := to-from, int64(360)
	switch basis {
	case impl.BasisAct365:
		year = 365
	case impl.Basis30E:
		span = evenSpan(from, to)
	}
	if rate*span > impl.MaxFactor {
		return refused(impl.ErrForm)
	}
	return bounded(nearestOf(balance, rate*span, impl.RateUnit*year))
}

// spans: from and to of all sizes.
func spans() [][2]int64 {
	list := [][2]int64{{0, 0}, {0, 1}, {30, 31}, {0, 31}, {59, 60}, {0, 366}, {366, 731}, {0, 10000},
		{0, 10001}, {0, impl.MaxDay}, {impl.MaxDay, impl.MaxDay}}
	for n := int64(0); n < impl.MaxDay-2000; n += 1733 {
		list = append(list, [2]int64{n, n + n%400}, [2]int64{n, n + 30}, [2]int64{n + 1, n + 1827})
	}
	return list
}

// Promise 7: a greater balance bears no less interest, nothing is borne by nothing, or over no days.
func TestInterestBorne(t *testing.T) {
	balances := []int64{0, 1, 2, 3, 49, 50, 51, 179, 180, 181, 365, 1000, 99999, 100001, 123456789,
		10000000000, 333333333333, impl.MaxMoney - 1, impl.MaxMoney}
	for basis := int64(impl.BasisAct365); basis <= impl.Basis30E; basis++ {
		for _, rate := range []int64{0, 1, 365, 1000, 52500, 500000, impl.RateUnit - 1, impl.RateUnit} {
			for _, s := range spans() {
				last := int64(0)
				for _, balance := range balances {
					got := impl.Interest(balance, rate, basis, s[0], s[1])
					if want := interestOf(balance, rate, basis, s[0], s[1]); got != want {
						t.Fatalf("Interest(%d, %d, %d, %v) is %+v, not %+v", balance, rate, basis, s, got, want)
					}
					if got.N != 0 && (balance == 0 || rate == 0 || s[0] == s[1]) {
						t.Fatalf("Interest(%d, %d, %d, %v) is %+v", balance, rate, basis, s, got)
					}
					if got.Code == impl.OK && got.N < last {
						t.Fatalf("Interest(%d, %d, %d, %v) is %+v, of less %d", balance, rate, basis, s, got, last)
					}
					last = got.N
				}
			}
		}
	}
}

func TestDateText(t *testing.T) {
	cases := []struct {
		day  int64
		want string
	}{
		{0, "2000-01-01"},
		{8, "2000-01-09"},
		{9, "2000-01-10"},
		{59, "2000-02-29"},
		{366, "2001-01-01"},
		{dayAt(2010, 10, 10), "2010-10-10"},
		{dayAt(2096, 2, 29), "2096-02-29"},
		{impl.MaxDay, "2099-12-31"},
	}
	for _, c := range cases {
		if got := impl.DateText(c.day); got != c.want {
			t.Errorf("DateText(%d) is %q, not %q", c.day, got, c.want)
		}
	}
	for _, n := range noDays() {
		if got := impl.DateText(n); got != "" {
			t.Errorf("DateText(%d) is %q", n, got)
		}
	}
}

func TestDateRead(t *testing.T) {
	long := strings.Repeat("2", impl.MaxBytes)
	wrong := []string{
		"", "-", "--", "0", "2000", "2000-01", "2000-01-", "2000-01-0", "2000-01-1", "2000-1-01", "200-01-01",
		"2000-01-011", "2000-01-001", "2000-001-01", "02000-01-01", "20000-01-01", "-2000-01-01",
		"+2000-01-01", "2000-01-01-", "-000-01-01", "2000--1-01", "2000-01--1", "2000-+1-01", "20000101",
		"2000/01/01", "2000.01.01", "2000-01/01", "2000/01-01", "2000 01 01", "2000:01:01", "2000_01_01",
		"2000\u201301-01", " 2000-01-01", "2000-01-01 ", "2000- 1-01", "2000-01- 1", "2000-01-01\n",
		"2000-01-01\x00", "2000-01-0a", "2000-0a-01", "a000-01-01", "2000-01-0\xff", "\xff2000-01-01",
		"2000-01-0\u0661", "\uff12000-01-01", "200001-01-", "2000-0101-", "20-00-01-01", "2-000-01-01",
		"2000-00-01", "2000-13-01", "2000-01-00", "2000-01-32", "2000-02-30", "2001-02-29", "2099-02-29",
		"2096-02-30", "2000-04-31", "2000-06-31", "2000-09-31", "2000-11-31", "2000-12-32", "2000-99-99",
		"1999-12-31", "2100-01-01", "0000-00-00", "0000-01-01", "9999-12-31", "1900-01-01", "3000-01-01",
		"01-01-2000", "2000-1-1", "00-01-01", "184467440737095516162000-01-01",
		long, long[6:] + "-01-01", "2000-01-01" + strings.Repeat(" ", impl.MaxBytes-10),
		strings.Repeat("-", impl.MaxBytes), strings.Repeat("0", impl.MaxBytes-10) + "2000-01-01",
	}
	for _, text := range wrong {
		if got := impl.DateRead(text); got != noDay(impl.ErrSyntax) {
			t.Errorf("DateRead(%.40q) is %+v", text, got)
		}
	}
	for _, text := range []string{long + "2", long + "-01-01", "2000-01-01" + strings.Repeat(" ", impl.MaxBytes-9)} {
		if got := impl.DateRead(text); got != noDay(impl.ErrSize) {
			t.Errorf("DateRead of %d bytes is %+v", len(text), got)
		}
	}
}

// Of all texts one byte away from a day's just those are read that are a day's too.
func TestDateReadNothingElse(t *testing.T) {
	texts := map[string]int64{}
	for n := int64(0); n <= impl.MaxDay; n++ {
		texts[timeOf(n).Format("2006-01-02")] = n
	}
	for _, n := range []int64{0, 59, dayAt(2019, 9, 30), dayAt(2096, 2, 29), impl.MaxDay} {
		text := timeOf(n).Format("2006-01-02")
		for at := range text {
			for b := range 256 {
				other := text[:at] + string([]byte{byte(b)}) + text[at+1:]
				want := noDay(impl.ErrSyntax)
				if number, there := texts[other]; there {
					want = day(number)
				}
				if got := impl.DateRead(other); got != want {
					t.Errorf("DateRead(%q) is %+v, not %+v", other, got, want)
				}
			}
		}
	}
}
