package civil_test

import (
	"math"
	"testing"
	"time"

	"noontide/api"
	"noontide/civil"
)

const (
	firstDay = -15329228 // January 1 of -40000
	lastDay  = 13890537  // December 31 of 40000
)

func date(year, month, day int) api.Date {
	return api.Date{Year: year, Month: month, Day: day}
}

// next goes on by a calendar of the test's own.
func next(d api.Date) api.Date {
	lengths := [13]int{0, 31, 28, 31, 30, 31, 30, 31, 31, 30, 31, 30, 31}
	if d.Year%400 == 0 || d.Year%4 == 0 && d.Year%100 != 0 {
		lengths[2] = 29
	}
	switch {
	case d.Day < lengths[d.Month]:
		return date(d.Year, d.Month, d.Day+1)
	case d.Month < 12:
		return date(d.Year, d.Month+1, 1)
	}
	return date(d.Year+1, 1, 1)
}

// Promise 3.1: leap years, of any year.
func TestLeap(t *testing.T) {
	// The least int is divided by 4, and not by 100, as the greatest one less 3 is.
	tests := map[int]bool{
		2000: true, 1900: false, 2004: true, 2001: false, 2100: false, 0: true, -1: false, -4: true, -100: false, -400: true,
		40000: true, 40004: true, -40100: false, math.MinInt: true, math.MaxInt: false, math.MaxInt - 3: true,
	}
	for year, leap := range tests {
		if civil.Leap(year) != leap {
			t.Errorf("Leap of %d: %t", year, !leap)
		}
	}
}

// Promise 3.1: how long months are, and that there are twelve.
func TestLen(t *testing.T) {
	plain := [14]int{0, 31, 28, 31, 30, 31, 30, 31, 31, 30, 31, 30, 31, 0}
	for month, days := range plain {
		leap := days
		if month == 2 {
			leap = 29
		}
		for _, year := range []int{2001, 1900, -1, 99999, math.MaxInt} {
			if n := civil.Len(year, month); n != days {
				t.Errorf("Len of %d, %d: %d", year, month, n)
			}
		}
		for _, year := range []int{2000, 0, -4, 1 << 40} {
			if n := civil.Len(year, month); n != leap {
				t.Errorf("Len of %d, %d: %d", year, month, n)
			}
		}
	}
	for _, month := range []int{-1, -12, 14, math.MinInt, math.MaxInt} {
		if n := civil.Len(2000, month); n != 0 {
			t.Errorf("Len of 2000, %d: %d", month, n)
		}
	}
}

func wrongDates() []api.Date {
	return []api.Date{
		{}, date(1900, 2, 29), date(2001, 2, 29), date(2000, 2, 30), date(1, 4, 31), date(2000, 1, 32), date(2000, 1, 0), date(2000, 1, -1),
		date(2000, 0, 1), date(2000, 13, 1), date(2000, -1, 1), date(40001, 1, 1), date(-40001, 12, 31),
		date(math.MaxInt, 1, 1), date(math.MinInt, 1, 1), date(2000, math.MaxInt, 1), date(2000, math.MinInt, 1), date(2000, 1, math.MaxInt), date(2000, 1, math.MinInt),
	}
}

// Promises 3.1 and 3.2: what may not be is neither right nor has it a number or a place in its year.
func TestWrongDates(t *testing.T) {
	for _, d := range wrongDates() {
		if civil.Right(d) {
			t.Errorf("%v is right", d)
		}
		if n, why := civil.Days(d); n != 0 || why != api.ErrRange {
			t.Errorf("Days of %v: %d, %d", d, n, why)
		}
		if n, why := civil.YearDay(d); n != 0 || why != api.ErrRange {
			t.Errorf("YearDay of %v: %d, %d", d, n, why)
		}
	}
	for _, n := range []int64{firstDay - 1, lastDay + 1, 1 << 40, math.MinInt64, math.MaxInt64} {
		if d, why := civil.Date(n); d != (api.Date{}) || why != api.ErrRange {
			t.Errorf("Date of %d: %v, %d", n, d, why)
		}
	}
}

// Promises 3.1 and 3.2: days whose numbers are known, and the ends.
func TestDays(t *testing.T) {
	tests := []struct {
		d       api.Date
		n       int64
		yearDay int
	}{
		{date(1970, 1, 1), 0, 1},
		{date(1969, 12, 31), -1, 365},
		{date(2000, 2, 29), 11016, 60},
		{date(2000, 3, 1), 11017, 61},
		{date(2000, 12, 31), 11322, 366},
		{date(1900, 2, 28), -25509, 59},
		{date(1900, 3, 1), -25508, 60},
		{date(0, 1, 1), -719528, 1},
		{date(0, 2, 29), -719469, 60},
		{date(-1, 12, 31), -719529, 365},
		{date(-40000, 1, 1), firstDay, 1},
		{date(40000, 12, 31), lastDay, 366},
	}
	for _, x := range tests {
		if !civil.Right(x.d) {
			t.Errorf("%v is not right", x.d)
		}
		if n, why := civil.Days(x.d); n != x.n || why != api.OK {
			t.Errorf("Days of %v: %d, %d", x.d, n, why)
		}
		if d, why := civil.Date(x.n); d != x.d || why != api.OK {
			t.Errorf("Date of %d: %v, %d", x.n, d, why)
		}
		if n, why := civil.YearDay(x.d); n != x.yearDay || why != api.OK {
			t.Errorf("YearDay of %v: %d, %d", x.d, n, why)
		}
	}
}

// Promise 3.2: weekdays of any number.
func TestWeekday(t *testing.T) {
	// Great is divided by 7, so it is a Thursday as day 0 is; Least is 1 ahead of such a number.
	tests := map[int64]int{
		0: 4, 1: 5, 2: 6, 3: 0, -1: 3, -4: 0, -5: 6, 7: 4, -7: 4, 11017: 3,
		math.MaxInt64: 4, math.MaxInt64 - 7: 4, math.MaxInt64 - 1: 3, math.MinInt64: 3, math.MinInt64 + 7: 3, math.MinInt64 + 1: 4,
	}
	for n, weekday := range tests {
		if w := civil.Weekday(n); w != weekday {
			t.Errorf("Weekday of %d: %d, not %d", n, w, weekday)
		}
	}
}

// Promise 3.3: the year goes ahead of the month, that of the day; of any fields.
func TestCompare(t *testing.T) {
	line := []api.Date{
		date(math.MinInt, math.MaxInt, math.MaxInt), date(-1, 12, 31), date(0, math.MinInt, 5), date(0, 0, -1), date(0, 0, 0), date(0, 0, 1),
		date(1, 2, 3), date(1, 2, 99), date(1, 3, 0), date(2, 1, 1), date(2, 1, math.MaxInt), date(math.MaxInt, 0, 0),
	}
	for i, a := range line {
		for j, b := range line {
			want := 0
			if i < j {
				want = -1
			} else if i > j {
				want = 1
			}
			if n := civil.Compare(a, b); n != want {
				t.Errorf("Compare of %v and %v: %d", a, b, n)
			}
		}
	}
}

// Promises 3.4 and 3.5: all days, one behind the other.
func TestAllDays(t *testing.T) {
	d, weekday, yearDay := date(-40000, 1, 1), 6, 1
	for n := int64(firstDay); n <= lastDay; n++ {
		if back, why := civil.Date(n); back != d || why != api.OK {
			t.Fatalf("Date of %d: %v, %d; not %v", n, back, why, d)
		}
		if number, why := civil.Days(d); number != n || why != api.OK {
			t.Fatalf("Days of %v: %d, %d; not %d", d, number, why, n)
		}
		if w := civil.Weekday(n); w != weekday {
			t.Fatalf("Weekday of %d: %d, not %d", n, w, weekday)
		}
		if of, why := civil.YearDay(d); of != yearDay || why != api.OK {
			t.Fatalf("YearDay of %v: %d, %d; not %d", d, of, why, yearDay)
		}
		behind := next(d)
		if civil.Compare(d, behind) != -1 || civil.Compare(behind, d) != 1 {
			t.Fatalf("%v and %v are not in order", d, behind)
		}
		yearDay++
		if behind.Year != d.Year {
			yearDay = 1
		}
		d, weekday = behind, (weekday+1)%7
	}
	if d != date(40001, 1, 1) {
		t.Errorf("the day behind the last one is %v", d)
	}
}

// Promise 3.2: the days of these years are those of the library's calendar.
func TestAgainstTheLibrary(t *testing.T) {
	for year := -40000; year <= 40000; year += 7 {
		for month := 1; month <= 12; month++ {
			d := date(year, month, 28)
			day := time.Date(year, time.Month(month), 28, 0, 0, 0, 0, time.UTC)
			n, why := civil.Days(d)
			if want := day.Unix() / 86400; n != want || why != api.OK {
				t.Errorf("Days of %v: %d, %d; not %d", d, n, why, want)
			}
			if w := civil.Weekday(n); w != int(day.Weekday()) {
				t.Errorf("Weekday of %v: %d", d, w)
			}
		}
	}
}
