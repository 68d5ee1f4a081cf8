package dayrule_test

import (
	"math"
	"testing"
	"time"

	"noontide/api"
	"noontide/civil"
	"noontide/dayrule"
)

func on(kind, week, day int) api.On {
	return api.On{Kind: kind, Week: week, Day: day}
}

// mostDays are how many days a month has in each year.
func mostDays(month int) int {
	return [13]int{0, 31, 28, 31, 30, 31, 30, 31, 31, 30, 31, 30, 31}[month]
}

// names are all names of days that may be.
func names() []api.On {
	var l []api.On
	for day := 1; day <= 31; day++ {
		l = append(l, on(api.OnDay, 0, day))
		for week := 0; week <= 6; week++ {
			l = append(l, on(api.OnFrom, week, day), on(api.OnUpTo, week, day))
		}
	}
	for week := 0; week <= 6; week++ {
		l = append(l, on(api.OnLast, week, 0))
	}
	return l
}

// wrongNames are such as may not be.
func wrongNames() []api.On {
	wrong := []api.On{{}, on(api.OnDay, 1, 1), on(api.OnDay, -1, 1), on(api.OnDay, 6, 31), on(api.OnLast, 0, 1), on(api.OnLast, 6, -1), on(api.OnLast, 3, 31)}
	for _, n := range []int{math.MinInt, -1, 7, math.MaxInt} {
		wrong = append(wrong, on(api.OnDay, n, 1), on(api.OnLast, n, 0), on(api.OnFrom, n, 1), on(api.OnUpTo, n, 1))
	}
	for _, n := range []int{math.MinInt, -1, 0, 32, math.MaxInt} {
		wrong = append(wrong, on(api.OnDay, 0, n), on(api.OnFrom, 0, n), on(api.OnFrom, 6, n), on(api.OnUpTo, 0, n), on(api.OnUpTo, 6, n))
	}
	for _, n := range []int{math.MinInt, math.MaxInt} {
		wrong = append(wrong, on(api.OnLast, 0, n))
	}
	for _, n := range []int{math.MinInt, -1, 4, math.MaxInt} {
		wrong = append(wrong, on(n, 0, 1), on(n, 3, 5), on(n, 0, 0))
	}
	return wrong
}

func wrongMonths() []int {
	return []int{math.MinInt, -12, -1, 0, 13, 14, math.MaxInt}
}

// Promise 5.1: which names may be, and which months they fit.
func TestRightAndFits(t *testing.T) {
	for _, o := range names() {
		if !dayrule.Right(o) {
			t.Errorf("%v is not right", o)
		}
		for month := 1; month <= 12; month++ {
			if fits := o.Kind == api.OnLast || o.Day <= mostDays(month); dayrule.Fits(o, month) != fits {
				t.Errorf("%v fits %d: %t", o, month, !fits)
			}
		}
		for _, month := range wrongMonths() {
			if dayrule.Fits(o, month) {
				t.Errorf("%v fits %d", o, month)
			}
		}
	}
	for _, o := range wrongNames() {
		if dayrule.Right(o) {
			t.Errorf("%v is right", o)
		}
		for month := -1; month <= 14; month++ {
			if dayrule.Fits(o, month) {
				t.Errorf("%v fits %d", o, month)
			}
		}
	}
}

// Promise 5.2: days that are known.
func TestDays(t *testing.T) {
	tests := []struct {
		o           api.On
		year, month int
		d           api.Date
	}{
		{on(api.OnFrom, 0, 8), 2024, 3, api.Date{Year: 2024, Month: 3, Day: 10}},
		{on(api.OnLast, 0, 0), 2024, 10, api.Date{Year: 2024, Month: 10, Day: 27}},
		{on(api.OnUpTo, 0, 2), 2024, 3, api.Date{Year: 2024, Month: 2, Day: 25}},
		{on(api.OnDay, 0, 5), 1970, 1, api.Date{Year: 1970, Month: 1, Day: 5}},
		{on(api.OnFrom, 0, 10), 2024, 3, api.Date{Year: 2024, Month: 3, Day: 10}},
		{on(api.OnFrom, 0, 11), 2024, 3, api.Date{Year: 2024, Month: 3, Day: 17}},
		{on(api.OnUpTo, 0, 10), 2024, 3, api.Date{Year: 2024, Month: 3, Day: 10}},
		{on(api.OnUpTo, 0, 9), 2024, 3, api.Date{Year: 2024, Month: 3, Day: 3}},
		{on(api.OnLast, 4, 0), 2024, 2, api.Date{Year: 2024, Month: 2, Day: 29}},
		{on(api.OnLast, 3, 0), 2023, 2, api.Date{Year: 2023, Month: 2, Day: 22}},
		{on(api.OnFrom, 1, 31), 2024, 12, api.Date{Year: 2025, Month: 1, Day: 6}},
		{on(api.OnUpTo, 1, 1), 2023, 1, api.Date{Year: 2022, Month: 12, Day: 26}},
		{on(api.OnFrom, 3, 28), 2024, 2, api.Date{Year: 2024, Month: 2, Day: 28}},
		{on(api.OnFrom, 5, 28), 2024, 2, api.Date{Year: 2024, Month: 3, Day: 1}},
	}
	for _, x := range tests {
		want, _ := civil.Days(x.d)
		if n, why := dayrule.Days(x.o, x.year, x.month); n != want || why != api.OK {
			t.Errorf("Days of %v in %d, %d: %d, %d; not %d", x.o, x.year, x.month, n, why, want)
		}
	}
}

// Promise 5.2: what does not fit is told ahead of a year in which nothing is found.
func TestDaysErrors(t *testing.T) {
	type ask struct {
		o           api.On
		year, month int
	}
	tests := map[ask]api.Errno{
		{on(api.OnDay, 0, 29), 2024, 2}:             api.ErrForm,
		{on(api.OnDay, 0, 29), 40000, 2}:            api.ErrForm,
		{on(api.OnFrom, 0, 31), 2024, 4}:            api.ErrForm,
		{on(api.OnUpTo, 0, 30), math.MaxInt, 2}:     api.ErrForm,
		{on(api.OnDay, 0, 28), 40000, 2}:            api.ErrRange,
		{on(api.OnDay, 0, 28), -40000, 2}:           api.ErrRange,
		{on(api.OnLast, 0, 0), 40000, 6}:            api.ErrRange,
		{on(api.OnFrom, 0, 1), -40000, 6}:           api.ErrRange,
		{on(api.OnUpTo, 0, 1), 40001, 6}:            api.ErrRange,
		{on(api.OnUpTo, 0, 1), math.MaxInt, 6}:      api.ErrRange,
		{on(api.OnFrom, 6, 31), math.MinInt, 12}:    api.ErrRange,
		{on(api.OnLast, 6, 0), math.MinInt, 0}:      api.ErrForm,
		{on(api.OnLast, 6, 0), 2024, math.MaxInt}:   api.ErrForm,
		{on(api.OnDay, 0, 1), 2024, math.MinInt}:    api.ErrForm,
		{on(api.OnFrom, 7, 1), 2024, 1}:             api.ErrForm,
		{on(4, 0, 1), 2024, 1}:                      api.ErrForm,
		{on(api.OnFrom, 0, math.MaxInt), 2024, 1}:   api.ErrForm,
		{on(api.OnUpTo, 0, math.MinInt), 40000, 12}: api.ErrForm,
	}
	for x, want := range tests {
		if n, why := dayrule.Days(x.o, x.year, x.month); n != 0 || why != want {
			t.Errorf("Days of %v in %d, %d: %d, %d; not %d", x.o, x.year, x.month, n, why, want)
		}
	}
	for _, o := range wrongNames() {
		for month := 1; month <= 12; month++ {
			if n, why := dayrule.Days(o, 2024, month); n != 0 || why != api.ErrForm {
				t.Errorf("Days of %v in %d: %d, %d", o, month, n, why)
			}
		}
	}
}

// walked goes to the day step by step, by the library's calendar.
func walked(o api.On, year, month int) time.Time {
	day, step := o.Day, 1
	switch o.Kind {
	case api.OnDay:
		return time.Date(year, time.Month(month), day, 0, 0, 0, 0, time.UTC)
	case api.OnLast:
		month, day, step = month+1, 0, -1
	case api.OnUpTo:
		step = -1
	}
	for d := time.Date(year, time.Month(month), day, 0, 0, 0, 0, time.UTC); ; d = d.AddDate(0, 0, step) {
		if int(d.Weekday()) == o.Week {
			return d
		}
	}
}

// Promises 5.2 and 5.4: all names in all months of years of each kind and at the ends: the day, its weekday, and that it lies in the window.
func TestWalked(t *testing.T) {
	years := []int{-39999, -39998, -39996, -101, -100, -4, -1, 0, 1, 1900, 1970, 39996, 39998, 39999}
	for year := 2000; year < 2028; year++ {
		years = append(years, year)
	}
	for _, o := range names() {
		for month := 1; month <= 12; month++ {
			if !dayrule.Fits(o, month) {
				continue
			}
			for _, year := range years {
				checkWalked(t, o, year, month)
			}
		}
	}
}

func checkWalked(t *testing.T, o api.On, year, month int) {
	t.Helper()
	want := walked(o, year, month).Unix() / 86400
	n, why := dayrule.Days(o, year, month)
	if n != want || why != api.OK {
		t.Fatalf("Days of %v in %d, %d: %d, %d; not %d", o, year, month, n, why, want)
	}
	if o.Kind != api.OnDay && civil.Weekday(n) != o.Week {
		t.Fatalf("Days of %v in %d, %d: weekday %d", o, year, month, civil.Weekday(n))
	}
	first, _ := civil.Days(api.Date{Year: year, Month: month, Day: 1})
	low, high, why := dayrule.Window(o, month)
	if at := int(n-first) + 1; at < low || at > high || why != api.OK {
		t.Fatalf("Days of %v in %d, %d: day %d, outside of %d to %d (%d)", o, year, month, at, low, high, why)
	}
}

// Promise 5.3: windows that are known, and names that fit no month.
func TestWindow(t *testing.T) {
	tests := []struct {
		o                api.On
		month, low, high int
		why              api.Errno
	}{
		{on(api.OnDay, 0, 28), 2, 28, 28, api.OK},
		{on(api.OnDay, 0, 31), 12, 31, 31, api.OK},
		{on(api.OnLast, 3, 0), 2, 22, 29, api.OK},
		{on(api.OnLast, 0, 0), 1, 25, 31, api.OK},
		{on(api.OnLast, 6, 0), 4, 24, 30, api.OK},
		{on(api.OnFrom, 0, 1), 5, 1, 7, api.OK},
		{on(api.OnFrom, 6, 30), 11, 30, 36, api.OK},
		{on(api.OnUpTo, 0, 1), 1, -5, 1, api.OK},
		{on(api.OnUpTo, 6, 31), 7, 25, 31, api.OK},
		{on(api.OnDay, 0, 29), 2, 0, 0, api.ErrForm},
		{on(api.OnFrom, 0, 31), 9, 0, 0, api.ErrForm},
		{on(api.OnUpTo, 0, 30), 2, 0, 0, api.ErrForm},
		{on(api.OnDay, 0, 0), 1, 0, 0, api.ErrForm},
	}
	for _, x := range tests {
		if low, high, why := dayrule.Window(x.o, x.month); low != x.low || high != x.high || why != x.why {
			t.Errorf("Window of %v in %d: %d, %d, %d", x.o, x.month, low, high, why)
		}
	}
	for _, o := range wrongNames() {
		if low, high, why := dayrule.Window(o, 1); low != 0 || high != 0 || why != api.ErrForm {
			t.Errorf("Window of %v: %d, %d, %d", o, low, high, why)
		}
	}
	for _, month := range wrongMonths() {
		for _, o := range []api.On{on(api.OnDay, 0, 1), on(api.OnLast, 0, 0), on(api.OnFrom, 0, 1), on(api.OnUpTo, 0, 1)} {
			if low, high, why := dayrule.Window(o, month); low != 0 || high != 0 || why != api.ErrForm {
				t.Errorf("Window of %v in %d: %d, %d, %d", o, month, low, high, why)
			}
		}
	}
}

// Promise 5.3: both ends of each window are met in some year.
func TestWindowIsTight(t *testing.T) {
	for _, o := range names() {
		for month := 1; month <= 12; month++ {
			low, high, why := dayrule.Window(o, month)
			if why != api.OK {
				continue
			}
			least, most := 99, -99
			for year := 2000; year < 2028; year++ {
				n, _ := dayrule.Days(o, year, month)
				first, _ := civil.Days(api.Date{Year: year, Month: month, Day: 1})
				at := int(n-first) + 1
				least, most = min(least, at), max(most, at)
			}
			if least != low || most != high {
				t.Errorf("%v in %d: from %d to %d, and the window is %d to %d", o, month, least, most, low, high)
			}
		}
	}
}

// Promise 5.5: from a day on, and up to 6 days later, is one day.
func TestInEachWeekOne(t *testing.T) {
	for month := 1; month <= 12; month++ {
		for day := 1; day <= mostDays(month); day++ {
			for week := 0; week <= 6; week++ {
				checkWeek(t, 2023, month, day, week)
				checkWeek(t, 2024, month, day, week)
			}
		}
	}
}

func checkWeek(t *testing.T, year, month, day, week int) {
	t.Helper()
	start, _ := civil.Days(api.Date{Year: year, Month: month, Day: day})
	from, why := dayrule.Days(on(api.OnFrom, week, day), year, month)
	if from < start || from > start+6 || why != api.OK {
		t.Fatalf("from %d-%d-%d on, weekday %d: %d, %d", year, month, day, week, from, why)
	}
	later, _ := civil.Date(start + 6)
	if !dayrule.Fits(on(api.OnUpTo, week, later.Day), later.Month) {
		return
	}
	if upTo, why := dayrule.Days(on(api.OnUpTo, week, later.Day), later.Year, later.Month); upTo != from || why != api.OK {
		t.Fatalf("up to 6 days behind %d-%d-%d, weekday %d: %d, %d; not %d", year, month, day, week, upTo, why, from)
	}
}
