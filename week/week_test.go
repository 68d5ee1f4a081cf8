package week_test

import (
	"math"
	"testing"
	"time"

	"noontide/api"
	"noontide/civil"
	"noontide/week"
)

const (
	firstDay = -15328862 // Monday of the first week of -39999, its January 1
	lastDay  = 13890173  // Sunday of the last week of 39999
)

func date(year, month, day int) api.Date {
	return api.Date{Year: year, Month: month, Day: day}
}

func by(year, n, day int) api.Week {
	return api.Week{Year: year, Week: n, Day: day}
}

// Promise 7.1: how many weeks years have.
func TestWeeks(t *testing.T) {
	tests := map[int]int{
		2020: 53, 2021: 52, 2015: 53, 2026: 53, 2024: 52, 2025: 52, 2000: 52, 1903: 53, 1908: 53, 1976: 53, 1981: 53, 0: 52, -1: 52,
		40000: 0, -40000: 0, 40001: 0, math.MaxInt: 0, math.MinInt: 0,
	}
	for year, n := range tests {
		if weeks := week.Weeks(year); weeks != n {
			t.Errorf("Weeks of %d: %d, not %d", year, weeks, n)
		}
	}
	for year := -39999; year <= 39999; year++ {
		// December 28 is in the last week of its year.
		_, n := time.Date(year, 12, 28, 0, 0, 0, 0, time.UTC).ISOWeek()
		if weeks := week.Weeks(year); weeks != n {
			t.Fatalf("Weeks of %d: %d, not %d", year, weeks, n)
		}
	}
}

func wrongWeeks() []api.Week {
	wrong := []api.Week{{}, by(2021, 53, 1), by(2020, 54, 1), by(40000, 1, 1), by(-40000, 52, 7), by(40001, 1, 1), by(math.MaxInt, 1, 1), by(math.MinInt, 1, 1)}
	for _, n := range []int{math.MinInt, -1, 0, 54, math.MaxInt} {
		wrong = append(wrong, by(2020, n, 1))
	}
	for _, n := range []int{math.MinInt, -1, 0, 8, math.MaxInt} {
		wrong = append(wrong, by(2020, 1, n))
	}
	return wrong
}

// Promises 7.1 and 7.2: what may not be has neither date nor text.
func TestWrongWeeks(t *testing.T) {
	for _, w := range wrongWeeks() {
		if week.Right(w) {
			t.Errorf("%v is right", w)
		}
		if d, why := week.Date(w); d != (api.Date{}) || why != api.ErrRange {
			t.Errorf("Date of %v: %v, %d", w, d, why)
		}
		if text := week.Text(w); text != "" {
			t.Errorf("Text of %v: %q", w, text)
		}
	}
}

// Promises 7.1 to 7.3: days that are known, there and back, and their texts.
func TestKnown(t *testing.T) {
	tests := []struct {
		d    api.Date
		w    api.Week
		text string
	}{
		{date(2021, 1, 1), by(2020, 53, 5), "2020-W53-5"},
		{date(2021, 1, 3), by(2020, 53, 7), "2020-W53-7"},
		{date(2021, 1, 4), by(2021, 1, 1), "2021-W01-1"},
		{date(2024, 12, 30), by(2025, 1, 1), "2025-W01-1"},
		{date(2024, 12, 29), by(2024, 52, 7), "2024-W52-7"},
		{date(1970, 1, 1), by(1970, 1, 4), "1970-W01-4"},
		{date(2024, 3, 3), by(2024, 9, 7), "2024-W09-7"},
		{date(2024, 3, 4), by(2024, 10, 1), "2024-W10-1"},
		{date(0, 1, 1), by(-1, 52, 6), "-0001-W52-6"},
		{date(0, 1, 3), by(0, 1, 1), "0000-W01-1"},
		{date(7, 1, 4), by(7, 1, 4), "0007-W01-4"},
		{date(-9999, 7, 1), by(-9999, 26, 7), "-9999-W26-7"},
		{date(10000, 1, 8), by(10000, 1, 6), "10000-W01-6"},
		{date(-39999, 1, 1), by(-39999, 1, 1), "-39999-W01-1"},
		{date(39999, 12, 31), by(39999, 52, 5), "39999-W52-5"},
		{date(40000, 1, 2), by(39999, 52, 7), "39999-W52-7"},
	}
	for _, x := range tests {
		if !week.Right(x.w) {
			t.Errorf("%v is not right", x.w)
		}
		if w, why := week.Of(x.d); w != x.w || why != api.OK {
			t.Errorf("Of %v: %v, %d; not %v", x.d, w, why, x.w)
		}
		if d, why := week.Date(x.w); d != x.d || why != api.OK {
			t.Errorf("Date of %v: %v, %d; not %v", x.w, d, why, x.d)
		}
		if text := week.Text(x.w); text != x.text {
			t.Errorf("Text of %v: %q, not %q", x.w, text, x.text)
		}
	}
}

// Promise 7.2: dates that may not be, and such as are in weeks that may not.
func TestOfErrors(t *testing.T) {
	wrong := []api.Date{
		{}, date(2023, 2, 29), date(2023, 13, 1), date(2023, 1, 0), date(2023, 1, 32), date(math.MaxInt, 1, 1), date(math.MinInt, 1, 1), date(2023, math.MinInt, math.MaxInt),
		date(40001, 1, 1), date(-40001, 12, 31), date(40000, 1, 3), date(40000, 6, 1), date(40000, 12, 31), date(-40000, 1, 1), date(-40000, 6, 1), date(-40000, 12, 31),
	}
	for _, d := range wrong {
		if w, why := week.Of(d); w != (api.Week{}) || why != api.ErrRange {
			t.Errorf("Of %v: %v, %d", d, w, why)
		}
	}
}

// Promise 7.2: the two years at the ends, day by day, but for what is by its week in the next ones.
func TestEnds(t *testing.T) {
	for year, within := range map[int]func(n int64) bool{
		-40000: func(n int64) bool { return n >= firstDay },
		40000:  func(n int64) bool { return n <= lastDay },
	} {
		first, _ := civil.Days(date(year, 1, 1))
		last, _ := civil.Days(date(year, 12, 31))
		for n := first; n <= last; n++ {
			d, _ := civil.Date(n)
			if w, why := week.Of(d); (why == api.OK) != within(n) || week.Right(w) != within(n) {
				t.Fatalf("Of %v: %v, %d", d, w, why)
			}
		}
	}
}

// Promises 7.2 to 7.4: all days that have a week, one behind the other, by a count of the test's own; the year's length is that of its Thursdays.
func TestAllDays(t *testing.T) {
	w := by(-39999, 1, 1)
	for n := int64(firstDay); n <= lastDay; n++ {
		d, _ := civil.Date(n)
		if of, why := week.Of(d); of != w || why != api.OK {
			t.Fatalf("Of %v: %v, %d; not %v", d, of, why, w)
		}
		if back, why := week.Date(w); back != d || why != api.OK {
			t.Fatalf("Date of %v: %v, %d; not %v", w, back, why, d)
		}
		w.Day++
		if w.Day > 7 {
			thursday, _ := civil.Date(n + 4)
			w.Week, w.Day = w.Week+1, 1
			if thursday.Year != w.Year {
				w.Year, w.Week = thursday.Year, 1
			}
		}
	}
	if w != by(40000, 1, 1) {
		t.Errorf("behind the last day stands %v", w)
	}
}

// Promise 7.2: days around the edges of years are those of the library's calendar.
func TestAgainstTheLibrary(t *testing.T) {
	for year := -39998; year <= 39998; year += 3 {
		for day := -10; day <= 10; day++ {
			at := time.Date(year, 1, day, 0, 0, 0, 0, time.UTC)
			d := date(at.Year(), int(at.Month()), at.Day())
			isoYear, isoWeek := at.ISOWeek()
			want := by(isoYear, isoWeek, (int(at.Weekday())+6)%7+1)
			if w, why := week.Of(d); w != want || why != api.OK {
				t.Fatalf("Of %v: %v, %d; not %v", d, w, why, want)
			}
		}
	}
}
