package monthly_test

import (
	"math"
	"testing"

	"noontide/api"
	"noontide/civil"
	"noontide/monthly"
)

const (
	firstDay = -15329228 // January 1 of -40000
	lastDay  = 13890537  // December 31 of 40000
)

func date(year, month, day int) api.Date {
	return api.Date{Year: year, Month: month, Day: day}
}

func wrongDates() []api.Date {
	return []api.Date{
		{}, date(2023, 2, 29), date(2023, 4, 31), date(2023, 0, 1), date(2023, 13, 1), date(2023, 1, 0), date(2023, 1, 32), date(40001, 1, 1), date(-40001, 12, 31),
		date(math.MaxInt, math.MaxInt, math.MaxInt), date(math.MinInt, math.MinInt, math.MinInt), date(math.MinInt, 1, 1), date(2023, math.MaxInt, 1),
	}
}

// step is a move of a date that is known; a date that is empty has ErrRange.
type step struct {
	d    api.Date
	n    int64
	want api.Date
}

func checkSteps(t *testing.T, name string, move func(api.Date, int64) (api.Date, api.Errno), tests []step) {
	t.Helper()
	for _, x := range tests {
		want := api.OK
		if x.want == (api.Date{}) {
			want = api.ErrRange
		}
		if d, why := move(x.d, x.n); d != x.want || why != want {
			t.Errorf("%s of %v by %d: %v, %d; not %v, %d", name, x.d, x.n, d, why, x.want, want)
		}
	}
	for _, d := range wrongDates() {
		for _, n := range []int64{0, 1, -1, math.MinInt64, math.MaxInt64} {
			if moved, why := move(d, n); moved != (api.Date{}) || why != api.ErrRange {
				t.Errorf("%s of %v by %d: %v, %d", name, d, n, moved, why)
			}
		}
	}
}

// Promise 6.1: months added.
func TestAdd(t *testing.T) {
	jan, leap := date(2023, 1, 31), date(2024, 2, 29)
	checkSteps(t, "Add", monthly.Add, []step{
		{jan, 0, jan}, {jan, 1, date(2023, 2, 28)}, {jan, 2, date(2023, 3, 31)}, {jan, 3, date(2023, 4, 30)}, {jan, 11, date(2023, 12, 31)},
		{jan, 12, date(2024, 1, 31)}, {jan, 13, date(2024, 2, 29)}, {jan, -1, date(2022, 12, 31)}, {jan, -2, date(2022, 11, 30)}, {jan, -11, date(2022, 2, 28)},
		{leap, 12, date(2025, 2, 28)}, {leap, -48, date(2020, 2, 29)}, {leap, -12, date(2023, 2, 28)}, {leap, 1, date(2024, 3, 29)},
		{date(0, 1, 15), -1, date(-1, 12, 15)}, {date(-1, 12, 15), 1, date(0, 1, 15)}, {date(-1, 3, 31), -25, date(-3, 2, 28)},
		{date(-40000, 1, 1), 0, date(-40000, 1, 1)}, {date(-40000, 1, 1), -1, api.Date{}}, {date(-40000, 1, 31), 1, date(-40000, 2, 29)},
		{date(40000, 12, 31), 0, date(40000, 12, 31)}, {date(40000, 12, 1), 1, api.Date{}}, {date(40000, 12, 31), -1, date(40000, 11, 30)},
		{date(-40000, 1, 31), 80000*12 + 11, date(40000, 12, 31)}, {date(-40000, 1, 31), 80000*12 + 12, api.Date{}},
		{date(40000, 12, 31), -80000*12 - 11, date(-40000, 1, 31)}, {date(40000, 12, 31), -80000*12 - 12, api.Date{}},
		{jan, 1 << 62, api.Date{}}, {jan, -1 << 62, api.Date{}}, {jan, math.MaxInt64, api.Date{}}, {jan, math.MinInt64, api.Date{}},
		{date(-40000, 1, 1), math.MinInt64, api.Date{}}, {date(-40000, 1, 1), math.MaxInt64, api.Date{}}, {date(1, 1, 1), math.MinInt64, api.Date{}},
		{jan, 12 << 32, api.Date{}}, {jan, -12 << 32, api.Date{}},
	})
}

// Promise 6.1: years added, and products that are too great, which would be small ones, if they went round.
func TestYears(t *testing.T) {
	jan, leap := date(2023, 1, 31), date(2024, 2, 29)
	checkSteps(t, "Years", monthly.Years, []step{
		{jan, 0, jan}, {jan, 1, date(2024, 1, 31)}, {leap, 1, date(2025, 2, 28)}, {leap, -4, date(2020, 2, 29)}, {leap, -124, date(1900, 2, 28)},
		{jan, 40000 - 2023, date(40000, 1, 31)}, {jan, 40001 - 2023, api.Date{}}, {jan, -42023, date(-40000, 1, 31)}, {jan, -42024, api.Date{}},
		{jan, 1 << 62, api.Date{}}, {jan, -1 << 62, api.Date{}}, {jan, math.MaxInt64, api.Date{}}, {jan, math.MinInt64, api.Date{}},
		{jan, math.MaxInt64 / 12, api.Date{}}, {jan, math.MaxInt64/12 + 1, api.Date{}}, {jan, math.MinInt64 / 12, api.Date{}}, {jan, math.MinInt64/12 - 1, api.Date{}},
	})
}

// Promise 6.1: days added.
func TestDays(t *testing.T) {
	jan := date(2023, 1, 31)
	checkSteps(t, "Days", monthly.Days, []step{
		{jan, 0, jan}, {jan, 1, date(2023, 2, 1)}, {jan, 30, date(2023, 3, 2)}, {jan, -31, date(2022, 12, 31)}, {jan, 365, date(2024, 1, 31)},
		{date(2024, 2, 28), 1, date(2024, 2, 29)}, {date(1970, 1, 1), -719529, date(-1, 12, 31)},
		{date(40000, 12, 31), 1, api.Date{}}, {date(40000, 12, 30), 1, date(40000, 12, 31)}, {date(-40000, 1, 1), -1, api.Date{}}, {date(-40000, 1, 2), -1, date(-40000, 1, 1)},
		{date(-40000, 1, 1), lastDay - firstDay, date(40000, 12, 31)}, {date(40000, 12, 31), firstDay - lastDay, date(-40000, 1, 1)},
		{jan, -1 << 62, api.Date{}}, {jan, math.MaxInt64, api.Date{}}, {jan, math.MinInt64, api.Date{}},
		{date(-40000, 1, 1), math.MinInt64, api.Date{}}, {date(40000, 12, 31), math.MaxInt64, api.Date{}},
	})
}

// moved goes on month by month, also to where no date may be.
func moved(d api.Date, n int64) api.Date {
	lengths := [13]int{0, 31, 28, 31, 30, 31, 30, 31, 31, 30, 31, 30, 31}
	m := d
	for ; n > 0; n-- {
		if m.Month++; m.Month > 12 {
			m.Year, m.Month = m.Year+1, 1
		}
	}
	for ; n < 0; n++ {
		if m.Month--; m.Month < 1 {
			m.Year, m.Month = m.Year-1, 12
		}
	}
	if m.Year%400 == 0 || m.Year%4 == 0 && m.Year%100 != 0 {
		lengths[2] = 29
	}
	m.Day = min(m.Day, lengths[m.Month])
	return m
}

func mayBe(d api.Date) bool {
	return d.Year >= -40000 && d.Year <= 40000
}

// between is the answer by the definition: one goes on as long as it is not behind b.
func between(a, b api.Date) (int64, api.Errno) {
	n := int64(-60)
	for civil.Compare(moved(a, n+1), b) <= 0 {
		n++
	}
	if !mayBe(moved(a, n)) || !mayBe(moved(a, n+1)) {
		return 0, api.ErrRange
	}
	return n, api.OK
}

// days are the dates of some days, one behind the other.
func days(first, last int64) []api.Date {
	var l []api.Date
	for n := first; n <= last; n++ {
		d, _ := civil.Date(n)
		l = append(l, d)
	}
	return l
}

// lines are lists of dates in order: around a leap day and around none, around the year 0, at both ends.
func lines() [][]api.Date {
	return [][]api.Date{days(19660, 19800), days(11000, 11030), days(-719540, -719460), days(firstDay, firstDay+100), days(lastDay-100, lastDay)}
}

// Promise 6.1: each date of some years, moved by few and by many months.
func TestMoved(t *testing.T) {
	for _, line := range lines() {
		for _, d := range line {
			for n := int64(-50); n <= 50; n++ {
				want, whyWant := moved(d, n), api.OK
				if !mayBe(want) {
					want, whyWant = api.Date{}, api.ErrRange
				}
				if m, why := monthly.Add(d, n); m != want || why != whyWant {
					t.Fatalf("Add of %v by %d: %v, %d; not %v, %d", d, n, m, why, want, whyWant)
				}
			}
		}
	}
}

// Promise 6.2: months between dates that are known.
func TestBetween(t *testing.T) {
	tests := []struct {
		a, b api.Date
		n    int64
		why  api.Errno
	}{
		{date(2023, 1, 31), date(2023, 2, 28), 1, api.OK},
		{date(2023, 1, 31), date(2023, 2, 27), 0, api.OK},
		{date(2023, 1, 31), date(2023, 1, 31), 0, api.OK},
		{date(2023, 1, 31), date(2023, 1, 30), -1, api.OK},
		{date(2023, 1, 31), date(2022, 12, 31), -1, api.OK},
		{date(2023, 1, 31), date(2022, 12, 30), -2, api.OK},
		{date(2024, 2, 29), date(2025, 2, 28), 12, api.OK},
		{date(-1, 12, 31), date(0, 1, 1), 0, api.OK},
		{date(0, 1, 31), date(-1, 12, 31), -1, api.OK},
		{date(-40000, 1, 15), date(-40000, 1, 15), 0, api.OK},
		{date(-40000, 1, 15), date(-40000, 1, 14), 0, api.ErrRange},
		{date(2023, 1, 15), date(-40000, 1, 14), 0, api.ErrRange},
		{date(2023, 1, 15), date(-40000, 1, 15), -42023 * 12, api.OK},
		{date(40000, 12, 15), date(40000, 12, 15), 0, api.ErrRange},
		{date(40000, 12, 15), date(40000, 12, 14), -1, api.OK},
		{date(40000, 11, 20), date(40000, 12, 15), 0, api.OK},
		{date(2023, 1, 15), date(40000, 12, 31), 0, api.ErrRange},
		{date(2023, 1, 31), date(40000, 12, 30), 37977*12 + 10, api.OK},
		{date(-40000, 1, 1), date(40000, 12, 31), 0, api.ErrRange},
		{date(-40000, 1, 1), date(40000, 11, 30), 80000*12 + 10, api.OK},
		{date(40000, 12, 31), date(-40000, 1, 31), -80000*12 - 11, api.OK},
	}
	for _, x := range tests {
		if n, why := monthly.Between(x.a, x.b); n != x.n || why != x.why {
			t.Errorf("Between %v and %v: %d, %d; not %d, %d", x.a, x.b, n, why, x.n, x.why)
		}
	}
	for _, d := range wrongDates() {
		for _, other := range append(wrongDates(), date(2023, 1, 31), date(40000, 6, 30)) {
			for _, pair := range [2][2]api.Date{{d, other}, {other, d}} {
				if n, why := monthly.Between(pair[0], pair[1]); n != 0 || why != api.ErrRange {
					t.Errorf("Between %v and %v: %d, %d", pair[0], pair[1], n, why)
				}
			}
		}
	}
}

// Promise 6.2: any two dates of some years, by the definition.
func TestBetweenAll(t *testing.T) {
	for _, line := range lines() {
		for _, a := range line {
			for _, b := range line {
				want, whyWant := between(a, b)
				if n, why := monthly.Between(a, b); n != want || why != whyWant {
					t.Fatalf("Between %v and %v: %d, %d; not %d, %d", a, b, n, why, want, whyWant)
				}
			}
		}
	}
}

// Promise 6.3: moved by more months, or moved together, dates stay in order.
func TestInOrder(t *testing.T) {
	for _, line := range lines()[:3] {
		for i, d := range line {
			for n := int64(-30); n < 30; n++ {
				m, _ := monthly.Add(d, n)
				if more, why := monthly.Add(d, n+1); why != api.OK || civil.Compare(m, more) > 0 {
					t.Fatalf("%v by %d: %v; by one more: %v, %d", d, n, m, more, why)
				}
				if i == 0 {
					continue
				}
				if ahead, why := monthly.Add(line[i-1], n); why != api.OK || civil.Compare(ahead, m) > 0 {
					t.Fatalf("%v by %d: %v; the next day: %v, %d", line[i-1], n, ahead, m, why)
				}
			}
		}
	}
}

// Promise 6.4: there and back, and twelve months are a year.
func TestThereAndBack(t *testing.T) {
	for _, line := range lines() {
		for _, d := range line {
			for n := int64(-40); n <= 40; n++ {
				checkBack(t, d, n)
			}
		}
	}
}

func checkBack(t *testing.T, d api.Date, n int64) {
	t.Helper()
	there, why := monthly.Add(d, n)
	if back, whyBack := monthly.Add(there, -n); d.Day <= 28 && why == api.OK && (back != d || whyBack != api.OK) {
		t.Fatalf("%v by %d and back: %v, %d", d, n, back, whyBack)
	}
	years, why := monthly.Years(d, n)
	if months, whyMonths := monthly.Add(d, 12*n); years != months || why != whyMonths {
		t.Fatalf("Years of %v by %d: %v, %d; Add: %v, %d", d, n, years, why, months, whyMonths)
	}
	days, why := monthly.Days(d, n)
	if back, whyBack := monthly.Days(days, -n); why == api.OK && (back != d || whyBack != api.OK) {
		t.Fatalf("%v by %d days and back: %v, %d", d, n, back, whyBack)
	}
}
