// Package civil has the days of the calendar, as numbers: see ../../shared/DOC.md and doc/03-civil.md.
package civil

import (
	"cmp"

	"noontide/api"
	"noontide/num"
)

// The years of a date that may be.
const (
	minYear = -40000
	maxYear = 40000
)

// Leap years come round: each cycle has as many days as the next one. Both ends of the calendar are whole cycles away from the year 0.
const (
	cycleYears = 400
	cycleDays  = 146097
	yearNought = -719528 // the number of January 1 of the year 0
	firstDay   = yearNought + minYear/cycleYears*cycleDays
	lastDay    = yearNought + maxYear/cycleYears*cycleDays + 365
)

// A cycle is counted from March 1 on, so that February 29 is its last day, and months ahead of it have the same lengths in all years.
const marchNought = yearNought + 31 + 29

func Leap(year int) bool {
	return year%4 == 0 && (year%100 != 0 || year%400 == 0)
}

func Len(year, month int) int {
	switch month {
	case 1, 3, 5, 7, 8, 10, 12:
		return 31
	case 4, 6, 9, 11:
		return 30
	case 2:
		if Leap(year) {
			return 29
		}
		return 28
	}
	return 0
}

func Right(d api.Date) bool {
	return d.Year >= minYear && d.Year <= maxYear && d.Day >= 1 && d.Day <= Len(d.Year, d.Month)
}

func Days(d api.Date) (int64, api.Errno) {
	if !Right(d) {
		return 0, api.ErrRange
	}
	year, month := int64(d.Year), int64(d.Month)-3
	if month < 0 {
		year, month = year-1, month+12
	}
	cycle, year, _ := num.Div(year, cycleYears)
	return marchNought + cycle*cycleDays + yearStart(year) + monthStart(month) + int64(d.Day) - 1, api.OK
}

// yearStart tells how many days of a cycle lie ahead of its year (0 to 399). The leap day of a year that begins in March is in the next year of the calendar.
func yearStart(year int64) int64 {
	return year*365 + year/4 - year/100
}

// monthStart tells how many days lie ahead of a month (0, March, to 11). From March on each five months have 153 days, 31 and 30 by turns.
func monthStart(month int64) int64 {
	return (month*153 + 2) / 5
}

func Date(n int64) (api.Date, api.Errno) {
	if n < firstDay || n > lastDay {
		return api.Date{}, api.ErrRange
	}
	cycle, day, _ := num.Div(n-marchNought, cycleDays)
	year := yearOf(day)
	day -= yearStart(year)
	month := (day*5 + 2) / 153
	day -= monthStart(month)
	year += cycle * cycleYears
	if month >= 10 {
		year, month = year+1, month-12
	}
	return api.Date{Year: int(year), Month: int(month) + 3, Day: int(day) + 1}, api.OK
}

// yearOf tells in which year of its cycle a day lies. The leap days that are behind are taken away first, so that all years have 365 days: one each 4 years, none each 100, but one as the cycle's very last day.
func yearOf(day int64) int64 {
	const (
		four    = 4*365 + 1
		hundred = 25*four - 1
	)
	return (day - day/(four-1) + day/hundred - day/(cycleDays-1)) / 365
}

func Weekday(n int64) int {
	const thursday = 4
	_, day, _ := num.Div(n, 7)
	return int(day+thursday) % 7
}

func YearDay(d api.Date) (int, api.Errno) {
	day, why := Days(d)
	if why != api.OK {
		return 0, why
	}
	first, _ := Days(api.Date{Year: d.Year, Month: 1, Day: 1})
	return int(day-first) + 1, api.OK
}

func Compare(a, b api.Date) int {
	return cmp.Or(cmp.Compare(a.Year, b.Year), cmp.Compare(a.Month, b.Month), cmp.Compare(a.Day, b.Day))
}
