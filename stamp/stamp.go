// Package stamp has seconds of the calendar, as numbers and as texts: see ../../shared/DOC.md and doc/04-stamp.md.
package stamp

import (
	"strings"

	"noontide/api"
	"noontide/civil"
	"noontide/num"
)

// behindSigns are what stands ahead of each of the numbers behind the year.
const behindSigns = "--T::"

// What texts have: the year's digits, at least; the year's digits, at most, if the stamp may be; the digits of each number behind it; the bytes behind the year.
const (
	yearDigits   = 4
	mostDigits   = 5
	behindDigits = 2
	behindBytes  = len(behindSigns) * (1 + behindDigits)
)

// behind has the numbers of a stamp behind its year, in the order of its text: the month, the day, the hour, the minute, the second.
type behind [len(behindSigns)]int

func Right(s api.Stamp) bool {
	return civil.Right(s.Date) && s.Hour >= 0 && s.Hour < 24 && s.Min >= 0 && s.Min < 60 && s.Sec >= 0 && s.Sec < 60
}

func Secs(s api.Stamp) (int64, api.Errno) {
	if !Right(s) {
		return 0, api.ErrRange
	}
	day, _ := civil.Days(s.Date)
	return day*api.DaySecs + int64(s.Hour)*3600 + int64(s.Min)*60 + int64(s.Sec), api.OK
}

func Of(t int64) (api.Stamp, api.Errno) {
	day, second := Split(t)
	date, why := civil.Date(day)
	if why != api.OK {
		return api.Stamp{}, why
	}
	n := int(second)
	return api.Stamp{Date: date, Hour: n / 3600, Min: n / 60 % 60, Sec: n % 60}, api.OK
}

func Split(t int64) (day, second int64) {
	day, second, _ = num.Div(t, api.DaySecs)
	return day, second
}

func Text(s api.Stamp) string {
	if !Right(s) {
		return ""
	}
	var text strings.Builder
	year := int64(s.Date.Year)
	if year < 0 {
		year = -year
		text.WriteByte('-')
	}
	writeDigits(&text, year, yearDigits)
	for i, n := range (behind{s.Date.Month, s.Date.Day, s.Hour, s.Min, s.Sec}) {
		text.WriteByte(behindSigns[i])
		writeDigits(&text, int64(n), behindDigits)
	}
	return text.String()
}

func writeDigits(text *strings.Builder, n int64, least int) {
	digits := num.Text(n)
	for range least - len(digits) {
		text.WriteByte('0')
	}
	text.WriteString(digits)
}

func Read(text string) (api.Stamp, api.Errno) {
	// All that is behind the year has one length, so the year, however long it is, ends where that begins.
	cut := len(text) - behindBytes
	if cut < 0 || !isYear(text[:cut]) {
		return api.Stamp{}, api.ErrForm
	}
	n, ok := readBehind(text[cut:])
	if !ok {
		return api.Stamp{}, api.ErrForm
	}
	year, ok := readYear(text[:cut])
	s := api.Stamp{Date: api.Date{Year: year, Month: n[0], Day: n[1]}, Hour: n[2], Min: n[3], Sec: n[4]}
	if !ok || !Right(s) {
		return api.Stamp{}, api.ErrRange
	}
	return s, api.OK
}

func isYear(text string) bool {
	digits, below := strings.CutPrefix(text, "-")
	if len(digits) < yearDigits || len(digits) > yearDigits && digits[0] == '0' {
		return false
	}
	return areDigits(digits) && !(below && digits == "0000")
}

// readYear reads what isYear holds for; more digits than the greatest year has are left unread, since they may be too many for an int.
func readYear(text string) (year int, ok bool) {
	digits, below := strings.CutPrefix(text, "-")
	if len(digits) > mostDigits {
		return 0, false
	}
	year = value(digits)
	if below {
		year = -year
	}
	return year, true
}

func readBehind(text string) (n behind, ok bool) {
	for i := range n {
		part := text[i*(1+behindDigits) : (i+1)*(1+behindDigits)]
		if part[0] != behindSigns[i] || !areDigits(part[1:]) {
			return behind{}, false
		}
		n[i] = value(part[1:])
	}
	return n, true
}

func areDigits(text string) bool {
	for i := range len(text) {
		if text[i] < '0' || text[i] > '9' {
			return false
		}
	}
	return true
}

func value(digits string) int {
	n := 0
	for i := range len(digits) {
		n = n*10 + int(digits[i]-'0')
	}
	return n
}
