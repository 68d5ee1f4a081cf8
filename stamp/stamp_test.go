package stamp_test

import (
	"math"
	"math/rand"
	"strings"
	"testing"

	"noontide/api"
	"noontide/civil"
	"noontide/stamp"
)

const (
	firstSec int64 = -15329228 * 86400      // the first second of -40000
	lastSec  int64 = 13890537*86400 + 86399 // the last one of 40000
	nought   int64 = -719528 * 86400        // the first second of the year 0
	digits         = 1 << 20                // of a very long text
	tail           = "-01-01T00:00:00"      // what stands behind a year
)

func at(year, month, day, hour, min, sec int) api.Stamp {
	return api.Stamp{Date: api.Date{Year: year, Month: month, Day: day}, Hour: hour, Min: min, Sec: sec}
}

// known are stamps, their numbers and their texts.
func known() []struct {
	s    api.Stamp
	n    int64
	text string
} {
	return []struct {
		s    api.Stamp
		n    int64
		text string
	}{
		{at(1970, 1, 1, 0, 0, 0), 0, "1970-01-01T00:00:00"},
		{at(1969, 12, 31, 23, 59, 59), -1, "1969-12-31T23:59:59"},
		{at(1970, 1, 1, 1, 2, 3), 3723, "1970-01-01T01:02:03"},
		{at(2000, 2, 29, 23, 59, 59), 951868799, "2000-02-29T23:59:59"},
		{at(2000, 3, 1, 0, 0, 1), 951868801, "2000-03-01T00:00:01"},
		{at(-1, 12, 31, 23, 59, 59), -62167219201, "-0001-12-31T23:59:59"},
		{at(0, 1, 1, 0, 0, 0), nought, "0000-01-01T00:00:00"},
		{at(7, 6, 5, 4, 3, 2), nought + (7*365+2)*86400 + 155*86400 + 4*3600 + 3*60 + 2, "0007-06-05T04:03:02"},
		{at(9999, 12, 31, 23, 59, 59), 253402300799, "9999-12-31T23:59:59"},
		{at(10000, 1, 1, 0, 0, 0), 253402300800, "10000-01-01T00:00:00"},
		{at(-9999, 1, 1, 0, 0, 0), -377705116800, "-9999-01-01T00:00:00"},
		{at(-10000, 12, 31, 0, 0, 0), -377705203200, "-10000-12-31T00:00:00"},
		{at(api.MinYear, 1, 1, 0, 0, 0), api.MinT, "-32767-01-01T00:00:00"},
		{at(api.MaxYear, 12, 31, 23, 59, 59), api.MaxT, "32767-12-31T23:59:59"},
		{at(-40000, 1, 1, 0, 0, 0), firstSec, "-40000-01-01T00:00:00"},
		{at(40000, 12, 31, 23, 59, 59), lastSec, "40000-12-31T23:59:59"},
	}
}

// Promises 4.1 to 4.3: stamps, numbers and texts, there and back.
func TestKnown(t *testing.T) {
	for _, x := range known() {
		if !stamp.Right(x.s) {
			t.Errorf("%s is not right", x.text)
		}
		if n, why := stamp.Secs(x.s); n != x.n || why != api.OK {
			t.Errorf("Secs of %s: %d, %d", x.text, n, why)
		}
		if s, why := stamp.Of(x.n); s != x.s || why != api.OK {
			t.Errorf("Of %d: %v, %d", x.n, s, why)
		}
		if text := stamp.Text(x.s); text != x.text {
			t.Errorf("Text of %s: %q", x.text, text)
		}
		if s, why := stamp.Read(x.text); s != x.s || why != api.OK {
			t.Errorf("Read of %s: %v, %d", x.text, s, why)
		}
	}
}

// Promises 4.1 and 4.2: what may not be has neither number nor text.
func TestWrongStamps(t *testing.T) {
	wrong := []api.Stamp{
		{}, at(1900, 2, 29, 0, 0, 0), at(2000, 0, 1, 0, 0, 0), at(2000, 13, 1, 0, 0, 0), at(2000, 1, 0, 0, 0, 0), at(2000, 4, 31, 0, 0, 0),
		at(40001, 1, 1, 0, 0, 0), at(-40001, 12, 31, 23, 59, 59), at(math.MaxInt, 1, 1, 0, 0, 0), at(math.MinInt, 1, 1, 0, 0, 0),
	}
	for _, n := range []int{-1, 60, 61, math.MaxInt, math.MinInt} {
		wrong = append(wrong, at(2000, 1, 1, n, 0, 0), at(2000, 1, 1, 0, n, 0), at(2000, 1, 1, 0, 0, n))
	}
	wrong = append(wrong, at(2000, 1, 1, 24, 0, 0))
	for _, s := range wrong {
		if stamp.Right(s) {
			t.Errorf("%v is right", s)
		}
		if n, why := stamp.Secs(s); n != 0 || why != api.ErrRange {
			t.Errorf("Secs of %v: %d, %d", s, n, why)
		}
		if text := stamp.Text(s); text != "" {
			t.Errorf("Text of %v: %q", s, text)
		}
	}
}

// Promise 4.1: numbers of no stamp.
func TestOfErrors(t *testing.T) {
	for _, n := range []int64{firstSec - 1, lastSec + 1, 1 << 60, math.MinInt64, math.MaxInt64} {
		if s, why := stamp.Of(n); s != (api.Stamp{}) || why != api.ErrRange {
			t.Errorf("Of %d: %v, %d", n, s, why)
		}
	}
}

// Promise 4.1: any second is split.
func TestSplit(t *testing.T) {
	tests := []struct{ t, day, second int64 }{
		{0, 0, 0}, {1, 0, 1}, {86399, 0, 86399}, {86400, 1, 0}, {-1, -1, 86399}, {-86400, -1, 0}, {-86401, -2, 86399},
		{math.MaxInt64, 106751991167300, 55807}, {math.MinInt64, -106751991167301, 30592},
	}
	for _, x := range tests {
		if day, second := stamp.Split(x.t); day != x.day || second != x.second {
			t.Errorf("Split of %d: %d, %d", x.t, day, second)
		}
	}
}

// Promise 4.2: what is not built as a text is.
func TestReadForm(t *testing.T) {
	wrong := []string{
		"", "-", "T", "2000", tail, "-" + tail, "1" + tail, "200" + tail, "-200" + tail, "02000" + tail, "00000" + tail, "-00001" + tail,
		"-0000" + tail, "--2000" + tail, "+2000" + tail, " 2000" + tail, "2000" + tail + " ", "2000" + tail + "Z", "2000" + tail + "\x00",
		"20x0" + tail, "-20-0" + tail, "2000 " + tail, "\u0661\u0661\u0661\u0661" + tail, "20\xff0" + tail,
		"2000-1-01T00:00:00", "2000-01-1T00:00:00", "2000-001-01T00:00:00", "2000-01-01T0:00:00", "2000-01-01T00:0:00", "2000-01-01T00:00:0", "2000-01-01T00:00:000",
		"2000/01-01T00:00:00", "2000-01/01T00:00:00", "2000-01-01 00:00:00", "2000-01-01t00:00:00", "2000-01-01T00.00:00", "2000-01-01T00:00.00",
		"2000-0x-01T00:00:00", "2000-01-+1T00:00:00", "2000-01--1T00:00:00", "2000-01-01T -:00:00", "2000-01-01T00:/0:00", "2000-01-01T00:00:0:",
		"2000-01-01T00:00", "2000-01-01", "2000-01-01T00:00:00.5", "T2000-01-01:00:00:00", "99999999999-1-01T00:00:00", "2001-02-29T00:00:0",
		strings.Repeat("9", digits), strings.Repeat("0", digits) + tail, strings.Repeat("-", digits) + tail,
		strings.Repeat("9", digits) + "x" + tail, "2000" + strings.Repeat(tail, digits/len(tail)),
	}
	for _, text := range wrong {
		if s, why := stamp.Read(text); s != (api.Stamp{}) || why != api.ErrForm {
			t.Errorf("Read of %.40q: %v, %d", text, s, why)
		}
	}
}

// Promise 4.2: what is built as a text is, but is none of a stamp that may be.
func TestReadRange(t *testing.T) {
	wrong := []string{
		"2001-02-29T00:00:00", "2000-00-01T00:00:00", "2000-13-01T00:00:00", "2000-01-00T00:00:00", "2000-01-32T00:00:00", "0000-00-00T00:00:00",
		"2000-01-01T24:00:00", "2000-01-01T00:60:00", "2000-01-01T00:00:60", "2000-99-99T99:99:99",
		"40001" + tail, "-40001" + tail, "99999" + tail, "100000" + tail, "-100000" + tail,
		"99999999999" + tail, "4294967296" + tail, "18446744073709551616" + tail, "-18446744073709553616" + tail,
		strings.Repeat("9", digits) + tail, "-1" + strings.Repeat("0", digits) + tail,
	}
	for _, text := range wrong {
		if s, why := stamp.Read(text); s != (api.Stamp{}) || why != api.ErrRange {
			t.Errorf("Read of %.40q: %v, %d", text, s, why)
		}
	}
}

// Promise 4.3: there and back, of each year, and of each second of a day.
func TestThereAndBack(t *testing.T) {
	for year := -40000; year <= 40000; year++ {
		n := year + 40000
		month := n%12 + 1
		check(t, at(year, month, n%civil.Len(year, month)+1, n%24, n%60, (n*7)%60))
	}
	for n := range int64(86400) {
		s, why := stamp.Of(951782400 + n)
		if why != api.OK || s != at(2000, 2, 29, int(n/3600), int(n/60%60), int(n%60)) {
			t.Fatalf("second %d of a day: %v, %d", n, s, why)
		}
		check(t, s)
	}
}

func check(t *testing.T, s api.Stamp) {
	t.Helper()
	n, why := stamp.Secs(s)
	back, whyOf := stamp.Of(n)
	if back != s || why != api.OK || whyOf != api.OK {
		t.Fatalf("Of of Secs of %v: %v, %d, %d", s, back, why, whyOf)
	}
	text := stamp.Text(s)
	if back, why := stamp.Read(text); back != s || why != api.OK {
		t.Fatalf("Read of %q: %v, %d", text, back, why)
	}
}

// Promise 4.3: texts with one or two bytes changed are read back as they were, if they are read at all.
func TestTextOfRead(t *testing.T) {
	const bytes = "-T:0123459 "
	r := rand.New(rand.NewSource(4))
	read := 0
	for _, x := range known() {
		for range 4000 {
			text := []byte(x.text)
			for range 1 + r.Intn(2) {
				text[r.Intn(len(text))] = bytes[r.Intn(len(bytes))]
			}
			s, why := stamp.Read(string(text))
			if why != api.OK {
				continue
			}
			read++
			if back := stamp.Text(s); back != string(text) {
				t.Fatalf("Text of Read of %q: %q", text, back)
			}
		}
	}
	if read == 0 {
		t.Error("none was read")
	}
}

func before(a, b api.Stamp) bool {
	if c := civil.Compare(a.Date, b.Date); c != 0 {
		return c < 0
	}
	return a.Hour*3600+a.Min*60+a.Sec < b.Hour*3600+b.Min*60+b.Sec
}

// Promise 4.4: a second more is the next number, and a later stamp.
func TestInOrder(t *testing.T) {
	for _, x := range known() {
		for n := max(x.n-3, firstSec); n < min(x.n+3, lastSec); n++ {
			s, why := stamp.Of(n)
			next, whyNext := stamp.Of(n + 1)
			if why != api.OK || whyNext != api.OK || !before(s, next) {
				t.Errorf("%d and the next one: %v, %v", n, s, next)
			}
			if back, _ := stamp.Secs(next); back != n+1 {
				t.Errorf("Secs of %v: %d", next, back)
			}
		}
	}
	line := known()
	for _, a := range line {
		for _, b := range line {
			if before(a.s, b.s) != (a.n < b.n) {
				t.Errorf("%s and %s are not in the order of their numbers", a.text, b.text)
			}
		}
	}
}
