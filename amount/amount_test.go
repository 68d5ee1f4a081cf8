package amount_test

import (
	"fmt"
	"math"
	"math/rand"
	"regexp"
	"strconv"
	"strings"
	"testing"

	"noontide/amount"
	"noontide/api"
)

const most = 604799

// built is how a text of an amount is built, but for - alone.
var built = regexp.MustCompile(`^(-?)([0-9]{1,3})(?::([0-9]{2})(?::([0-9]{2}))?)?$`)

// read goes by the pattern.
func read(s string) (int64, api.Errno) {
	if s == "-" {
		return 0, api.OK
	}
	p := built.FindStringSubmatch(s)
	if p == nil {
		return 0, api.ErrNumber
	}
	n := 0
	for i, size := range []int{3600, 60, 1} {
		part, _ := strconv.Atoi(p[i+2])
		if i > 0 && part > 59 {
			return 0, api.ErrRange
		}
		n += part * size
	}
	if n > most {
		return 0, api.ErrRange
	}
	if p[1] == "-" {
		n = -n
	}
	return int64(n), api.OK
}

// write goes by the words.
func write(n int64) string {
	if n < 0 {
		return "-" + write(-n)
	}
	if n == 0 {
		return "0"
	}
	text := fmt.Sprintf("%d:%02d:%02d", n/3600, n%3600/60, n%60)
	if n%60 == 0 {
		text = text[:len(text)-3]
	}
	return text
}

// Promise 16.1: known texts.
func TestRead(t *testing.T) {
	tests := []struct {
		s    string
		want int64
	}{
		{"0", 0}, {"-", 0}, {"-0", 0}, {"00", 0}, {"000", 0}, {"-000", 0}, {"0:00", 0}, {"-0:00:00", 0}, {"000:00:00", 0},
		{"2", 7200}, {"02", 7200}, {"002", 7200}, {"2:00", 7200}, {"002:00:00", 7200}, {"-2", -7200}, {"24", 86400}, {"24:00", 86400},
		{"-0:30", -1800}, {"0:30", 1800}, {"0:00:01", 1}, {"-0:00:01", -1}, {"0:59", 3540}, {"0:00:59", 59}, {"4:56:02", 17762}, {"-4:56:02", -17762},
		{"1:08", 4080}, {"09:09:09", 32949}, {"10:10", 36600}, {"99:59:59", 359999}, {"100", 360000}, {"-100:00", -360000},
		{"167", 601200}, {"167:59", 604740}, {"167:59:59", most}, {"-167:59:59", -most}, {"-167", -601200},
	}
	for _, x := range tests {
		if n, why := amount.Read(x.s); n != x.want || why != api.OK {
			t.Errorf("Read of %q: %d, %d; not %d", x.s, n, why, x.want)
		}
	}
}

// Promise 16.1: texts that are not built so, and those that are, but are no amounts.
func TestReadErrors(t *testing.T) {
	number := []string{
		"", "--", "--1", "-:", "+1", "+", " ", " 1", "1 ", "1-", "-1-", "- 1", "1:00-", "1:-1", "1:+1:00", "x", "1h", "0x1", "1.5", "1_0",
		"2:0", ":30", "-:30", "1:", "1::", "::", ":", "1:2:3", "1:00:", "1:00:0", "1:0:00", "1::00", "1:000", "1:00:000", "1:00:00:", "1:00:00:00", ":00:00",
		"1000", "0000", "-1000", "0001:00", "1000:99", "9999:60", "1:99:", "1:99:9", "1:9:99", "168:0", "999:60:60:60", "1:60x", "1:6x", "1:00:x0", "x:00",
		"1;00", "1:/0", "1:0/", "1::0", "1:0:", "/", "\x00", "1\x00", "\xff", "1\xff", "1:0\xff", "\u0661", "1:\u0661", "1:\u0661\u0661", "\u22121", "1\uff1a00", "1:00\n", "\n1:00",
		strings.Repeat("1", 1<<20), strings.Repeat("0", 1<<20), strings.Repeat(":", 1<<20), strings.Repeat("1:", 1<<20), strings.Repeat("-", 1<<20),
		"1:00" + strings.Repeat(":00", 1<<20), "1:" + strings.Repeat("0", 1<<20), strings.Repeat("1", 1<<20) + ":00",
		"18446744073709551617", "4294967297", "1:4294967296", "1:00:18446744073709551616",
	}
	for _, s := range number {
		if n, why := amount.Read(s); n != 0 || why != api.ErrNumber {
			t.Errorf("Read of %.30q: %d, %d", s, n, why)
		}
	}
	outside := []string{
		"2:60", "2:99", "-2:60", "0:60", "0:60:00", "0:00:60", "-0:00:60", "0:99:99", "1:00:99", "167:60", "167:59:60", "1:60:60",
		"168", "168:00", "168:00:00", "-168", "-168:00:00", "169:00", "200", "999", "-999", "999:59:59", "-999:99:99", "168:60", "168:00:01", "-168:00:01",
	}
	for _, s := range outside {
		if n, why := amount.Read(s); n != 0 || why != api.ErrRange {
			t.Errorf("Read of %q: %d, %d", s, n, why)
		}
	}
}

// Promise 16.1: all short texts of a few bytes, and many that are nearly built so, by the pattern.
func TestReadByPattern(t *testing.T) {
	const bytes = "-:05 \xff"
	texts := []string{""}
	from := 0
	for range 6 {
		to := len(texts)
		for _, s := range texts[from:to] {
			for i := range len(bytes) {
				texts = append(texts, s+bytes[i:i+1])
			}
		}
		from = to
	}
	r := rand.New(rand.NewSource(16))
	for range 100000 {
		s := []byte(fmt.Sprintf("-%0*d:%02d:%02d", 1+r.Intn(3), r.Intn(200), r.Intn(62), r.Intn(62)))
		for range r.Intn(3) {
			s[r.Intn(len(s))] = "-:0123456789/;+"[r.Intn(15)]
		}
		texts = append(texts, string(s[r.Intn(2):len(s)-r.Intn(7)]))
	}
	told := map[api.Errno]int{}
	for _, s := range texts {
		want, whyWant := read(s)
		if n, why := amount.Read(s); n != want || why != whyWant {
			t.Fatalf("Read of %q: %d, %d; not %d, %d", s, n, why, want, whyWant)
		}
		told[whyWant]++
	}
	if told[api.OK] == 0 || told[api.ErrNumber] == 0 || told[api.ErrRange] == 0 {
		t.Errorf("told: %v", told)
	}
}

// Promise 16.2: known amounts, and what is none.
func TestText(t *testing.T) {
	tests := []struct {
		n    int64
		want string
	}{
		{0, "0"}, {1, "0:00:01"}, {-1, "-0:00:01"}, {9, "0:00:09"}, {10, "0:00:10"}, {59, "0:00:59"}, {60, "0:01"}, {61, "0:01:01"}, {600, "0:10"},
		{1800, "0:30"}, {-1800, "-0:30"}, {3599, "0:59:59"}, {3600, "1:00"}, {3601, "1:00:01"}, {-3600, "-1:00"}, {7200, "2:00"}, {36000, "10:00"}, {86400, "24:00"},
		{17762, "4:56:02"}, {-17762, "-4:56:02"}, {360000, "100:00"}, {604740, "167:59"}, {most, "167:59:59"}, {-most, "-167:59:59"},
	}
	for _, x := range tests {
		if s, why := amount.Text(x.n); s != x.want || why != api.OK {
			t.Errorf("Text of %d: %q, %d; not %q", x.n, s, why, x.want)
		}
	}
	for _, n := range []int64{most + 1, -most - 1, most + 2, 1 << 32, -1 << 32, 1<<32 + 60, math.MaxInt64, math.MinInt64, math.MinInt64 + 1} {
		if s, why := amount.Text(n); s != "" || why != api.ErrRange {
			t.Errorf("Text of %d: %q, %d", n, s, why)
		}
	}
}

// Promises 16.2 and 16.3: each amount is written by the words, and read as it is.
func TestThereAndBack(t *testing.T) {
	for n := int64(-most); n <= most; n++ {
		s, why := amount.Text(n)
		if s != write(n) || why != api.OK {
			t.Fatalf("Text of %d: %q, %d; not %q", n, s, why, write(n))
		}
		if back, why := amount.Read(s); back != n || why != api.OK {
			t.Fatalf("Read of %q: %d, %d", s, back, why)
		}
	}
}

// Promise 16.4: hours, minutes and seconds are added up; with - ahead it is as much below 0; noughts ahead of the hours count nothing.
func TestInParts(t *testing.T) {
	check := func(want int64, format string, parts ...any) {
		t.Helper()
		s := fmt.Sprintf(format, parts...)
		if n, why := amount.Read(s); n != want || why != api.OK {
			t.Fatalf("Read of %q: %d, %d; not %d", s, n, why, want)
		}
		if n, why := amount.Read("-" + s); n != -want || why != api.OK {
			t.Fatalf("Read of -%s: %d, %d; not %d", s, n, why, -want)
		}
	}
	for hours := range int64(168) {
		for minutes := range int64(60) {
			for _, seconds := range []int64{0, 1, 9, 10, 59} {
				want := hours*3600 + minutes*60 + seconds
				check(want, "%d:%02d:%02d", hours, minutes, seconds)
				check(want, "%03d:%02d:%02d", hours, minutes, seconds)
			}
			check(hours*3600+minutes*60, "%d:%02d", hours, minutes)
			check(hours*3600+minutes*60, "%02d:%02d", hours, minutes)
		}
		check(hours*3600, "%d", hours)
		check(hours*3600, "%03d", hours)
	}
}
