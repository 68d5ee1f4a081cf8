package dayspec_test

import (
	"fmt"
	"math"
	"math/big"
	"math/rand"
	"regexp"
	"strconv"
	"strings"
	"testing"

	"noontide/api"
	"noontide/dayspec"
)

func on(kind, week, day int) api.On {
	return api.On{Kind: kind, Week: week, Day: day}
}

// weekdays are how the weekdays are written; means tells for each what means it.
var weekdays = []string{"Sun", "Mon", "Tue", "Wed", "Thu", "Fri", "Sat"}

var means = []*regexp.Regexp{
	regexp.MustCompile(`(?i:^su(n(d(a(y)?)?)?)?$)`),
	regexp.MustCompile(`(?i:^m(o(n(d(a(y)?)?)?)?)?$)`),
	regexp.MustCompile(`(?i:^tu(e(s(d(a(y)?)?)?)?)?$)`),
	regexp.MustCompile(`(?i:^w(e(d(n(e(s(d(a(y)?)?)?)?)?)?)?)?$)`),
	regexp.MustCompile(`(?i:^th(u(r(s(d(a(y)?)?)?)?)?)?$)`),
	regexp.MustCompile(`(?i:^f(r(i(d(a(y)?)?)?)?)?$)`),
	regexp.MustCompile(`(?i:^sa(t(u(r(d(a(y)?)?)?)?)?)?$)`),
}

// names are all names of days that may be, and how they are written.
func names() map[api.On]string {
	all := map[api.On]string{}
	for day := 1; day <= 31; day++ {
		all[on(api.OnDay, 0, day)] = strconv.Itoa(day)
		for week, text := range weekdays {
			all[on(api.OnFrom, week, day)] = fmt.Sprintf("%s>=%d", text, day)
			all[on(api.OnUpTo, week, day)] = fmt.Sprintf("%s<=%d", text, day)
		}
	}
	for week, text := range weekdays {
		all[on(api.OnLast, week, 0)] = "last" + text
	}
	return all
}

// The forms by which a text is told apart.
var (
	signed = regexp.MustCompile(`(?s)^([^<>]*)([<>])(=?)(.*)$`)
	byDay  = regexp.MustCompile(`^[-0-9]`)
	byLast = regexp.MustCompile(`^(?i:last)`)
	number = regexp.MustCompile(`^(0|-?[1-9][0-9]*)$`)
)

// read goes by the patterns.
func read(s string) (api.On, api.Errno) {
	o, week, day := api.On{}, "", ""
	p := signed.FindStringSubmatch(s)
	switch {
	case p != nil && p[3] == "":
		return api.On{}, api.ErrForm
	case p != nil:
		o.Kind, week, day = map[string]int{">": api.OnFrom, "<": api.OnUpTo}[p[2]], p[1], p[4]
	case byDay.MatchString(s):
		day = s
	case byLast.MatchString(s):
		o.Kind, week = api.OnLast, s[4:]
	default:
		return api.On{}, api.ErrForm
	}
	if o.Kind != api.OnDay {
		o.Week = -1
		for i, m := range means {
			if m.MatchString(week) {
				o.Week = i
			}
		}
		if o.Week < 0 {
			return api.On{}, api.ErrWord
		}
	}
	if o.Kind != api.OnLast {
		if !number.MatchString(day) {
			return api.On{}, api.ErrNumber
		}
		n, _ := new(big.Int).SetString(day, 10)
		if n.Cmp(big.NewInt(1)) < 0 || n.Cmp(big.NewInt(31)) > 0 {
			return api.On{}, api.ErrRange
		}
		o.Day = int(n.Int64())
	}
	return o, api.OK
}

// Promise 18.1: known texts.
func TestRead(t *testing.T) {
	tests := []struct {
		s    string
		want api.On
	}{
		{"1", on(api.OnDay, 0, 1)},
		{"8", on(api.OnDay, 0, 8)},
		{"31", on(api.OnDay, 0, 31)},
		{"lastSun", on(api.OnLast, 0, 0)},
		{"LASTSUNDAY", on(api.OnLast, 0, 0)},
		{"lastsu", on(api.OnLast, 0, 0)},
		{"LaStM", on(api.OnLast, 1, 0)},
		{"lastSaturday", on(api.OnLast, 6, 0)},
		{"Sun>=8", on(api.OnFrom, 0, 8)},
		{"sunday>=1", on(api.OnFrom, 0, 1)},
		{"F>=31", on(api.OnFrom, 5, 31)},
		{"M<=25", on(api.OnUpTo, 1, 25)},
		{"SATURDAY<=31", on(api.OnUpTo, 6, 31)},
		{"tH<=1", on(api.OnUpTo, 4, 1)},
	}
	for _, x := range tests {
		if o, why := dayspec.Read(x.s); o != x.want || why != api.OK {
			t.Errorf("Read of %q: %v, %d; not %v", x.s, o, why, x.want)
		}
	}
}

// Promise 18.1: what is wrong, and which wrong thing is told.
func TestReadErrors(t *testing.T) {
	long := 1 << 20
	tests := map[api.Errno][]string{
		api.ErrForm: {
			"", " ", "x", "Sun", "Sunday", "+1", " 8", "\t8", "l", "la", "las", "LAS", "lasSun", "ast", "astSun", "Lost", "lost", "la st", "\xff", "\xfflast", "la\u017ftSun", "la\x00t", " lastSun", "Sun=8", "Sun=", ".", "/", ":",
			">", "<", "Sun>8", "Sun<8", "Sun>", "Sun<", "Sun> =8", "Sun>>=8", "Sun<>=8", "Sun><=8", "Sun=>8", "Sun=<8", "8>", "8<1", "x>8", "x<0", "last>8", "lastSun>", "lastSun<8", "-1>", "Sun>8>=8", "Sun<8<=8", ">>", "Sun>\u207c8",
			strings.Repeat("x", long), strings.Repeat(">", long), strings.Repeat("x", long) + ">", "Sun>" + strings.Repeat("8", long),
		},
		api.ErrWord: {
			"last", "LAST", "lastS", "lastT", "lastx", "last8", "last-1", "last Sun", "lastSun ", "lastSundayx", "lastlast", "lastlastSun", "last=", "last\xff", "last\u017fun", "last\x00", "last32", "last0",
			">=8", "<=8", ">=", "<=", "x>=8", "S>=8", "T<=8", "x>=0", "x>=08", "x<=", "8>=8", "8>=Sun", "-1<=1", "last>=8", "lastSun>=8", "lastSun<=8", " Sun>=8", "Sun >=8", "Sundays>=8", "=>=8", "Sun=>=8", "\xff>=8", "\u017fun>=8", "S>=x", "S>=40",
			"last" + strings.Repeat("Sun", long), strings.Repeat("Sun", long) + ">=8", strings.Repeat("S", long) + "<=0",
		},
		api.ErrNumber: {
			"-", "--1", "-0", "00", "01", "08", "031", "1 ", "1x", "8Sun", "1-", "8=", "8=8", "-x", "1.0", "1\xff", "1\u0661", "000", "99x",
			"Sun>=", "Sun<=", "Sun>=08", "Sun<=00", "Sun>=-0", "Sun>=x", "Sun>= 8", "Sun>=8 ", "Sun>=+8", "Sun>==8", "Sun<==8", "Sun>=8>=8", "Sun>=8>9", "Sun<=8<=8", "Sun>=>=8", "Sun<=<", "Sun>=Sun", "Sun>=last", "Sun>=-", "Sun>=\xff", "Sun>=\u0668",
			strings.Repeat("0", long), "1" + strings.Repeat("=", long), "Sun>=" + strings.Repeat("0", long), "Sun<=" + strings.Repeat("8", long) + "x",
		},
		api.ErrRange: {
			"0", "32", "-1", "-31", "100", "257", "4294967297", "-4294967295", "9223372036854775807", "-9223372036854775808", "9223372036854775808", "18446744073709551617",
			"Sun>=0", "Sun<=0", "M>=32", "F<=32", "Sun>=-1", "Sun<=-1", "Sun>=100", "Sun<=4294967297", "sat>=18446744073709551617", "Sun>=9223372036854775808",
			strings.Repeat("9", long), "-" + strings.Repeat("9", long), "Sun>=" + strings.Repeat("1", long), "Sun<=-" + strings.Repeat("1", long),
		},
	}
	for want, texts := range tests {
		for _, s := range texts {
			if o, why := dayspec.Read(s); o != (api.On{}) || why != want {
				t.Errorf("Read of %.20q: %v, %d; not %d", s, o, why, want)
			}
		}
	}
}

// Promise 18.1: texts put together of parts, and such as are nearly right, by the patterns.
func TestReadByPattern(t *testing.T) {
	var texts []string
	ahead := []string{"", "S", "Su", "sun", "SUNDAY", "Sundays", "m", "Mon", "T", "tu", "w", "thur", "F", "sA", "x", "8", "-", "last", "lastS", "LASTm", "las", " ", "=", "\xff"}
	sign := []string{"", "=", "==", "<", ">", "<=", ">=", "=<", "=>", "<>", "><", "<<=", ">>=", "<=>", ">=<", "> =", "\xff"}
	behind := []string{"", "0", "1", "8", "9", "10", "30", "31", "32", "08", "-1", "-0", "-", "+1", "x", "Sun", "1 ", "8=", "8>=8", "<8", "99999999999999999999", "\xff"}
	for _, a := range ahead {
		for _, s := range sign {
			for _, b := range behind {
				texts = append(texts, a+s+b)
			}
		}
	}
	r := rand.New(rand.NewSource(18))
	const bytes = "-0139=<>lastLASTSunMONdaywehf \n\xff"
	for o, text := range names() {
		for range 60 + o.Day {
			s := []byte(text)
			for range 1 + r.Intn(2) {
				s[r.Intn(len(s))] = bytes[r.Intn(len(bytes))]
			}
			texts = append(texts, string(s), string(s[:r.Intn(len(s))]))
		}
	}
	told := map[api.Errno]int{}
	kinds := map[int]int{}
	for _, s := range texts {
		want, whyWant := read(s)
		if o, why := dayspec.Read(s); o != want || why != whyWant {
			t.Fatalf("Read of %q: %v, %d; not %v, %d", s, o, why, want, whyWant)
		}
		told[whyWant]++
		kinds[want.Kind]++
	}
	if len(told) != 5 || len(kinds) != 4 {
		t.Errorf("told: %v, %v", told, kinds)
	}
}

// Promise 18.1: each beginning of a weekday means the same as words tell, in both places, in small and large letters.
func TestWeekdays(t *testing.T) {
	for _, name := range []string{"Sunday", "Monday", "Tuesday", "Wednesday", "Thursday", "Friday", "Saturday"} {
		for n := range len(name) + 1 {
			for _, word := range []string{name[:n], strings.ToLower(name[:n]), strings.ToUpper(name[:n])} {
				for _, s := range []string{word + ">=8", word + "<=8", "last" + word, "LAST" + word, "lAsT" + word} {
					want, whyWant := read(s)
					if o, why := dayspec.Read(s); o != want || why != whyWant {
						t.Errorf("Read of %q: %v, %d; not %v, %d", s, o, why, want, whyWant)
					}
				}
			}
		}
	}
}

// Promises 18.2 and 18.3: all names that may be are written by the words, and read as they are.
func TestThereAndBack(t *testing.T) {
	for o, want := range names() {
		s, why := dayspec.Text(o)
		if s != want || why != api.OK {
			t.Errorf("Text of %v: %q, %d; not %q", o, s, why, want)
		}
		for _, text := range []string{s, strings.ToLower(s), strings.ToUpper(s)} {
			if back, why := dayspec.Read(text); back != o || why != api.OK {
				t.Errorf("Read of %q: %v, %d; not %v", text, back, why, o)
			}
		}
	}
}

// Promise 18.2: what may not be is not written.
func TestTextErrors(t *testing.T) {
	all := names()
	numbers := []int{math.MinInt, -1 << 32, -8, -7, -2, -1, 0, 1, 2, 3, 4, 5, 6, 7, 8, 28, 30, 31, 32, 33, 1 << 32, 1<<32 + 1, math.MaxInt}
	for _, kind := range numbers {
		for _, week := range numbers {
			for _, day := range numbers {
				o := on(kind, week, day)
				want, right := all[o]
				whyWant := api.OK
				if !right {
					whyWant = api.ErrForm
				}
				if s, why := dayspec.Text(o); s != want || why != whyWant {
					t.Errorf("Text of %v: %q, %d; not %q, %d", o, s, why, want, whyWant)
				}
			}
		}
	}
}
