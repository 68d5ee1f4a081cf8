package year_test

import (
	"math"
	"math/big"
	"math/rand"
	"regexp"
	"strconv"
	"strings"
	"testing"

	"noontide/api"
	"noontide/year"
)

const (
	least = -32767
	most  = 32767
)

// How a year that is written as a number begins, and how a number's text is built.
var (
	byNumber = regexp.MustCompile(`^[-0-9]`)
	number   = regexp.MustCompile(`^(0|-?[1-9][0-9]*)$`)
)

// meanings tell by the words alone what stands in place of min, max and only.
var meanings = map[string]*regexp.Regexp{
	"min":  regexp.MustCompile(`(?i:^mi(n(i(m(u(m)?)?)?)?)?$)`),
	"max":  regexp.MustCompile(`(?i:^ma(x(i(m(u(m)?)?)?)?)?$)`),
	"only": regexp.MustCompile(`(?i:^o(n(l(y)?)?)?$)`),
}

// first and last go by the patterns.
func first(s string) (int, api.Errno) {
	switch {
	case byNumber.MatchString(s):
		return numbered(s)
	case meanings["min"].MatchString(s):
		return least, api.OK
	}
	return 0, api.ErrWord
}

func numbered(s string) (int, api.Errno) {
	if !number.MatchString(s) {
		return 0, api.ErrNumber
	}
	n, _ := new(big.Int).SetString(s, 10)
	if n.Cmp(big.NewInt(least)) < 0 || n.Cmp(big.NewInt(most)) > 0 {
		return 0, api.ErrRange
	}
	return int(n.Int64()), api.OK
}

func last(s string, from int) (int, api.Errno) {
	if meanings["only"].MatchString(s) {
		return from, api.OK
	}
	n, why := most, api.OK
	if !meanings["max"].MatchString(s) {
		n, why = first(s)
		if meanings["min"].MatchString(s) {
			n, why = 0, api.ErrWord
		}
	}
	if why == api.OK && n < from {
		return 0, api.ErrOrder
	}
	return n, why
}

// beginnings are those of a word, from the empty one on, in small, large and mixed letters.
func beginnings(word string) []string {
	var l []string
	for n := range len(word) + 1 {
		s := word[:n]
		mixed := []byte(s)
		for i := 1; i < n; i += 2 {
			mixed[i] -= 'a' - 'A'
		}
		l = append(l, s, strings.ToUpper(s), string(mixed))
	}
	return l
}

func ends() []int {
	return []int{math.MinInt, math.MinInt + 1, -1 << 32, least - 1, least, least + 1, -1, 0, 1, 1987, most - 1, most, most + 1, 1 << 32, math.MaxInt - 1, math.MaxInt}
}

// Promise 17.1: known texts.
func TestFrom(t *testing.T) {
	tests := []struct {
		s    string
		want int
	}{
		{"0", 0}, {"1", 1}, {"-1", -1}, {"9", 9}, {"10", 10}, {"1987", 1987}, {"-1987", -1987}, {"20000", 20000},
		{"32766", 32766}, {"32767", most}, {"-32766", -32766}, {"-32767", least},
		{"mi", least}, {"min", least}, {"minimum", least}, {"MIN", least}, {"Mi", least}, {"mInImU", least}, {"MINIMUM", least},
	}
	for _, x := range tests {
		if n, why := year.From(x.s); n != x.want || why != api.OK {
			t.Errorf("From of %q: %d, %d; not %d", x.s, n, why, x.want)
		}
	}
}

// wrongTexts are such as are neither a first year nor a last one.
func wrongTexts() map[api.Errno][]string {
	long := 1 << 20
	return map[api.Errno][]string{
		api.ErrNumber: {
			"-", "--", "--1", "-0", "00", "01", "007", "-01", "-00", "1 ", "- 1", "1-", "1-1", "1x", "1987max", "-max", "-min", "-only", "0x1", "1.0", "1e3", "1_0", "1,5", "3\x00", "1\xff", "1\u0661",
			"040000", strings.Repeat("0", long), strings.Repeat("-", long), strings.Repeat("1", long) + "x", "-" + strings.Repeat("9", long) + "-",
		},
		api.ErrRange: {
			"32768", "-32768", "40000", "-40000", "100000", "65536", "-65536", "4294967296", "4294967297", "-4294967295", "9223372036854775807", "-9223372036854775808",
			"9223372036854775808", "-9223372036854775809", "18446744073709551616", "18446744073709551617", strings.Repeat("9", long), "-1" + strings.Repeat("0", long),
		},
		api.ErrWord: {
			"", " ", "m", "M", "x", "+", "+1", " 1", "\t1", " -1", ".5", "\x00", "\xff", "\xff1", "\u0661", "\u22121", "year", "in", "nly", "ax", "inimum", "minim1", "minimums", "minimum ", " min",
			"mini mum", "min-", "min1", "maxi mum", "maximums", "maximum1", " max", "max ", "onlyy", "only ", " only", "on1", "on-", "mx", "mn", "mm", "mim", "mam", "om", "oo", "nin", "mi\xff", "m\u0131n", "on\u017f", "mi\x00",
			"minmax", "min,max", strings.Repeat("min", long), strings.Repeat("o", long), strings.Repeat("x", long), "/", ":", "/1", ":1",
		},
	}
}

// Promises 17.1 and 17.2: what is no year, and what is one that may not be, in both places.
func TestErrors(t *testing.T) {
	for want, texts := range wrongTexts() {
		for _, s := range texts {
			if n, why := year.From(s); n != 0 || why != want {
				t.Errorf("From of %.20q: %d, %d; not %d", s, n, why, want)
			}
			for _, from := range ends() {
				if n, why := year.To(s, from); n != 0 || why != want {
					t.Errorf("To of %.20q from %d: %d, %d; not %d", s, from, n, why, want)
				}
			}
		}
	}
}

// Promises 17.1 and 17.2: each beginning of each word, in each place.
func TestBeginnings(t *testing.T) {
	for _, word := range []string{"minimum", "maximum", "only"} {
		for _, s := range beginnings(word) {
			clear := len(s) >= 2 || word == "only" && s != ""
			want, whyWant := 0, api.ErrWord
			if clear && word == "minimum" {
				want, whyWant = least, api.OK
			}
			if n, why := year.From(s); n != want || why != whyWant {
				t.Errorf("From of %q: %d, %d; not %d, %d", s, n, why, want, whyWant)
			}
			for _, from := range ends() {
				want, whyWant := 0, api.ErrWord
				switch {
				case clear && word == "only":
					want, whyWant = from, api.OK
				case clear && word == "maximum" && from > most:
					whyWant = api.ErrOrder
				case clear && word == "maximum":
					want, whyWant = most, api.OK
				}
				if n, why := year.To(s, from); n != want || why != whyWant {
					t.Errorf("To of %q from %d: %d, %d; not %d, %d", s, from, n, why, want, whyWant)
				}
			}
		}
	}
}

// Promise 17.2: known texts; what is wrong by itself is told ahead of an order that is.
func TestTo(t *testing.T) {
	tests := []struct {
		s    string
		from int
		want int
		why  api.Errno
	}{
		{"1987", 1987, 1987, api.OK},
		{"1988", 1987, 1988, api.OK},
		{"1986", 1987, 0, api.ErrOrder},
		{"-5", -5, -5, api.OK},
		{"-6", -5, 0, api.ErrOrder},
		{"-4", -5, -4, api.OK},
		{"5", -5, 5, api.OK},
		{"-5", 5, 0, api.ErrOrder},
		{"32767", most, most, api.OK},
		{"-32767", least, least, api.OK},
		{"-32767", least + 1, 0, api.ErrOrder},
		{"-32767", math.MinInt, least, api.OK},
		{"32767", most + 1, 0, api.ErrOrder},
		{"0", math.MaxInt, 0, api.ErrOrder},
		{"0", math.MinInt, 0, api.OK},
		{"32768", math.MaxInt, 0, api.ErrRange},
		{"32768", 0, 0, api.ErrRange},
		{"01", math.MaxInt, 0, api.ErrNumber},
		{"min", math.MaxInt, 0, api.ErrWord},
		{"min", least, 0, api.ErrWord},
		{"m", math.MaxInt, 0, api.ErrWord},
		{"max", most, most, api.OK},
		{"max", most + 1, 0, api.ErrOrder},
		{"MA", math.MinInt, most, api.OK},
		{"only", math.MaxInt, math.MaxInt, api.OK},
		{"o", math.MinInt, math.MinInt, api.OK},
		{"ONL", 0, 0, api.OK},
	}
	for _, x := range tests {
		if n, why := year.To(x.s, x.from); n != x.want || why != x.why {
			t.Errorf("To of %q from %d: %d, %d; not %d, %d", x.s, x.from, n, why, x.want, x.why)
		}
	}
}

// Promises 17.1 and 17.2: many texts, by the patterns.
func TestByPattern(t *testing.T) {
	texts := []string{"min", "max", "only", "minimum", "maximum"}
	for n := -40000; n <= 40000; n++ {
		texts = append(texts, strconv.Itoa(n))
	}
	r := rand.New(rand.NewSource(17))
	const bytes = "-0123789mMiInNaAxXuoOlLyY \xff"
	for range 100000 {
		s := []byte(texts[r.Intn(len(texts))])
		if r.Intn(2) == 0 {
			s = []byte(texts[r.Intn(5)])
		}
		for range r.Intn(3) {
			s[r.Intn(len(s))] = bytes[r.Intn(len(bytes))]
		}
		texts = append(texts, string(s[:1+r.Intn(len(s))]))
	}
	told := map[api.Errno]int{}
	for _, s := range texts {
		want, whyWant := first(s)
		if n, why := year.From(s); n != want || why != whyWant {
			t.Fatalf("From of %q: %d, %d; not %d, %d", s, n, why, want, whyWant)
		}
		from := r.Intn(80001) - 40000
		for _, from := range []int{from, want - 1, want, want + 1} {
			want, whyWant := last(s, from)
			if n, why := year.To(s, from); n != want || why != whyWant {
				t.Fatalf("To of %q from %d: %d, %d; not %d, %d", s, from, n, why, want, whyWant)
			}
			told[whyWant]++
		}
	}
	for _, why := range []api.Errno{api.OK, api.ErrNumber, api.ErrRange, api.ErrWord, api.ErrOrder} {
		if told[why] == 0 {
			t.Errorf("error %d is never told", why)
		}
	}
}

// Promises 17.3 and 17.4: each first year is written by the words, and read as it is.
func TestFromText(t *testing.T) {
	for n := least; n <= most; n++ {
		want := strconv.Itoa(n)
		if n == least {
			want = "min"
		}
		s, why := year.FromText(n)
		if s != want || why != api.OK {
			t.Fatalf("FromText of %d: %q, %d; not %q", n, s, why, want)
		}
		if back, why := year.From(s); back != n || why != api.OK {
			t.Fatalf("From of %q: %d, %d", s, back, why)
		}
	}
	for _, n := range []int{least - 1, most + 1, -40000, 40000, 65536, -65536, 1 << 32, 1<<32 + 1987, -1 << 32, math.MinInt, math.MaxInt} {
		if s, why := year.FromText(n); s != "" || why != api.ErrRange {
			t.Errorf("FromText of %d: %q, %d", n, s, why)
		}
	}
}

// Promises 17.3 and 17.4: each last year, from many first ones, is written by the words, and read as it is.
func TestToText(t *testing.T) {
	for n := least; n <= most; n++ {
		for _, from := range append(ends(), n-1, n, n+1) {
			want, whyWant := strconv.Itoa(n), api.OK
			switch {
			case n < from:
				want, whyWant = "", api.ErrOrder
			case n == from:
				want = "only"
			case n == most:
				want = "max"
			}
			s, why := year.ToText(from, n)
			if s != want || why != whyWant {
				t.Fatalf("ToText of %d from %d: %q, %d; not %q, %d", n, from, s, why, want, whyWant)
			}
			if why != api.OK {
				continue
			}
			if back, why := year.To(s, from); back != n || why != api.OK {
				t.Fatalf("To of %q from %d: %d, %d", s, from, back, why)
			}
		}
	}
}

// Promise 17.3: a last year that may not be, whatever the first one is.
func TestToTextErrors(t *testing.T) {
	for _, n := range []int{least - 1, most + 1, -40000, 40000, 1 << 32, 1<<32 + 1987, -1 << 32, math.MinInt, math.MaxInt} {
		for _, from := range append(ends(), n) {
			if s, why := year.ToText(from, n); s != "" || why != api.ErrRange {
				t.Errorf("ToText of %d from %d: %q, %d", n, from, s, why)
			}
		}
	}
}
