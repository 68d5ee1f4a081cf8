package clock_test

import (
	"fmt"
	"math"
	"math/rand"
	"regexp"
	"strconv"
	"strings"
	"testing"

	"noontide/api"
	"noontide/clock"
)

const most = 172800

// built is how a text of a time of day is built, but for - alone: an amount, and a letter.
var built = regexp.MustCompile(`^(-?)([0-9]{1,3})(?::([0-9]{2})(?::([0-9]{2}))?)?([wWsSuUgGzZ]?)$`)

var noughtOnly = regexp.MustCompile(`^-([wWsSuUgGzZ]?)$`)

// bases tell which clock each letter means.
var bases = map[string]int{"": api.AtWall, "w": api.AtWall, "s": api.AtStd, "u": api.AtUtc, "g": api.AtUtc, "z": api.AtUtc}

// read goes by the patterns.
func read(s string) (api.At, api.Errno) {
	if p := noughtOnly.FindStringSubmatch(s); p != nil {
		return api.At{Base: bases[strings.ToLower(p[1])]}, api.OK
	}
	p := built.FindStringSubmatch(s)
	if p == nil {
		return api.At{}, api.ErrNumber
	}
	n := 0
	for i, size := range []int{3600, 60, 1} {
		part, _ := strconv.Atoi(p[i+2])
		if i > 0 && part > 59 {
			return api.At{}, api.ErrRange
		}
		n += part * size
	}
	if n > most || n > 0 && p[1] == "-" {
		return api.At{}, api.ErrRange
	}
	return api.At{Sec: int64(n), Base: bases[strings.ToLower(p[5])]}, api.OK
}

// write goes by the words.
func write(a api.At) string {
	letter := map[int]string{api.AtStd: "s", api.AtUtc: "u"}[a.Base]
	switch {
	case a.Sec == 0:
		return "0" + letter
	case a.Sec%60 == 0:
		return fmt.Sprintf("%d:%02d%s", a.Sec/3600, a.Sec/60%60, letter)
	}
	return fmt.Sprintf("%d:%02d:%02d%s", a.Sec/3600, a.Sec/60%60, a.Sec%60, letter)
}

// Promise 19.1: what may be, and what may not, and is not written (19.2).
func TestRight(t *testing.T) {
	secs := map[int64]bool{
		0: true, 1: true, 59: true, 86399: true, 86400: true, 86401: true, most - 1: true, most: true,
		-1: false, -2: false, -most: false, most + 1: false, most + 2: false, 1 << 32: false, 1<<32 + 1: false, -1 << 32: false, math.MinInt64: false, math.MaxInt64: false,
	}
	clocks := map[int]bool{0: true, 1: true, 2: true, -1: false, -2: false, 3: false, 4: false, 1 << 32: false, 1<<32 + 1: false, -1 << 32: false, math.MinInt: false, math.MaxInt: false}
	for sec, secMay := range secs {
		for base, baseMay := range clocks {
			a := api.At{Sec: sec, Base: base}
			if clock.Right(a) != (secMay && baseMay) {
				t.Errorf("%v is right: %t", a, !(secMay && baseMay))
			}
			want, whyWant := "", api.ErrForm
			if secMay && baseMay {
				want, whyWant = write(a), api.OK
			}
			if s, why := clock.Text(a); s != want || why != whyWant {
				t.Errorf("Text of %v: %q, %d; not %q, %d", a, s, why, want, whyWant)
			}
		}
	}
}

// Promise 19.1: known texts.
func TestRead(t *testing.T) {
	tests := []struct {
		s    string
		sec  int64
		base int
	}{
		{"2:00", 7200, api.AtWall}, {"2:00w", 7200, api.AtWall}, {"02:00W", 7200, api.AtWall}, {"2", 7200, api.AtWall}, {"2w", 7200, api.AtWall}, {"002:00:00w", 7200, api.AtWall},
		{"1:00u", 3600, api.AtUtc}, {"1:00Z", 3600, api.AtUtc}, {"1:00g", 3600, api.AtUtc}, {"1U", 3600, api.AtUtc}, {"1:00:01G", 3601, api.AtUtc}, {"01z", 3600, api.AtUtc},
		{"24:00s", 86400, api.AtStd}, {"24S", 86400, api.AtStd}, {"0:00:01s", 1, api.AtStd}, {"12:34:56S", 45296, api.AtStd},
		{"0", 0, api.AtWall}, {"0w", 0, api.AtWall}, {"0s", 0, api.AtStd}, {"0u", 0, api.AtUtc}, {"-0", 0, api.AtWall}, {"-0:00:00z", 0, api.AtUtc}, {"000S", 0, api.AtStd},
		{"-", 0, api.AtWall}, {"-w", 0, api.AtWall}, {"-W", 0, api.AtWall}, {"-s", 0, api.AtStd}, {"-S", 0, api.AtStd},
		{"-u", 0, api.AtUtc}, {"-U", 0, api.AtUtc}, {"-g", 0, api.AtUtc}, {"-G", 0, api.AtUtc}, {"-z", 0, api.AtUtc}, {"-Z", 0, api.AtUtc},
		{"48", most, api.AtWall}, {"48:00", most, api.AtWall}, {"48:00:00u", most, api.AtUtc}, {"47:59:59s", most - 1, api.AtStd},
	}
	for _, x := range tests {
		if a, why := clock.Read(x.s); a != (api.At{Sec: x.sec, Base: x.base}) || why != api.OK {
			t.Errorf("Read of %q: %v, %d; not %d, %d", x.s, a, why, x.sec, x.base)
		}
	}
}

// Promise 19.1: what is no amount is told as that, whatever stands behind it; an amount that is none, or no time of day, as out of range.
func TestReadErrors(t *testing.T) {
	long := 1 << 20
	tests := map[api.Errno][]string{
		api.ErrNumber: {
			"", " ", "x", "+1", " 1", "1 ", "--", "-1-", "2:0", ":30", "1:2:3", "1000", "1:00:00:00", "1h", "1.5", "\x00", "\xff", "1\xff", "\u0661",
			"w", "W", "s", "S", "u", "U", "g", "G", "z", "Z", "ww", "uu", "2:00ww", "2:00wu", "2:00su", "2:00uS", "-ww", "--w", "w1", "u2:00", "2u:00", "2:0u", ":30s", "1:g", "1 u", "1u ", "+1s", "1000z", "1:2:3w",
			"2a", "2b", "2t", "2v", "2x", "2y", "2h", "2f", "2r", "2A", "2X", "2T", "2V", "2@", "2[", "2`", "2{", "-x", "1\u017f", "-\u017f", "1s\x00", "1\x00s", "1\xffs", "1u\xff", "1:00\u0455",
			strings.Repeat("1", long), strings.Repeat("w", long), strings.Repeat("1", long) + "u", "1" + strings.Repeat("u", long), strings.Repeat("-", long) + "s",
		},
		api.ErrRange: {
			"-1:00", "-1", "-0:01", "-0:00:01", "-48:00", "-1:00w", "-1s", "-0:00:01u", "-24G", "-47:59:59Z",
			"48:01", "48:00:01", "49", "167:59:59", "-167:59:59", "48:00:01w", "48:01s", "49u", "100g", "167Z",
			"1:60", "1:00:60", "0:60w", "0:00:99s", "168", "999", "-168", "168u", "999:59:59z", "-0:60s", "48:60",
		},
	}
	for want, texts := range tests {
		for _, s := range texts {
			if a, why := clock.Read(s); a != (api.At{}) || why != want {
				t.Errorf("Read of %.20q: %v, %d; not %d", s, a, why, want)
			}
		}
	}
}

// Promise 19.1: each byte behind an amount is one of the letters, or makes it none.
func TestLetters(t *testing.T) {
	for b := range 256 {
		for _, amount := range []string{"-", "0", "1", "02", "3:04", "48", "48:00:00", "1:00:0", "1:0", "1:", ":", "100", "", "-1", "49"} {
			for _, s := range []string{amount + string([]byte{byte(b)}), amount + string([]byte{byte(b), byte(b)}), string([]byte{byte(b)}) + amount} {
				want, whyWant := read(s)
				if a, why := clock.Read(s); a != want || why != whyWant {
					t.Errorf("Read of %q: %v, %d; not %v, %d", s, a, why, want, whyWant)
				}
			}
		}
	}
}

// Promise 19.1: many texts that are nearly right, by the patterns.
func TestReadByPattern(t *testing.T) {
	r := rand.New(rand.NewSource(19))
	told := map[api.Errno]int{}
	for range 200000 {
		s := []byte(fmt.Sprintf("-%0*d:%02d:%02d", 1+r.Intn(3), r.Intn(60), r.Intn(62), r.Intn(62)))
		s = s[r.Intn(2) : len(s)-3*r.Intn(3)]
		s = append(s, "wWsSuUgGzZxy:0-"[r.Intn(15)])
		for range r.Intn(2) {
			s[r.Intn(len(s))] = "-:0123456789wsugzZ "[r.Intn(19)]
		}
		text := string(s[:len(s)-r.Intn(2)])
		want, whyWant := read(text)
		if a, why := clock.Read(text); a != want || why != whyWant {
			t.Fatalf("Read of %q: %v, %d; not %v, %d", text, a, why, want, whyWant)
		}
		told[whyWant]++
	}
	if len(told) != 3 {
		t.Errorf("told: %v", told)
	}
}

// Promises 19.2 and 19.3: each time of day that may be is written by the words, and read as it is, in small and large letters.
func TestThereAndBack(t *testing.T) {
	for sec := int64(0); sec <= most; sec++ {
		for base := api.AtWall; base <= api.AtUtc; base++ {
			a := api.At{Sec: sec, Base: base}
			s, why := clock.Text(a)
			if s != write(a) || why != api.OK || !clock.Right(a) {
				t.Fatalf("Text of %v: %q, %d; not %q", a, s, why, write(a))
			}
			for _, text := range []string{s, strings.ToUpper(s)} {
				if back, why := clock.Read(text); back != a || why != api.OK {
					t.Fatalf("Read of %q: %v, %d; not %v", text, back, why, a)
				}
			}
		}
	}
}
