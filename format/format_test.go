package format_test

import (
	"fmt"
	"math"
	"math/rand"
	"regexp"
	"strings"
	"testing"

	"noontide/api"
	"noontide/format"
)

const (
	mostOff    = 359999
	mostBytes  = 16
	mostLetter = 6
)

// The forms of the formats, and of letters.
var (
	plain       = regexp.MustCompile(`^[A-Za-z0-9+-]+$`)
	withLetters = regexp.MustCompile(`^([A-Za-z0-9+-]*)%s([A-Za-z0-9+-]*)$`)
	byNumbers   = regexp.MustCompile(`^%z$`)
	inTwo       = regexp.MustCompile(`^([A-Za-z0-9+-]+)/([A-Za-z0-9+-]+)$`)
	letters     = regexp.MustCompile(`^[A-Za-z0-9+-]{1,6}$`)
)

// check goes by the forms.
func check(f string) api.Errno {
	if len(f) > mostBytes {
		return api.ErrLong
	}
	for _, form := range []*regexp.Regexp{plain, withLetters, byNumbers, inTwo} {
		if form.MatchString(f) {
			return api.OK
		}
	}
	return api.ErrForm
}

// abbr goes by the forms.
func abbr(f string, off, save int64, letter string) (string, api.Errno) {
	why := check(f)
	if why == api.OK && (off < -mostOff || off > mostOff) {
		why = api.ErrRange
	}
	if why != api.OK {
		return "", why
	}
	if p := withLetters.FindStringSubmatch(f); p != nil {
		return p[1] + letter + p[2], api.OK
	}
	if p := inTwo.FindStringSubmatch(f); p != nil {
		if save == 0 {
			return p[1], api.OK
		}
		return p[2], api.OK
	}
	if byNumbers.MatchString(f) {
		return written(off), api.OK
	}
	return f, api.OK
}

// written goes by the words.
func written(off int64) string {
	sign := "+"
	if off < 0 {
		sign, off = "-", -off
	}
	switch {
	case off%3600 == 0:
		return fmt.Sprintf("%s%02d", sign, off/3600)
	case off%60 == 0:
		return fmt.Sprintf("%s%02d%02d", sign, off/3600, off%3600/60)
	}
	return fmt.Sprintf("%s%02d%02d%02d", sign, off/3600, off%3600/60, off%60)
}

// ask is one question to Abbr, and what it asks is compared with the words.
type ask struct {
	off, save int64
	letter    string
}

func asks() []ask {
	return []ask{
		{0, 0, ""}, {3600, 0, "S"}, {-14400, 3600, "D"}, {-12600, -1, "x y"}, {1172, 1, "%s"}, {mostOff, math.MaxInt64, "/"}, {-mostOff, math.MinInt64, "%z%s/%s"}, {mostOff, 0, "\xff\x00"},
		{-mostOff, 0, strings.Repeat("long ", 100)}, {mostOff + 1, 0, "S"}, {-mostOff - 1, 1, ""}, {1 << 32, 0, ""}, {-1 << 32, 0, ""}, {math.MaxInt64, 0, "S"}, {math.MinInt64, math.MinInt64, "D"},
	}
}

// compare asks Check and Abbr of a format, and holds what they tell against the forms.
func compare(t *testing.T, f string) api.Errno {
	t.Helper()
	want := check(f)
	if why := format.Check(f); why != want {
		t.Fatalf("Check of %.20q: %d; not %d", f, why, want)
	}
	for _, a := range asks() {
		want, whyWant := abbr(f, a.off, a.save, a.letter)
		if s, why := format.Abbr(f, a.off, a.save, a.letter); s != want || why != whyWant {
			t.Fatalf("Abbr of %.20q with %d, %d, %.20q: %.20q, %d; not %.20q, %d", f, a.off, a.save, a.letter, s, why, want, whyWant)
		}
	}
	return want
}

// shorts are all texts of up to most bytes of these.
func shorts(bytes string, most int) []string {
	l := []string{""}
	for from := 0; most > 0; most-- {
		to := len(l)
		for _, s := range l[from:to] {
			for i := range len(bytes) {
				l = append(l, s+bytes[i:i+1])
			}
		}
		from = to
	}
	return l
}

// Promise 20.1: known formats.
func TestCheck(t *testing.T) {
	right := []string{
		"A", "z", "s", "0", "+", "-", "+-", "UTC", "LMT", "-00", "+0330", "9aZ+-", "1234567890123456", "A123456789012345",
		"%s", "E%sT", "%sT", "C%s", "+%s-", "%ss", "s%s", "z%s", "%sz", "12345678901234%s", "%s12345678901234",
		"%z", "GMT/BST", "A/B", "+01/+02", "-/+", "a/a", "1/2", "1234567/12345678", "A/12345678901234", "12345678901234/B",
	}
	for _, f := range right {
		if why := format.Check(f); why != api.OK {
			t.Errorf("Check of %q: %d", f, why)
		}
	}
	tests := map[api.Errno][]string{
		api.ErrForm: {
			"", "%", "%%", "%%s", "%s%", "%s%s", "%s%z", "%z%s", "%z%z", "%x", "%S", "%Z", "%zx", "x%z", "%z+", "E%T", "E%", "%E", "% s", "s%", "z%", "%d",
			"/", "A/", "/A", "//", "A//B", "a/b/c", "A/B/", "/A/B", "/A/", "%s/A", "A/%s", "A%s/B", "%z/A", "A/%z", "%s/", "/%s", "%/s", "A/%", "%/A", "%s/%s", "A/B%s",
			" ", "A B", " A", "A ", "a_b", "A.B", "A,B", "\"A\"", "A:B", "A@", "A[", "A`", "A{", "A*", "A,", "A.", "A;", "A&", "A$", "\x00", "A\x00", "A\n", "\xff", "A\xff", "\u00e9", "E%sT\u00e9", "\uff21", "A\u2044B", "%\u017f",
			"123456789012345/", "/123456789012345", "%s%s%s%s%s%s%s%s", "%z12345678901234", "________________",
		},
		api.ErrLong: {
			"12345678901234567", "%s123456789012345", "123456789012345%s", "12345678/12345678", "%%%%%%%%%%%%%%%%%", "                 ", "/////////////////", "\u00e9\u00e9\u00e9\u00e9\u00e9\u00e9\u00e9\u00e9\u00e9", "%z123456789012345",
			strings.Repeat("A", 1<<20), strings.Repeat("%", 1<<20), strings.Repeat("/", 1<<20), strings.Repeat("\xff", 1<<20),
		},
	}
	for want, formats := range tests {
		for _, f := range formats {
			if why := format.Check(f); why != want {
				t.Errorf("Check of %.20q: %d; not %d", f, why, want)
			}
		}
	}
}

// Promises 20.1 and 20.2: each byte in each place of a format.
func TestBytes(t *testing.T) {
	for b := range 256 {
		c := string([]byte{byte(b)})
		for _, f := range []string{c, c + c, "A" + c, c + "A", "A" + c + "B", "%" + c, "%s" + c, c + "%s", "A/" + c, c + "/A", "%z" + c, c + "%z", "A%" + c + "B", strings.Repeat(c, 15), strings.Repeat(c, 16), strings.Repeat(c, 17)} {
			compare(t, f)
		}
	}
}

// Promises 20.1 and 20.2: all short formats of bytes that have a meaning, and all lengths of each kind, by the forms.
func TestByForms(t *testing.T) {
	formats := shorts("As%z/+ ", 5)
	for _, f := range []string{"", "%s", "/", "%z", "/%s", "%s%s", "//"} {
		for n := range 20 {
			for at := range n + 1 {
				formats = append(formats, strings.Repeat("x", at)+f+strings.Repeat("Y", n-at))
			}
		}
	}
	r := rand.New(rand.NewSource(20))
	for range 20000 {
		f := make([]byte, 1+r.Intn(17))
		for i := range f {
			f[i] = "ABCZaz09+-"[r.Intn(10)]
		}
		for range r.Intn(3) {
			f[r.Intn(len(f))] = "%/s"[r.Intn(3)]
		}
		formats = append(formats, string(f))
	}
	told := map[api.Errno]int{}
	for _, f := range formats {
		told[compare(t, f)]++
	}
	if len(told) != 3 {
		t.Errorf("told: %v", told)
	}
}

// Promise 20.2: known names.
func TestAbbr(t *testing.T) {
	tests := []struct {
		format    string
		off, save int64
		letter    string
		want      string
	}{
		{"UTC", 0, 0, "", "UTC"},
		{"UTC", 3600, 3600, "S", "UTC"},
		{"-00", -mostOff, 1, "x", "-00"},
		{"E%sT", -14400, 3600, "D", "EDT"},
		{"E%sT", -18000, 0, "", "ET"},
		{"E%sT", -18000, 0, "S", "EST"},
		{"%s", 0, 0, "", ""},
		{"%s", 0, 0, "%s", "%s"},
		{"%sT", 0, 0, "a long one, of any bytes /%z\x00", "a long one, of any bytes /%z\x00T"},
		{"C%s", 0, 0, "%", "C%"},
		{"GMT/BST", 0, 0, "", "GMT"},
		{"GMT/BST", 3600, 3600, "", "BST"},
		{"GMT/BST", 0, -1, "", "BST"},
		{"GMT/BST", 0, 1, "", "BST"},
		{"GMT/BST", 3600, 0, "", "GMT"},
		{"%z", -12600, 0, "", "-0330"},
		{"%z", 0, 3600, "x", "+00"},
		{"%z", 1172, 0, "", "+001932"},
		{"%z", -1, 0, "", "-000001"},
		{"%z", 1, 0, "", "+000001"},
		{"%z", 60, 0, "", "+0001"},
		{"%z", 3600, 0, "", "+01"},
		{"%z", 3601, 0, "", "+010001"},
		{"%z", -3660, 0, "", "-0101"},
		{"%z", 36000, 0, "", "+10"},
		{"%z", mostOff, 0, "", "+995959"},
		{"%z", -mostOff, 0, "", "-995959"},
	}
	for _, x := range tests {
		if s, why := format.Abbr(x.format, x.off, x.save, x.letter); s != x.want || why != api.OK {
			t.Errorf("Abbr of %q with %d, %d, %q: %q, %d; not %q", x.format, x.off, x.save, x.letter, s, why, x.want)
		}
	}
}

// Promise 20.2: a wrong format is told ahead of a difference that is too great, and that of whichever format.
func TestAbbrErrors(t *testing.T) {
	for _, off := range []int64{mostOff + 1, -mostOff - 1, math.MaxInt64, math.MinInt64, 1 << 32, -1 << 32, 0} {
		for f, want := range map[string]api.Errno{"UTC": api.ErrRange, "E%sT": api.ErrRange, "%z": api.ErrRange, "A/B": api.ErrRange, "": api.ErrForm, "a/b/c": api.ErrForm, "%x": api.ErrForm, "12345678901234567": api.ErrLong, "%s               ": api.ErrLong} {
			if off == 0 && want == api.ErrRange {
				continue
			}
			if s, why := format.Abbr(f, off, 0, "S"); s != "" || why != want {
				t.Errorf("Abbr of %q with %d: %q, %d; not %d", f, off, s, why, want)
			}
		}
	}
}

// Promise 20.2: each difference is written by the words.
func TestDifferences(t *testing.T) {
	for off := int64(-mostOff); off <= mostOff; off++ {
		if s, why := format.Abbr("%z", off, 0, ""); s != written(off) || why != api.OK {
			t.Fatalf("%d is written %q, %d; not %q", off, s, why, written(off))
		}
	}
}

// Promise 20.3: each byte, and all lengths, in letters.
func TestLetter(t *testing.T) {
	for b := range 256 {
		c := string([]byte{byte(b)})
		for _, s := range []string{c, c + c, "A" + c, c + "A", "ABCDE" + c, "ABCDEF" + c, c + "ABCDEF", strings.Repeat(c, 6), strings.Repeat(c, 7)} {
			want, whyWant := s, api.OK
			switch {
			case s == "-":
				want = ""
			case len(s) > mostLetter:
				want, whyWant = "", api.ErrLong
			case !letters.MatchString(s):
				want, whyWant = "", api.ErrForm
			}
			if l, why := format.Letter(s); l != want || why != whyWant {
				t.Errorf("Letter of %q: %q, %d; not %q, %d", s, l, why, want, whyWant)
			}
		}
	}
}

// Promise 20.3: known letters, and what are none.
func TestLetterKnown(t *testing.T) {
	tests := []struct {
		s, want string
		why     api.Errno
	}{
		{"-", "", api.OK}, {"S", "S", api.OK}, {"D", "D", api.OK}, {"S+1", "S+1", api.OK}, {"--", "--", api.OK}, {"-1", "-1", api.OK}, {"+", "+", api.OK}, {"0", "0", api.OK}, {"azAZ09", "azAZ09", api.OK},
		{"", "", api.ErrForm}, {"a b", "", api.ErrForm}, {"%s", "", api.ErrForm}, {"A/B", "", api.ErrForm}, {"_", "", api.ErrForm}, {"A.", "", api.ErrForm}, {"\u00e9", "", api.ErrForm}, {"\u00e9\u00e9\u00e9", "", api.ErrForm}, {"- ", "", api.ErrForm},
		{"toolong", "", api.ErrLong}, {"-------", "", api.ErrLong}, {"       ", "", api.ErrLong}, {"\u00e9\u00e9\u00e9\u00e9", "", api.ErrLong}, {strings.Repeat("A", 1<<20), "", api.ErrLong},
	}
	for _, x := range tests {
		if l, why := format.Letter(x.s); l != x.want || why != x.why {
			t.Errorf("Letter of %.20q: %q, %d; not %q, %d", x.s, l, why, x.want, x.why)
		}
	}
}

// Promises 20.3 and 20.4: letters that some text means are written so that they are read as they are, and others are not written.
func TestLetterText(t *testing.T) {
	all := append(shorts("AzZ09+-", 4), "-", "--", "ABCDEF", "------", "azAZ09", "+-+-+-")
	meant := map[string]string{}
	for _, s := range all {
		if l, why := format.Letter(s); why == api.OK {
			meant[l] = s
		}
	}
	others := append(all, "_", "a b", " ", "%s", "A/", "\xff", "\x00", "\u00e9", "toolong", "-------", strings.Repeat("A", 1<<20))
	for _, l := range others {
		want, some := meant[l]
		whyWant := api.OK
		if !some {
			whyWant = api.ErrForm
		}
		s, why := format.LetterText(l)
		if s != want || why != whyWant {
			t.Errorf("LetterText of %.20q: %q, %d; not %q, %d", l, s, why, want, whyWant)
		}
		if back, whyBack := format.Letter(s); some && (back != l || whyBack != api.OK) {
			t.Errorf("Letter of %q: %q, %d", s, back, whyBack)
		}
	}
	for letter, want := range map[string]string{"": "-", "S": "S", "--": "--", "+1": "+1"} {
		if s, why := format.LetterText(letter); s != want || why != api.OK {
			t.Errorf("LetterText of %q: %q, %d", letter, s, why)
		}
	}
	if s, why := format.LetterText("-"); s != "" || why != api.ErrForm {
		t.Errorf("LetterText of -: %q, %d", s, why)
	}
}

// Promise 20.5: what a name hangs on.
func TestWhatItHangsOn(t *testing.T) {
	hangsOn := map[string]func(ask) string{
		"LMT":     func(ask) string { return "" },
		"+03-":    func(ask) string { return "" },
		"E%sT":    func(a ask) string { return a.letter },
		"%s":      func(a ask) string { return a.letter },
		"%z":      func(a ask) string { return fmt.Sprint(a.off) },
		"GMT/BST": func(a ask) string { return fmt.Sprint(a.save != 0) },
	}
	for f, of := range hangsOn {
		named := map[string]string{}
		names := map[string]bool{}
		for _, off := range []int64{0, 1, 60, 3600, -1, -3600, mostOff, -mostOff} {
			for _, save := range []int64{0, 1, 3600, -1, math.MaxInt64, math.MinInt64} {
				for _, letter := range []string{"", "S", "D", "-", "%s"} {
					a := ask{off, save, letter}
					s, why := format.Abbr(f, a.off, a.save, a.letter)
					if before, ok := named[of(a)]; ok && before != s || why != api.OK {
						t.Errorf("Abbr of %q with %v: %q, %d; also %q", f, a, s, why, before)
					}
					named[of(a)] = s
					names[s] = true
				}
			}
		}
		if len(names) != len(named) {
			t.Errorf("%q: %q", f, named)
		}
	}
}
