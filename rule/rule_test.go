package rule_test

import (
	"fmt"
	"math"
	"math/rand"
	"regexp"
	"slices"
	"strings"
	"testing"

	"noontide/api"
	"noontide/rule"
)

const (
	least    = -32767
	most     = 32767
	mostName = 64
	mostSave = 10800
	mostAt   = 172800
)

var named = regexp.MustCompile(`^[A-Za-z_][A-Za-z0-9_+/.-]*$`)

// name goes by the words.
func name(s string) api.Errno {
	switch {
	case len(s) > mostName:
		return api.ErrLong
	case !named.MatchString(s):
		return api.ErrName
	}
	return api.OK
}

func compareName(t *testing.T, s string) {
	t.Helper()
	if why, want := rule.Name(s), name(s); why != want {
		t.Errorf("Name of %.70q: %d; not %d", s, why, want)
	}
}

// Promise 21.1: known names.
func TestName(t *testing.T) {
	tests := map[api.Errno][]string{
		api.OK:      {"A", "z", "_", "US", "Etc/GMT+1.x_", "America/Port-au-Prince", "_0", "a//", "a.", "a-", "a+9", strings.Repeat("a", 64), strings.Repeat("_", 64)},
		api.ErrName: {"", " ", "0", "9a", "-", "-a", "+a", "/a", ".a", "a b", "a\t", "a\n", "a\x00", "a\xff", "\xff", "\u00e9", "a\u00e9", "\u0430", "a,b", "a:", "a\"", "a#", "a%", strings.Repeat("a", 63) + " ", "1" + strings.Repeat("a", 63)},
		api.ErrLong: {strings.Repeat("a", 65), strings.Repeat(" ", 65), string(make([]byte, 65)), "1" + strings.Repeat("a", 64), strings.Repeat("\u00e9", 33), strings.Repeat("a", 1<<20)},
	}
	for want, names := range tests {
		for _, s := range names {
			if why := rule.Name(s); why != want {
				t.Errorf("Name of %.70q: %d; not %d", s, why, want)
			}
		}
	}
}

// Promise 21.1: each byte in each place of names of each length, and each pair of bytes.
func TestNameBytes(t *testing.T) {
	for length := range 67 {
		compareName(t, strings.Repeat("a", length))
		for place := range length {
			for b := range 256 {
				s := []byte(strings.Repeat("a", length))
				s[place] = byte(b)
				compareName(t, string(s))
			}
		}
	}
	for a := range 256 {
		for b := range 256 {
			compareName(t, string([]byte{byte(a), byte(b)}))
		}
	}
}

// eu is a rule that there was, and euFields are its fields.
func eu() api.Rule {
	return api.Rule{Name: "EU", From: 1981, To: most, Month: 3, On: api.On{Kind: api.OnLast}, At: api.At{Sec: 3600, Base: api.AtUtc}, Save: 3600, Letter: "S"}
}

func euFields() []string {
	return []string{"EU", "1981", "max", "-", "Mar", "lastSun", "1:00u", "1:00", "S"}
}

// part is a part of a rule, made by hand, that may be, or may not.
type part struct {
	may bool
	set func(r *api.Rule)
}

// handMade are the parts of rules, each in its ways.
func handMade() [][]part {
	var names, years, days, ats, saves, letters []part
	for _, s := range []string{"EU", "_", strings.Repeat("a", 64), "", "1", "a b", "-", strings.Repeat("a", 65)} {
		names = append(names, part{name(s) == api.OK, func(r *api.Rule) { r.Name = s }})
	}
	ends := []int{1981, 0, -5, least, least + 1, most - 1, most, least - 1, most + 1, math.MinInt, math.MaxInt, 1<<32 + 1981}
	for _, from := range ends {
		for _, to := range ends {
			years = append(years, part{from >= least && from <= to && to <= most, func(r *api.Rule) { r.From, r.To = from, to }})
		}
	}
	for month, length := range []int{0, 31, 28, 31, 30, 31, 30, 31, 31, 30, 31, 30, 31, 0} {
		for _, day := range []int{-1, 0, 1, 28, 29, 30, 31, 32} {
			for kind := -1; kind <= 4; kind++ {
				for _, week := range []int{-1, 0, 6, 7} {
					weekday := week >= 0 && week <= 6
					of := map[int]bool{api.OnDay: week == 0 && day >= 1 && day <= length, api.OnLast: weekday && day == 0 && length > 0, api.OnFrom: weekday && day >= 1 && day <= length, api.OnUpTo: weekday && day >= 1 && day <= length}
					days = append(days, part{of[kind], func(r *api.Rule) { r.Month, r.On = month, api.On{Kind: kind, Week: week, Day: day} }})
				}
			}
		}
	}
	for _, sec := range []int64{0, 1, 7200, mostAt, -1, mostAt + 1, math.MinInt64, math.MaxInt64} {
		for base := -1; base <= 3; base++ {
			ats = append(ats, part{sec >= 0 && sec <= mostAt && base >= 0 && base <= 2, func(r *api.Rule) { r.At = api.At{Sec: sec, Base: base} }})
		}
	}
	for _, save := range []int64{0, 1, -1, 3600, mostSave, -mostSave, mostSave + 1, -mostSave - 1, math.MinInt64, math.MaxInt64} {
		saves = append(saves, part{save >= -mostSave && save <= mostSave, func(r *api.Rule) { r.Save = save }})
	}
	for letter, may := range map[string]bool{"": true, "S": true, "+01": true, "--": true, "abcdef": true, "-": false, "abcdefg": false, "a b": false, "_": false, "\xff": false} {
		letters = append(letters, part{may, func(r *api.Rule) { r.Letter = letter }})
	}
	return [][]part{names, years, days, ats, saves, letters}
}

// compareRight asks Right and Fields of a rule that may be, or may not.
func compareRight(t *testing.T, r api.Rule, may bool) {
	t.Helper()
	if rule.Right(r) != may {
		t.Fatalf("%v is right: %t", r, !may)
	}
	f, why := rule.Fields(r)
	if !may {
		if len(f) != 0 || why != api.ErrForm {
			t.Fatalf("Fields of %v: %q, %d", r, f, why)
		}
		return
	}
	if want := written(r); !slices.Equal(f, want) || why != api.OK {
		t.Fatalf("Fields of %v: %q, %d; not %q", r, f, why, want)
	}
	if back, why := rule.Read(f); back != r || why != api.OK {
		t.Fatalf("Read of %q: %v, %d; not %v", f, back, why, r)
	}
}

// Promises 21.1, 21.3 and 21.4: a rule of which one part is changed, or two are.
func TestRight(t *testing.T) {
	parts := handMade()
	random := rand.New(rand.NewSource(21))
	for i, ones := range parts {
		others := parts[(i+1)%len(parts)]
		for _, one := range ones {
			r := eu()
			one.set(&r)
			compareRight(t, r, one.may)
		}
		for range 3000 {
			one, other := ones[random.Intn(len(ones))], others[random.Intn(len(others))]
			r := eu()
			one.set(&r)
			other.set(&r)
			compareRight(t, r, one.may && other.may)
		}
	}
	compareRight(t, api.Rule{}, false)
}

// written goes by the words.
func written(r api.Rule) []string {
	months := "JanFebMarAprMayJunJulAugSepOctNovDec"
	week := "SunMonTueWedThuFriSat"[3*r.On.Week:][:3]
	from, to, letter := fmt.Sprint(r.From), fmt.Sprint(r.To), r.Letter
	if r.From == least {
		from = "min"
	}
	if r.To == most {
		to = "max"
	}
	if r.To == r.From {
		to = "only"
	}
	if letter == "" {
		letter = "-"
	}
	day := []string{fmt.Sprint(r.On.Day), "last" + week, fmt.Sprint(week, ">=", r.On.Day), fmt.Sprint(week, "<=", r.On.Day)}[r.On.Kind]
	return []string{r.Name, from, to, "-", months[3*r.Month-3 : 3*r.Month], day, amount(r.At.Sec) + []string{"", "s", "u"}[r.At.Base], amount(r.Save), letter}
}

// amount goes by the words.
func amount(n int64) string {
	switch {
	case n == 0:
		return "0"
	case n < 0:
		return "-" + amount(-n)
	case n%60 == 0:
		return fmt.Sprintf("%d:%02d", n/3600, n/60%60)
	}
	return fmt.Sprintf("%d:%02d:%02d", n/3600, n/60%60, n%60)
}

// Promises 21.2 and 21.3: known rules.
func TestKnown(t *testing.T) {
	us := api.Rule{Name: "US", From: 1967, To: 2006, Month: 10, At: api.At{Sec: 7200}, On: api.On{Kind: api.OnLast}, Letter: "S"}
	all := api.Rule{Name: "A", From: least, To: least, Month: 1, On: api.On{Day: 31}, At: api.At{Sec: mostAt, Base: api.AtStd}, Save: -mostSave}
	tests := []struct {
		line string
		want api.Rule
		same bool
	}{
		{"EU 1981 max - Mar lastSun 1:00u 1:00 S", eu(), true},
		{"US 1967 2006 - Oct lastSun 2:00 0 S", us, true},
		{"US 1967 2006 - OCTOBER LASTSUNDAY 02:00:00W - S", us, false},
		{"A min only - Jan 31 48:00s -3:00 -", all, true},
		{"A MINIMUM -32767 - ja 31 48S -3 -", all, false},
	}
	for _, x := range tests {
		f := strings.Fields(x.line)
		if r, why := rule.Read(f); r != x.want || why != api.OK {
			t.Errorf("Read of %s: %v, %d; not %v", x.line, r, why, x.want)
		}
		told, why := rule.Fields(x.want)
		if why != api.OK || x.same && strings.Join(told, " ") != x.line {
			t.Errorf("Fields of %v: %q, %d; not %s", x.want, told, why, x.line)
		}
	}
}

// texts are some fields that stand side by side, and what they mean, or which error they are.
type texts struct {
	fields []string
	why    api.Errno
	set    func(r *api.Rule)
}

// choices are the fields of rules, each in many ways.
func choices() [][]texts {
	ok := func(set func(r *api.Rule), fields ...string) texts { return texts{fields, api.OK, set} }
	not := func(why api.Errno, fields ...string) texts { return texts{fields, why, nil} }
	years := func(from, to int) func(r *api.Rule) { return func(r *api.Rule) { r.From, r.To = from, to } }
	day := func(month, kind, week, day int) func(r *api.Rule) {
		return func(r *api.Rule) { r.Month, r.On = month, api.On{Kind: kind, Week: week, Day: day} }
	}
	at := func(sec int64, base int) func(r *api.Rule) {
		return func(r *api.Rule) { r.At = api.At{Sec: sec, Base: base} }
	}
	save := func(n int64) func(r *api.Rule) { return func(r *api.Rule) { r.Save = n } }
	letter := func(s string) func(r *api.Rule) { return func(r *api.Rule) { r.Letter = s } }
	return [][]texts{
		{
			ok(func(r *api.Rule) { r.Name = "EU" }, "EU"), ok(func(r *api.Rule) { r.Name = "_/a" }, "_/a"),
			not(api.ErrName, "1"), not(api.ErrName, ""), not(api.ErrName, "-"), not(api.ErrLong, strings.Repeat("a", 65)),
		},
		{
			ok(years(1981, most), "1981", "max"), ok(years(1981, 1981), "1981", "only"), ok(years(least, most), "mi", "MAXIMUM"), ok(years(-5, -4), "-5", "-4"), ok(years(7, 7), "7", "7"), ok(years(most, most), "32767", "o"),
			not(api.ErrWord, "x", "max"), not(api.ErrWord, "max", "x"), not(api.ErrWord, "only", "only"), not(api.ErrNumber, "01", "x"), not(api.ErrRange, "32768", "01"), not(api.ErrRange, "-32768", "max"), not(api.ErrWord, "", ""),
			not(api.ErrWord, "1981", "x"), not(api.ErrWord, "1981", "min"), not(api.ErrWord, "1981", ""), not(api.ErrNumber, "1981", "01"), not(api.ErrNumber, "1981", "-"), not(api.ErrRange, "1981", "32768"), not(api.ErrOrder, "1981", "1980"), not(api.ErrOrder, "5", "-5"),
		},
		{ok(func(*api.Rule) {}, "-"), not(api.ErrWord, ""), not(api.ErrWord, "--"), not(api.ErrWord, "x"), not(api.ErrWord, "0"), not(api.ErrWord, "- ")},
		{
			ok(day(3, api.OnLast, 0, 0), "Mar", "lastSun"), ok(day(2, api.OnDay, 0, 28), "february", "28"), ok(day(2, api.OnFrom, 1, 28), "F", "M>=28"), ok(day(4, api.OnUpTo, 6, 30), "apr", "Sat<=30"), ok(day(12, api.OnDay, 0, 31), "D", "31"), ok(day(2, api.OnLast, 5, 0), "FEB", "LASTFri"),
			not(api.ErrWord, "x", "lastSun"), not(api.ErrWord, "Ju", "x"), not(api.ErrWord, "", "32"), not(api.ErrWord, "3", "08"), not(api.ErrForm, "Mar", ""), not(api.ErrForm, "Mar", "Sun"), not(api.ErrForm, "Mar", "Sun>8"), not(api.ErrWord, "Mar", "lastS"), not(api.ErrNumber, "Mar", "08"),
			not(api.ErrRange, "Mar", "32"), not(api.ErrRange, "Mar", "0"), not(api.ErrRange, "Feb", "29"), not(api.ErrRange, "Feb", "Sun>=29"), not(api.ErrRange, "Feb", "Sun<=29"), not(api.ErrRange, "Apr", "31"), not(api.ErrRange, "Nov", "Mon<=31"),
		},
		{
			ok(at(3600, api.AtUtc), "1:00u"), ok(at(0, api.AtWall), "0"), ok(at(0, api.AtStd), "-s"), ok(at(mostAt, api.AtUtc), "48Z"), ok(at(7201, api.AtWall), "02:00:01w"),
			not(api.ErrNumber, ""), not(api.ErrNumber, "u"), not(api.ErrNumber, "1:0"), not(api.ErrRange, "1:60"), not(api.ErrRange, "-1"), not(api.ErrRange, "48:00:01"),
		},
		{
			ok(save(3600), "1:00"), ok(save(0), "0"), ok(save(0), "-"), ok(save(-1800), "-0:30"), ok(save(mostSave), "3"), ok(save(-mostSave), "-3:00:00"), ok(save(1172), "0:19:32"),
			not(api.ErrNumber, ""), not(api.ErrNumber, "x"), not(api.ErrNumber, "1:00s"), not(api.ErrRange, "0:60"), not(api.ErrRange, "3:00:01"), not(api.ErrRange, "-3:00:01"), not(api.ErrRange, "4"), not(api.ErrRange, "999"),
		},
		{
			ok(letter("S"), "S"), ok(letter(""), "-"), ok(letter("+01-aZ"), "+01-aZ"), ok(letter("--"), "--"),
			not(api.ErrForm, ""), not(api.ErrForm, "a b"), not(api.ErrForm, "_"), not(api.ErrLong, "abcdefg"), not(api.ErrLong, "abc efg"),
		},
	}
}

// compareRead asks Read of some fields, of which all that are ahead of the first wrong one are right.
func compareRead(t *testing.T, some []texts) {
	t.Helper()
	var f []string
	want, whyWant := api.Rule{}, api.OK
	for _, x := range some {
		f = append(f, x.fields...)
		switch {
		case whyWant != api.OK:
		case x.why != api.OK:
			want, whyWant = api.Rule{}, x.why
		default:
			x.set(&want)
		}
	}
	given := slices.Clone(f)
	if r, why := rule.Read(f); r != want || why != whyWant {
		t.Fatalf("Read of %q: %v, %d; not %v, %d", f, r, why, want, whyWant)
	}
	if !slices.Equal(f, given) {
		t.Fatalf("Read changes %q to %q", given, f)
	}
	if whyWant == api.OK && !rule.Right(want) {
		t.Fatalf("%v is read, but not right", want)
	}
}

// Promises 21.2 and 21.4: each way of each field among right ones; then of two that are wrong, the first is told; then any, together.
func TestRead(t *testing.T) {
	all := choices()
	some := make([]texts, len(all))
	for i := range all {
		some[i] = all[i][0]
	}
	for i := range all {
		for _, one := range all[i] {
			mixed := slices.Clone(some)
			mixed[i] = one
			compareRead(t, mixed)
			for j := i + 1; j < len(all); j++ {
				for _, other := range all[j] {
					mixed[j] = other
					compareRead(t, mixed)
				}
				mixed[j] = some[j]
			}
		}
	}
	r := rand.New(rand.NewSource(21))
	for range 100000 {
		for i := range all {
			some[i] = all[i][r.Intn(len(all[i]))]
		}
		compareRead(t, some)
	}
}

// Promise 21.2: how many fields there are is told ahead of what is wrong with them.
func TestReadCount(t *testing.T) {
	for _, fields := range [][]string{euFields(), slices.Repeat([]string{"1"}, 9)} {
		for n := range 40 {
			f := slices.Repeat(fields, 5)[:n]
			want := api.ErrShort
			switch {
			case n > 9:
				want = api.ErrMore
			case n == 9 && fields[0] == "1":
				want = api.ErrName
			case n == 9:
				want = api.OK
			}
			if r, why := rule.Read(f); why != want || why != api.OK && r != (api.Rule{}) {
				t.Errorf("Read of %d fields: %v, %d; not %d", n, r, why, want)
			}
		}
	}
	if r, why := rule.Read(nil); r != (api.Rule{}) || why != api.ErrShort {
		t.Errorf("Read of nil: %v, %d", r, why)
	}
}

// Promise 21.3: an answer is new memory.
func TestNewMemory(t *testing.T) {
	a, _ := rule.Fields(eu())
	b, _ := rule.Fields(eu())
	clear(a)
	if !slices.Equal(b, euFields()) {
		t.Errorf("%q is changed by another answer", b)
	}
}
