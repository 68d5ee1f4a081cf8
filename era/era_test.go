package era_test

import (
	"fmt"
	"math"
	"math/rand"
	"regexp"
	"slices"
	"strings"
	"testing"

	"noontide/api"
	"noontide/era"
)

const (
	least    = -32767
	most     = 32767
	mostOff  = 54000
	mostSave = 10800
	mostAt   = 172800
)

func end(year, month int, on api.On, sec int64, base int) api.Until {
	return api.Until{Has: true, Year: year, Month: month, On: on, At: api.At{Sec: sec, Base: base}}
}

// gb is an era that there was, and gbFields are its fields.
func gb() api.Era {
	return api.Era{Kind: api.RulesFixed, Save: 3600, Format: "BST", Until: end(1971, 10, api.On{Day: 31}, 7200, api.AtUtc)}
}

func gbFields() []string {
	return []string{"0", "1:00", "BST", "1971", "Oct", "31", "2:00u"}
}

// part is a part of an era, made by hand, that may be, or may not.
type part struct {
	may bool
	set func(e *api.Era)
}

// rules are all ways of telling what is saved.
func rules() []part {
	var l []part
	names := map[string]bool{"US": true, "_": true, strings.Repeat("a", 64): true, "": false, "1": false, "-": false, "-1": false, "a b": false, strings.Repeat("a", 65): false}
	for kind := -1; kind <= 3; kind++ {
		for _, save := range []int64{0, 1, -1, 3600, mostSave, -mostSave, mostSave + 1, -mostSave - 1, math.MinInt64, math.MaxInt64} {
			for name, named := range names {
				saved := save >= -mostSave && save <= mostSave
				of := map[int]bool{api.RulesNone: save == 0 && name == "", api.RulesFixed: saved && name == "", api.RulesNamed: save == 0 && named}
				l = append(l, part{of[kind], func(e *api.Era) { e.Kind, e.Save, e.Rules = kind, save, name }})
			}
		}
	}
	return l
}

// ends are all ways of ends, each part of one among right ones, and two together.
func ends() []part {
	var l []part
	add := func(may bool, u api.Until) {
		l = append(l, part{may, func(e *api.Era) { e.Until = u }})
	}
	for i, length := range []int{0, 31, 28, 31, 30, 31, 30, 31, 31, 30, 31, 30, 31, 0} {
		for _, day := range []int{0, 1, 2, 28, 29, 30, 31, 32} {
			for kind := -1; kind <= 4; kind++ {
				for _, week := range []int{-1, 0, 6, 7} {
					weekday := week >= 0 && week <= 6
					of := map[int]bool{api.OnDay: week == 0 && day >= 1 && day <= length, api.OnLast: weekday && day == 0 && length > 0, api.OnFrom: weekday && day >= 1 && day <= length, api.OnUpTo: weekday && day >= 1 && day <= length}
					for _, sec := range []int64{0, 7200} {
						add(of[kind], end(1971, i, api.On{Kind: kind, Week: week, Day: day}, sec, api.AtWall))
					}
				}
			}
		}
	}
	for _, sec := range []int64{0, 1, 7200, mostAt, -1, mostAt + 1, math.MinInt64, math.MaxInt64} {
		for base := -1; base <= 3; base++ {
			for month := 1; month <= 2; month++ {
				add(sec >= 0 && sec <= mostAt && base >= 0 && base <= 2, end(1971, month, api.On{Day: month}, sec, base))
				add(sec >= 0 && sec <= mostAt && base >= 0 && base <= 2, end(1971, month, api.On{Day: 1}, sec, base))
			}
		}
	}
	for _, year := range []int{0, -1, 1971, least, least + 1, most, most - 1, math.MinInt, math.MaxInt, 1<<32 + 1971} {
		add(year > least && year < most, end(year, 1, api.On{Day: 1}, 0, api.AtWall))
		add(year > least && year < most, end(year, 12, api.On{Day: 1}, 0, api.AtWall))
	}
	add(true, api.Until{})
	add(false, api.Until{Year: 1971, Month: 1, On: api.On{Day: 1}})
	for _, u := range []api.Until{{Year: 1}, {Year: -1}, {Month: 1}, {On: api.On{Kind: 1}}, {On: api.On{Week: 1}}, {On: api.On{Day: 1}}, {At: api.At{Sec: 1}}, {At: api.At{Base: 1}}, {Has: true}} {
		add(false, u)
	}
	return l
}

// handMade are the parts of eras, each in its ways.
func handMade() [][]part {
	var offs, formats []part
	for _, off := range []int64{0, 1, -1, 3600, -18000, mostOff, -mostOff, mostOff + 1, -mostOff - 1, 1 << 32, math.MinInt64, math.MaxInt64} {
		offs = append(offs, part{off >= -mostOff && off <= mostOff, func(e *api.Era) { e.Off = off }})
	}
	for format, may := range map[string]bool{"BST": true, "E%sT": true, "%s": true, "%z": true, "GMT/BST": true, "-00": true, strings.Repeat("a", 16): true, "": false, "%": false, "a/": false, "a b": false, "-%z": false, strings.Repeat("a", 17): false} {
		formats = append(formats, part{may, func(e *api.Era) { e.Format = format }})
	}
	return [][]part{offs, rules(), formats, ends()}
}

// written goes by the words.
func written(e api.Era) []string {
	f := []string{amount(e.Off), []string{"-", amount(e.Save), e.Rules}[e.Kind], e.Format}
	if !e.Until.Has {
		return f
	}
	u := e.Until
	week := "SunMonTueWedThuFriSat"[3*u.On.Week:][:3]
	day := []string{fmt.Sprint(u.On.Day), "last" + week, fmt.Sprint(week, ">=", u.On.Day), fmt.Sprint(week, "<=", u.On.Day)}[u.On.Kind]
	f = append(f, fmt.Sprint(u.Year), "JanFebMarAprMayJunJulAugSepOctNovDec"[3*u.Month-3:][:3], day, amount(u.At.Sec)+[]string{"", "s", "u"}[u.At.Base])
	for _, lacking := range []string{"0", "1", "Jan"} {
		if f[len(f)-1] != lacking {
			break
		}
		f = f[:len(f)-1]
	}
	return f
}

// amount goes by the words.
func amount(n int64) string {
	switch {
	case n == 0:
		return "0"
	case n < 0:
		return "-" + amount(-n)
	case n%60 == 0:
		return fmt.Sprintf("%d:%02d", n/3600, n/60%60)
	}
	return fmt.Sprintf("%d:%02d:%02d", n/3600, n/60%60, n%60)
}

// compareRight asks Right and Fields of an era that may be, or may not.
func compareRight(t *testing.T, e api.Era, may bool) {
	t.Helper()
	if era.Right(e) != may {
		t.Fatalf("%v is right: %t", e, !may)
	}
	f, why := era.Fields(e)
	if !may {
		if len(f) != 0 || why != api.ErrForm {
			t.Fatalf("Fields of %v: %q, %d", e, f, why)
		}
		return
	}
	if want := written(e); !slices.Equal(f, want) || why != api.OK {
		t.Fatalf("Fields of %v: %q, %d; not %q", e, f, why, want)
	}
	if back, why := era.Read(f); back != e || why != api.OK {
		t.Fatalf("Read of %q: %v, %d; not %v", f, back, why, e)
	}
}

// Promises 22.1, 22.3 and 22.4: an era of which one part is changed, or any are.
func TestRight(t *testing.T) {
	parts := handMade()
	for _, ones := range parts {
		for _, one := range ones {
			e := gb()
			one.set(&e)
			compareRight(t, e, one.may)
		}
	}
	r := rand.New(rand.NewSource(22))
	for range 30000 {
		var e api.Era
		may := true
		for _, ones := range parts {
			one := ones[r.Intn(len(ones))]
			for tries := r.Intn(9); tries > 0 && !one.may; tries-- {
				one = ones[r.Intn(len(ones))]
			}
			one.set(&e)
			may = may && one.may
		}
		compareRight(t, e, may)
	}
	compareRight(t, api.Era{}, false)
	compareRight(t, api.Era{Format: "X"}, true)
}

// Promises 22.2 and 22.3: known eras.
func TestKnown(t *testing.T) {
	tests := []struct {
		line string
		want api.Era
		same bool
	}{
		{"0 1:00 BST 1971 Oct 31 2:00u", gb(), true},
		{"0:00 1:00 BST 1971 Oct 31 2:00u", gb(), false},
		{"-5:00 US E%sT", api.Era{Off: -18000, Kind: api.RulesNamed, Rules: "US", Format: "E%sT"}, true},
		{"1:00 - CET 1946", api.Era{Off: 3600, Format: "CET", Until: end(1946, 1, api.On{Day: 1}, 0, api.AtWall)}, true},
		{"1 - CET 1946 January", api.Era{Off: 3600, Format: "CET", Until: end(1946, 1, api.On{Day: 1}, 0, api.AtWall)}, false},
		{"1:00 - CET 1946 Jan 1", api.Era{Off: 3600, Format: "CET", Until: end(1946, 1, api.On{Day: 1}, 0, api.AtWall)}, false},
		{"1:00 - CET 1946 Jan 1 0", api.Era{Off: 3600, Format: "CET", Until: end(1946, 1, api.On{Day: 1}, 0, api.AtWall)}, false},
		{"1:00 - CET 1946 Jan 1 -w", api.Era{Off: 3600, Format: "CET", Until: end(1946, 1, api.On{Day: 1}, 0, api.AtWall)}, false},
		{"1:00 - CET 1946 Jan 1 0s", api.Era{Off: 3600, Format: "CET", Until: end(1946, 1, api.On{Day: 1}, 0, api.AtStd)}, true},
		{"1:00 - CET 1946 Jan 1 0u", api.Era{Off: 3600, Format: "CET", Until: end(1946, 1, api.On{Day: 1}, 0, api.AtUtc)}, true},
		{"1:00 - CET 1946 Jan 1 0:00:01", api.Era{Off: 3600, Format: "CET", Until: end(1946, 1, api.On{Day: 1}, 1, api.AtWall)}, true},
		{"1:00 - CET 1946 Jan 2", api.Era{Off: 3600, Format: "CET", Until: end(1946, 1, api.On{Day: 2}, 0, api.AtWall)}, true},
		{"1:00 - CET 1946 Jan lastSun", api.Era{Off: 3600, Format: "CET", Until: end(1946, 1, api.On{Kind: api.OnLast}, 0, api.AtWall)}, true},
		{"1:00 - CET 1946 Jan Sun>=1", api.Era{Off: 3600, Format: "CET", Until: end(1946, 1, api.On{Kind: api.OnFrom, Day: 1}, 0, api.AtWall)}, true},
		{"1:00 - CET 1946 Feb", api.Era{Off: 3600, Format: "CET", Until: end(1946, 2, api.On{Day: 1}, 0, api.AtWall)}, true},
		{"15:00 -3:00 %z -32766 Dec", api.Era{Off: mostOff, Kind: api.RulesFixed, Save: -mostSave, Format: "%z", Until: end(least+1, 12, api.On{Day: 1}, 0, api.AtWall)}, true},
		{"-15:00 0 a/b 32766", api.Era{Off: -mostOff, Kind: api.RulesFixed, Format: "a/b", Until: end(most-1, 1, api.On{Day: 1}, 0, api.AtWall)}, true},
		{"- -00 LMT", api.Era{Kind: api.RulesFixed, Format: "LMT"}, false},
	}
	for _, x := range tests {
		f := strings.Fields(x.line)
		if e, why := era.Read(f); e != x.want || why != api.OK {
			t.Errorf("Read of %s: %v, %d; not %v", x.line, e, why, x.want)
		}
		told, why := era.Fields(x.want)
		if why != api.OK || x.same && strings.Join(told, " ") != x.line {
			t.Errorf("Fields of %v: %q, %d; not %s", x.want, told, why, x.line)
		}
	}
}

// texts are some fields that stand side by side, and what they mean, or which error they are.
type texts struct {
	fields []string
	why    api.Errno
	set    func(e *api.Era)
}

func not(why api.Errno, fields ...string) texts {
	return texts{fields, why, nil}
}

// always are the fields that each era has, each in many ways.
func always() [][]texts {
	off := func(s string, n int64) texts { return texts{[]string{s}, api.OK, func(e *api.Era) { e.Off = n }} }
	saved := func(s string, kind int, save int64, name string) texts {
		return texts{[]string{s}, api.OK, func(e *api.Era) { e.Kind, e.Save, e.Rules = kind, save, name }}
	}
	format := func(s string) texts { return texts{[]string{s}, api.OK, func(e *api.Era) { e.Format = s }} }
	return [][]texts{
		{
			off("1:00", 3600), off("-", 0), off("0", 0), off("-0", 0), off("-5:00", -18000), off("15:00", mostOff), off("-15", -mostOff), off("0:19:32", 1172),
			not(api.ErrNumber, ""), not(api.ErrNumber, "x"), not(api.ErrNumber, "1:0"), not(api.ErrNumber, "--1"), not(api.ErrNumber, "+1"), not(api.ErrRange, "1:60"), not(api.ErrRange, "15:00:01"), not(api.ErrRange, "-15:00:01"), not(api.ErrRange, "16"), not(api.ErrRange, "999"),
		},
		{
			saved("-", api.RulesNone, 0, ""), saved("0", api.RulesFixed, 0, ""), saved("-0", api.RulesFixed, 0, ""), saved("1:00", api.RulesFixed, 3600, ""), saved("-1", api.RulesFixed, -3600, ""), saved("3:00", api.RulesFixed, mostSave, ""), saved("-003", api.RulesFixed, -mostSave, ""), saved("0:20", api.RulesFixed, 1200, ""), saved("0:09", api.RulesFixed, 540, ""),
			saved("US", api.RulesNamed, 0, "US"), saved("_", api.RulesNamed, 0, "_"), saved("a-1", api.RulesNamed, 0, "a-1"), saved(strings.Repeat("x", 64), api.RulesNamed, 0, strings.Repeat("x", 64)),
			not(api.ErrNumber, "1x"), not(api.ErrNumber, "-5x"), not(api.ErrNumber, "1:0"), not(api.ErrNumber, "0"+strings.Repeat("x", 64)), not(api.ErrNumber, "-9:"), not(api.ErrNumber, "9999"), not(api.ErrRange, "1:60"), not(api.ErrRange, "3:00:01"), not(api.ErrRange, "-3:00:01"), not(api.ErrRange, "4"), not(api.ErrRange, "9"), not(api.ErrRange, "-999"),
			not(api.ErrName, ""), not(api.ErrName, "-x"), not(api.ErrName, "--"), not(api.ErrName, "--1"), not(api.ErrName, "- 1"), not(api.ErrName, "+1"), not(api.ErrName, ":30"), not(api.ErrName, "/"), not(api.ErrName, " 1"), not(api.ErrName, "a b"), not(api.ErrName, "-:"), not(api.ErrName, "-/"), not(api.ErrLong, strings.Repeat("x", 65)), not(api.ErrLong, "-"+strings.Repeat("x", 64)), not(api.ErrLong, "--"+strings.Repeat("1", 63)),
		},
		{
			format("CET"), format("E%sT"), format("%z"), format("GMT/BST"), format(strings.Repeat("a", 16)),
			not(api.ErrForm, ""), not(api.ErrForm, "%"), not(api.ErrForm, "a b"), not(api.ErrForm, "a/b/c"), not(api.ErrLong, strings.Repeat("a", 17)), not(api.ErrLong, strings.Repeat(" ", 17)),
		},
	}
}

// endChoices are the fields of ends, which may lack from one on; the month and the day are one, if both are there.
func endChoices() [][]texts {
	year := func(s string, year int) texts {
		return texts{[]string{s}, api.OK, func(e *api.Era) { e.Until = end(year, 1, api.On{Day: 1}, 0, api.AtWall) }}
	}
	day := func(month, kind, week, day int, fields ...string) texts {
		return texts{fields, api.OK, func(e *api.Era) { e.Until.Month, e.Until.On = month, api.On{Kind: kind, Week: week, Day: day} }}
	}
	at := func(s string, sec int64, base int) texts {
		return texts{[]string{s}, api.OK, func(e *api.Era) { e.Until.At = api.At{Sec: sec, Base: base} }}
	}
	return [][]texts{
		{
			year("1946", 1946), year("0", 0), year("-5", -5), year("32766", most-1), year("-32766", least+1),
			not(api.ErrNumber, ""), not(api.ErrNumber, "x"), not(api.ErrNumber, "01946"), not(api.ErrNumber, "-0"), not(api.ErrNumber, "max"), not(api.ErrNumber, "only"), not(api.ErrNumber, "min"), not(api.ErrNumber, "-"), not(api.ErrRange, "32767"), not(api.ErrRange, "-32767"), not(api.ErrRange, "32768"), not(api.ErrRange, "-32768"), not(api.ErrRange, "4294969242"), not(api.ErrRange, "9223372036854775808"),
		},
		{
			day(3, api.OnLast, 0, 0, "Mar", "lastSun"), day(1, api.OnDay, 0, 1, "January", "1"), day(2, api.OnDay, 0, 28, "f", "28"), day(2, api.OnFrom, 1, 28, "FEB", "m>=28"), day(4, api.OnUpTo, 6, 30, "apr", "Sat<=30"), day(12, api.OnDay, 0, 31, "Dec", "31"),
			not(api.ErrWord, "", "1"), not(api.ErrWord, "x", "x"), not(api.ErrWord, "1", "1"), not(api.ErrWord, "Ju", "32"), not(api.ErrForm, "Mar", ""), not(api.ErrForm, "Mar", "Sun"), not(api.ErrForm, "Mar", "Sun=1"), not(api.ErrWord, "Mar", "lastS"), not(api.ErrNumber, "Mar", "01"), not(api.ErrNumber, "Mar", "Sun>="),
			not(api.ErrRange, "Mar", "32"), not(api.ErrRange, "Feb", "29"), not(api.ErrRange, "Feb", "30"), not(api.ErrRange, "Feb", "Sun>=29"), not(api.ErrRange, "Feb", "Sun<=29"), not(api.ErrRange, "Sep", "31"),
		},
		{
			at("2:00u", 7200, api.AtUtc), at("0", 0, api.AtWall), at("-", 0, api.AtWall), at("0s", 0, api.AtStd), at("48W", mostAt, api.AtWall), at("1:00:01g", 3601, api.AtUtc),
			not(api.ErrNumber, ""), not(api.ErrNumber, "x"), not(api.ErrNumber, "1:0"), not(api.ErrRange, "-1"), not(api.ErrRange, "48:00:01"), not(api.ErrRange, "1:60"),
		},
	}
}

// months stand where the day lacks.
func months() []texts {
	month := func(s string, month int) texts {
		return texts{[]string{s}, api.OK, func(e *api.Era) { e.Until.Month = month }}
	}
	return []texts{month("Jan", 1), month("February", 2), month("D", 12), not(api.ErrWord, ""), not(api.ErrWord, "J"), not(api.ErrWord, "1"), not(api.ErrWord, "-")}
}

// forms are the choices of the fields of eras with an end that is told by none, one, two, three or four of them.
func forms() [][][]texts {
	all := endChoices()
	withEnd := func(more ...[]texts) [][]texts { return append(always(), more...) }
	return [][][]texts{always(), withEnd(all[0]), withEnd(all[0], months()), withEnd(all[0], all[1]), withEnd(all...)}
}

// compareRead asks Read of some fields, of which all that are ahead of the first wrong one are right.
func compareRead(t *testing.T, some []texts) {
	t.Helper()
	var f []string
	want, whyWant := api.Era{}, api.OK
	for _, x := range some {
		f = append(f, x.fields...)
		switch {
		case whyWant != api.OK:
		case x.why != api.OK:
			want, whyWant = api.Era{}, x.why
		default:
			x.set(&want)
		}
	}
	given := slices.Clone(f)
	if e, why := era.Read(f); e != want || why != whyWant {
		t.Fatalf("Read of %q: %v, %d; not %v, %d", f, e, why, want, whyWant)
	}
	if !slices.Equal(f, given) {
		t.Fatalf("Read changes %q to %q", given, f)
	}
	if whyWant == api.OK && !era.Right(want) {
		t.Fatalf("%v is read, but not right", want)
	}
}

// Promises 22.2 and 22.4: each way of each field among right ones; then of two that are wrong, the first is told; then any, together.
func TestRead(t *testing.T) {
	r := rand.New(rand.NewSource(22))
	for _, all := range forms() {
		some := make([]texts, len(all))
		for i := range all {
			some[i] = all[i][0]
		}
		for i := range all {
			for _, one := range all[i] {
				mixed := slices.Clone(some)
				mixed[i] = one
				compareRead(t, mixed)
				for j := i + 1; j < len(all); j++ {
					for _, other := range all[j] {
						mixed[j] = other
						compareRead(t, mixed)
					}
					mixed[j] = some[j]
				}
			}
		}
		for range 30000 {
			for i := range all {
				some[i] = all[i][r.Intn(len(all[i]))]
			}
			compareRead(t, some)
		}
	}
}

// The forms by which it is told apart how something is saved.
var (
	none     = regexp.MustCompile(`^-$`)
	byAmount = regexp.MustCompile(`^-?[0-9]`)
	byName   = regexp.MustCompile(`^[A-Za-z_][A-Za-z0-9_+/.-]*$`)
)

// Promise 22.2: what is saved is told apart by how it begins: each byte, alone, ahead of some others, and behind one - or two.
func TestRulesBegin(t *testing.T) {
	for b := range 256 {
		begin := string([]byte{byte(b)})
		for _, rules := range []string{begin, begin + "1", begin + ":00", begin + "1:00", begin + "a", "-" + begin, "-" + begin + ":00", "-" + begin + "a", "--" + begin, "--" + begin + "1", " " + begin} {
			e, why := era.Read([]string{"0", rules, "X"})
			is := false
			switch {
			case none.MatchString(rules):
				is = why == api.OK && e.Kind == api.RulesNone
			case byAmount.MatchString(rules):
				is = why == api.OK && e.Kind == api.RulesFixed || why == api.ErrNumber || why == api.ErrRange
			case byName.MatchString(rules):
				is = why == api.OK && e.Kind == api.RulesNamed && e.Rules == rules
			default:
				is = why == api.ErrName
			}
			if !is {
				t.Errorf("Read of the rules %q: %v, %d", rules, e, why)
			}
		}
	}
	for digit := range 10 {
		e, why := era.Read([]string{"0", fmt.Sprint("-0:0", digit), "X"})
		if want := (api.Era{Kind: api.RulesFixed, Save: int64(-60 * digit), Format: "X"}); e != want || why != api.OK {
			t.Errorf("Read of %d minutes: %v, %d", digit, e, why)
		}
		if _, why := era.Read([]string{"0", fmt.Sprint(digit, "x"), "X"}); why != api.ErrNumber {
			t.Errorf("Read of the rules %dx: %d", digit, why)
		}
	}
}

// Promise 22.2: how many fields there are is told ahead of what is wrong with them.
func TestReadCount(t *testing.T) {
	for _, fields := range [][]string{gbFields(), slices.Repeat([]string{"x"}, 7)} {
		for n := range 40 {
			f := slices.Repeat(fields, 6)[:n]
			want := api.OK
			switch {
			case n < 3:
				want = api.ErrShort
			case n > 7:
				want = api.ErrMore
			case fields[0] == "x":
				want = api.ErrNumber
			}
			if e, why := era.Read(f); why != want || why != api.OK && e != (api.Era{}) {
				t.Errorf("Read of %d fields: %v, %d; not %d", n, e, why, want)
			}
		}
	}
	if e, why := era.Read(nil); e != (api.Era{}) || why != api.ErrShort {
		t.Errorf("Read of nil: %v, %d", e, why)
	}
}

// Promise 22.3: an answer is new memory.
func TestNewMemory(t *testing.T) {
	a, _ := era.Fields(gb())
	b, _ := era.Fields(gb())
	clear(a)
	if !slices.Equal(b, gbFields()) {
		t.Errorf("%q is changed by another answer", b)
	}
}
