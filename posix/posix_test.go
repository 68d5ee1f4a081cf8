package posix_test

import (
	"fmt"
	"math"
	"math/rand"
	"regexp"
	"strconv"
	"strings"
	"testing"
	"time"

	"noontide/apart"
	"noontide/api"
	"noontide/posix"
	"noontide/rule"
)

const (
	hour    = 3600
	maxOff  = 54000
	maxSave = 10800
	maxAt   = 172800
)

var (
	march    = api.PosixDay{Month: 3, Week: 2, Day: 0, Sec: 7200}
	november = api.PosixDay{Month: 11, Week: 1, Day: 0, Sec: 7200}
)

// coast is what holds for good in a place.
func coast() api.Posix {
	return api.Posix{Std: "EST", Off: -5 * hour, Dst: "EDT", Save: hour, From: march, To: november}
}

// dayMay tells whether a day may be, by the words.
func dayMay(d api.PosixDay) bool {
	return 1 <= d.Month && d.Month <= 12 && 1 <= d.Week && d.Week <= 5 && 0 <= d.Day && d.Day <= 6 && 0 <= d.Sec && d.Sec <= maxAt
}

// on is the name of a day that may be, by the words.
func on(d api.PosixDay) api.On {
	if d.Week == 5 {
		return api.On{Kind: api.OnLast, Week: d.Day}
	}
	return api.On{Kind: api.OnFrom, Week: d.Day, Day: [...]int{1: 1, 2: 8, 3: 15, 4: 22}[d.Week]}
}

// ruleOf is the rule of a day that may be, by the words.
func ruleOf(d api.PosixDay, save int64) api.Rule {
	return api.Rule{Name: "P", From: -32767, To: 32767, Month: d.Month, On: on(d), At: api.At{Sec: d.Sec}, Save: save}
}

var nameForm = regexp.MustCompile(`^[A-Za-z0-9+-]{3,6}$`)

// may is Right by the words.
func may(p api.Posix) bool {
	switch {
	case !nameForm.MatchString(p.Std) || p.Off < -maxOff || p.Off > maxOff:
		return false
	case p.Dst == "":
		return p.Save == 0 && p.From == (api.PosixDay{}) && p.To == (api.PosixDay{})
	case !nameForm.MatchString(p.Dst) || p.Save < -maxSave || p.Save > maxSave || p.Save == 0 || !dayMay(p.From) || !dayMay(p.To):
		return false
	}
	return apart.Pair(ruleOf(p.From, p.Save), ruleOf(p.To, 0)) != api.ErrClose
}

var lettersForm = regexp.MustCompile(`^[A-Za-z]*$`)

// nameText is how a name is written, by the words.
func nameText(s string) string {
	if lettersForm.MatchString(s) {
		return s
	}
	return "<" + s + ">"
}

// clockText is a clock's number, by the words.
func clockText(n int64) string {
	sign := ""
	if n < 0 {
		sign, n = "-", -n
	}
	switch {
	case n%60 != 0:
		return fmt.Sprintf("%s%d:%02d:%02d", sign, n/3600, n/60%60, n%60)
	case n/60%60 != 0:
		return fmt.Sprintf("%s%d:%02d", sign, n/3600, n/60%60)
	}
	return fmt.Sprintf("%s%d", sign, n/3600)
}

// dayText is how a day is written, by the words.
func dayText(d api.PosixDay) string {
	text := fmt.Sprintf("M%d.%d.%d", d.Month, d.Week, d.Day)
	if d.Sec != 7200 {
		text += "/" + clockText(d.Sec)
	}
	return text
}

// text is Text by the words, of what may be.
func text(p api.Posix) string {
	s := nameText(p.Std) + clockText(-p.Off)
	if p.Dst == "" {
		return s
	}
	s += nameText(p.Dst)
	if p.Save != hour {
		s += clockText(-(p.Off + p.Save))
	}
	return s + "," + dayText(p.From) + "," + dayText(p.To)
}

const (
	namePattern  = `([A-Za-z]{3,6}|<[A-Za-z0-9+-]{3,6}>)`
	clockPattern = `(-?\d{1,2}(?::\d\d){0,2})`
	dayPattern   = `M(\d\d?)\.(\d)\.(\d)(?:/` + clockPattern + `)?`
)

var textForm = regexp.MustCompile(`^` + namePattern + clockPattern + `(?:` + namePattern + clockPattern + `?,` + dayPattern + `,` + dayPattern + `)?$`)

// seconds is what a clock's number tells; is: it is one.
func seconds(s string) (n int64, is bool) {
	for at, part := range strings.Split(strings.TrimPrefix(s, "-"), ":") {
		k, _ := strconv.Atoi(part)
		n += int64(k) * [...]int64{3600, 60, 1}[at]
	}
	if strings.HasPrefix(s, "-") {
		n = -n
	}
	return n, clockText(n) == s
}

// readDay is the day that four pieces of a text tell; is: they are written so.
func readDay(f []string) (d api.PosixDay, is bool) {
	d.Month, _ = strconv.Atoi(f[0])
	d.Week, _ = strconv.Atoi(f[1])
	d.Day, _ = strconv.Atoi(f[2])
	d.Sec, is = 7200, true
	if f[3] != "" {
		d.Sec, is = seconds(f[3])
		is = is && d.Sec != 7200
	}
	return d, is && f[0][0] != '0'
}

// read is Read by a pattern, which knows no Text.
func read(s string) (api.Posix, api.Errno) {
	f := textForm.FindStringSubmatch(s)
	if f == nil || lettersForm.MatchString(strings.Trim(f[1], "<>")) && f[1][0] == '<' {
		return api.Posix{}, api.ErrForm
	}
	std, isStd := seconds(f[2])
	p := api.Posix{Std: strings.Trim(f[1], "<>"), Off: -std}
	is := isStd
	if f[3] != "" {
		p.Dst, p.Save = strings.Trim(f[3], "<>"), hour
		is = is && !(lettersForm.MatchString(p.Dst) && f[3][0] == '<')
		if f[4] != "" {
			dst, isDst := seconds(f[4])
			p.Save = -dst - p.Off
			is = is && isDst && p.Save != hour
		}
		var isFrom, isTo bool
		p.From, isFrom = readDay(f[5:9])
		p.To, isTo = readDay(f[9:13])
		is = is && isFrom && isTo
	}
	if !is || !may(p) {
		return api.Posix{}, api.ErrForm
	}
	return p, api.OK
}

func one[T any](random *rand.Rand, l ...T) T {
	return l[random.Intn(len(l))]
}

func anyName(random *rand.Rand) string {
	const letters, all = "AZazMP", "AZazMP09+-"
	from := one(random, letters, all)
	name := make([]byte, 3+random.Intn(4))
	for i := range name {
		name[i] = from[random.Intn(len(from))]
	}
	return string(name)
}

func anyDay(random *rand.Rand) api.PosixDay {
	return api.PosixDay{Month: 1 + random.Intn(12), Week: 1 + random.Intn(5), Day: random.Intn(7), Sec: one(random, 0, 7200, 7200, maxAt, random.Int63n(49)*hour, random.Int63n(maxAt+1))}
}

// anyPosix may be, or is too close.
func anyPosix(random *rand.Rand) api.Posix {
	p := api.Posix{Std: anyName(random), Off: one(random, 0, maxOff, -maxOff, hour*(random.Int63n(31)-15), random.Int63n(2*maxOff+1)-maxOff)}
	if random.Intn(5) > 0 {
		p.Dst, p.From, p.To = anyName(random), anyDay(random), anyDay(random)
		p.Save = one(random, hour, hour, -hour, 1, -1, maxSave, -maxSave, 1+random.Int63n(maxSave))
	}
	return p
}

// rightPosix may be.
func rightPosix(random *rand.Rand) api.Posix {
	for {
		if p := anyPosix(random); may(p) {
			return p
		}
	}
}

// compare holds what the package tells of p against the words.
func compare(t *testing.T, p api.Posix) {
	t.Helper()
	wantText, want := "", api.ErrForm
	if may(p) {
		wantText, want = text(p), api.OK
	}
	if is := posix.Right(p); is != (want == api.OK) {
		t.Fatalf("%+v may be: %v", p, is)
	}
	s, why := posix.Text(p)
	if s != wantText || why != want {
		t.Fatalf("%+v is written %q, %d; not %q, %d", p, s, why, wantText, want)
	}
	if want != api.OK {
		return
	}
	if again, why := posix.Read(s); again != p || why != api.OK {
		t.Fatalf("%q is read as %+v, %d; not %+v", s, again, why, p)
	}
}

// compareRead holds what is read of a text against the pattern.
func compareRead(t *testing.T, s string) api.Errno {
	t.Helper()
	p, why := posix.Read(s)
	wantP, want := read(s)
	if p != wantP || why != want {
		t.Fatalf("%q is read as %+v, %d; not %+v, %d", s, p, why, wantP, want)
	}
	if why != api.OK {
		return why
	}
	if again, why := posix.Text(p); again != s || why != api.OK {
		t.Fatalf("%q is written as %q, %d", s, again, why)
	}
	return api.OK
}

// Promises 49.1 and 49.3: known ones.
func TestKnown(t *testing.T) {
	october, lastMarch := api.PosixDay{Month: 10, Week: 5, Sec: 7200}, api.PosixDay{Month: 3, Week: 5, Sec: 3600}
	tests := []struct {
		text string
		p    api.Posix
	}{
		{"EST5EDT,M3.2.0,M11.1.0", coast()},
		{"<-03>3", api.Posix{Std: "-03", Off: -3 * hour}},
		{"IST-1GMT0,M10.5.0,M3.5.0/1", api.Posix{Std: "IST", Off: hour, Dst: "GMT", Save: -hour, From: october, To: lastMarch}},
		{"UTC0", api.Posix{Std: "UTC"}},
		{"<+0530>-5:30", api.Posix{Std: "+0530", Off: 19800}},
		{"<-00>0", api.Posix{Std: "-00"}},
		{"LMT-0:19:32", api.Posix{Std: "LMT", Off: 1172}},
		{"abcdef0:00:01", api.Posix{Std: "abcdef", Off: -1}},
		{"AEST-10AEDT,M10.1.0,M4.1.0/3", api.Posix{Std: "AEST", Off: 10 * hour, Dst: "AEDT", Save: hour, From: api.PosixDay{Month: 10, Week: 1, Sec: 7200}, To: api.PosixDay{Month: 4, Week: 1, Sec: 3 * hour}}},
		{"<+1030>-10:30<+11>-11,M10.1.0,M4.1.0", api.Posix{Std: "+1030", Off: 37800, Dst: "+11", Save: 1800, From: api.PosixDay{Month: 10, Week: 1, Sec: 7200}, To: api.PosixDay{Month: 4, Week: 1, Sec: 7200}}},
		{"IST-2IDT,M3.4.4/26,M10.5.0", api.Posix{Std: "IST", Off: 2 * hour, Dst: "IDT", Save: hour, From: api.PosixDay{Month: 3, Week: 4, Day: 4, Sec: 26 * hour}, To: api.PosixDay{Month: 10, Week: 5, Sec: 7200}}},
		{"<-02>2<-01>,M3.5.0/0,M10.5.6/48", api.Posix{Std: "-02", Off: -2 * hour, Dst: "-01", Save: hour, From: api.PosixDay{Month: 3, Week: 5}, To: api.PosixDay{Month: 10, Week: 5, Day: 6, Sec: maxAt}}},
		{"AAA15BBB18,M1.1.1/0:30,M7.4.6/0:00:59", api.Posix{Std: "AAA", Off: -maxOff, Dst: "BBB", Save: -maxSave, From: api.PosixDay{Month: 1, Week: 1, Day: 1, Sec: 1800}, To: api.PosixDay{Month: 7, Week: 4, Day: 6, Sec: 59}}},
		{"MMM-15MMM-18,M12.4.0,M2.5.0", api.Posix{Std: "MMM", Off: maxOff, Dst: "MMM", Save: maxSave, From: api.PosixDay{Month: 12, Week: 4, Sec: 7200}, To: api.PosixDay{Month: 2, Week: 5, Sec: 7200}}},
		{"XXX0:30YYY0,M1.1.0,M6.1.0", api.Posix{Std: "XXX", Off: -1800, Dst: "YYY", Save: 1800, From: api.PosixDay{Month: 1, Week: 1, Sec: 7200}, To: api.PosixDay{Month: 6, Week: 1, Sec: 7200}}},
		{"XXX0YYY-0:00:01,M1.1.0,M6.1.0", api.Posix{Std: "XXX", Dst: "YYY", Save: 1, From: api.PosixDay{Month: 1, Week: 1, Sec: 7200}, To: api.PosixDay{Month: 6, Week: 1, Sec: 7200}}},
	}
	for _, test := range tests {
		if p, why := posix.Read(test.text); p != test.p || why != api.OK {
			t.Errorf("%q is read as %+v, %d", test.text, p, why)
		}
		if s, why := posix.Text(test.p); s != test.text || why != api.OK {
			t.Errorf("%+v is written %q, %d", test.p, s, why)
		}
		if !posix.Right(test.p) {
			t.Errorf("%+v may not be", test.p)
		}
		compareRead(t, test.text)
	}
}

// Promise 49.1: texts of nothing.
func TestNoText(t *testing.T) {
	tests := []string{
		"", "EST", "5", "EST05", "EST5EDT", "EST5EDT,", "EST5EDT,M3.2.0", "EST5EDT,M3.2.0,", "EST5EDT,M3.2.0,M3.2.0", "EST5EDT,M3.2.0,M11.1.0,", "EST5EDT,M3.2.0,M11.1.0 ",
		" EST5", "EST5 ", "EST 5", "EST+5", "EST--5", "EST-", "EST-0", "EST00", "EST5:00", "EST5:00:00", "EST5:30:00", "EST5:3", "EST5:60", "EST5:30:60", "EST5:", "EST:30", "EST5:30:5", "EST5:00:30:00",
		"EST15:00:01", "EST16", "EST-15:00:01", "EST-16", "EST100", "EST168", "EST99999999999999999999", "ES5", "ESTESTE5", "E-T5", "E5T5", "<EST>5", "<-0>3", "<-030303>3", "<>5", "<-03", "-03>3", "<-03>", "<<-03>3", "<-03>>3", "<-_3>3", "<-0\xff>3", "Eé5", "\xff\xfe\xfd5",
		"EST5EDT4,M3.2.0,M11.1.0", "EST5EDT5,M3.2.0,M11.1.0", "EST5EDT1:59:59,M3.2.0,M11.1.0", "EST5EDT8:00:01,M3.2.0,M11.1.0", "EST5EDT4:0,M3.2.0,M11.1.0", "EST5EDT03,M3.2.0,M11.1.0", "EST5<EDT>,M3.2.0,M11.1.0", "EST5ED,M3.2.0,M11.1.0", "EST5EDTEDTE,M3.2.0,M11.1.0", "EST5<EDT,M3.2.0,M11.1.0",
		"EST5EDT,M3.2.0/2,M11.1.0", "EST5EDT,M3.2.0,M11.1.0/2", "EST5EDT,M3.2.0/2:00,M11.1.0", "EST5EDT,M3.2.0/02,M11.1.0", "EST5EDT,M3.2.0/-1,M11.1.0", "EST5EDT,M3.2.0/48:00:01,M11.1.0", "EST5EDT,M3.2.0/,M11.1.0", "EST5EDT,M3.2.0/1:00,M11.1.0", "EST5EDT,M3.2.0/-0,M11.1.0", "EST5EDT,M3.2.0/-,M11.1.0",
		"EST5EDT,M0.2.0,M11.1.0", "EST5EDT,M13.2.0,M11.1.0", "EST5EDT,M03.2.0,M11.1.0", "EST5EDT,M3.0.0,M11.1.0", "EST5EDT,M3.6.0,M11.1.0", "EST5EDT,M3.2.7,M11.1.0", "EST5EDT,M3.02.0,M11.1.0", "EST5EDT,M3.2.00,M11.1.0", "EST5EDT,M-3.2.0,M11.1.0", "EST5EDT,M.2.0,M11.1.0", "EST5EDT,M3..0,M11.1.0", "EST5EDT,M3.2.,M11.1.0", "EST5EDT,M3.2,M11.1.0",
		"EST5EDT,m3.2.0,M11.1.0", "EST5EDT,M3.2.0M11.1.0", "EST5EDT,M3,2,0,M11,1,0", "EST5EDT,J60,J300", "EST5EDT,60,300", "EST5EDT;M3.2.0;M11.1.0", "EST5EDT, M3.2.0, M11.1.0", ":EST5",
		"EST5EDT,M3.2.0,M3.1.0", "EST5EDT,M12.5.0,M1.1.0", "EST5EDT,M1.1.0,M12.5.0", "EST5EDT,M4294967299.2.0,M11.1.0", "EST5EDT,M18446744073709551619.2.0,M11.1.0", "EST5EDT,M3.2.99999999999999999999,M11.1.0",
		"EST5\x00", "EST5\n", "EST5,M3.2.0,M11.1.0", "EST5-4,M3.2.0,M11.1.0",
	}
	for _, s := range tests {
		if p, why := posix.Read(s); p != (api.Posix{}) || why != api.ErrForm {
			t.Errorf("%q is read as %+v, %d", s, p, why)
		}
		compareRead(t, s)
	}
}

// Promises 49.1 and 49.3: all offsets, all that may be saved, and all seconds of days, and some beyond.
func TestAllClocks(t *testing.T) {
	for off := int64(-maxOff - 5); off <= maxOff+5; off++ {
		compare(t, api.Posix{Std: "ABC", Off: off})
	}
	for _, off := range []int64{-maxOff, -1, 0, 1800, maxOff} {
		for save := int64(-maxSave - 5); save <= maxSave+5; save++ {
			p := coast()
			p.Off, p.Save = off, save
			compare(t, p)
		}
	}
	for sec := int64(-5); sec <= maxAt+5; sec++ {
		p := coast()
		p.From.Sec = sec
		compare(t, p)
		p.From, p.To = p.To, p.From
		compare(t, p)
	}
}

// Promises 49.1 and 49.3: all days of one kind beside some others, those that are too close and those that may not be among them.
func TestAllDays(t *testing.T) {
	near := map[bool]int{}
	for month := -1; month <= 14; month++ {
		for week := -1; week <= 7; week++ {
			for day := -1; day <= 8; day++ {
				for _, other := range []api.PosixDay{march, november, {Month: 1, Week: 1}, {Month: 12, Week: 5, Day: 6, Sec: maxAt}, {Month: 2, Week: 4, Day: 3, Sec: 7200}, {}} {
					for _, sec := range []int64{0, 7200, maxAt} {
						p := coast()
						p.From, p.To = api.PosixDay{Month: month, Week: week, Day: day, Sec: sec}, other
						compare(t, p)
						if dayMay(p.From) && dayMay(p.To) {
							near[may(p)]++
						}
						p.From, p.To = p.To, p.From
						compare(t, p)
					}
				}
			}
		}
	}
	if near[true] < 100 || near[false] < 100 {
		t.Errorf("may and are too close: %v", near)
	}
}

// Promise 49.1: how far days are from each other is told to the second, within a year, and from one to the next.
func TestClose(t *testing.T) {
	tests := []struct {
		from, to api.PosixDay
		is       bool
	}{
		// The first week ends with the 7th, the second one begins with the 8th, the third one with the 15th.
		{api.PosixDay{Month: 5, Week: 1}, api.PosixDay{Month: 5, Week: 2, Sec: maxAt}, false},
		{api.PosixDay{Month: 5, Week: 1, Sec: maxAt}, api.PosixDay{Month: 5, Week: 3}, true},
		{api.PosixDay{Month: 5, Week: 2, Sec: maxAt}, api.PosixDay{Month: 5, Week: 4}, true},
		// The fourth week ends with the 28th, May's last one may begin with the 25th.
		{api.PosixDay{Month: 5, Week: 4}, api.PosixDay{Month: 5, Week: 5, Sec: maxAt}, false},
		// From April 28 it is three days to May 1: so a day more is enough.
		{api.PosixDay{Month: 4, Week: 4}, api.PosixDay{Month: 5, Week: 1}, false},
		{api.PosixDay{Month: 4, Week: 4}, api.PosixDay{Month: 5, Week: 1, Sec: 86400 - 1}, false},
		{api.PosixDay{Month: 4, Week: 4}, api.PosixDay{Month: 5, Week: 1, Sec: 86400}, true},
		{api.PosixDay{Month: 4, Week: 4, Sec: 1}, api.PosixDay{Month: 5, Week: 1, Sec: 86400}, false},
		{api.PosixDay{Month: 4, Week: 4, Sec: 86400}, api.PosixDay{Month: 5, Week: 1, Sec: maxAt}, true},
		// From December 28 it is four days to January 1.
		{api.PosixDay{Month: 12, Week: 4}, api.PosixDay{Month: 1, Week: 1}, true},
		{api.PosixDay{Month: 12, Week: 4, Sec: 86400}, api.PosixDay{Month: 1, Week: 1, Sec: 86400}, true},
		{api.PosixDay{Month: 12, Week: 4, Sec: 86400 + 1}, api.PosixDay{Month: 1, Week: 1, Sec: 86400}, false},
		{api.PosixDay{Month: 12, Week: 5}, api.PosixDay{Month: 1, Week: 1, Sec: maxAt}, false},
		{api.PosixDay{Month: 12, Week: 5}, api.PosixDay{Month: 1, Week: 2}, true},
	}
	for _, test := range tests {
		p := coast()
		p.From, p.To = test.from, test.to
		if is := posix.Right(p); is != test.is {
			t.Errorf("%+v may be: %v", p, is)
		}
		p.From, p.To = p.To, p.From
		if is := posix.Right(p); is != test.is {
			t.Errorf("%+v may be: %v", p, is)
		}
	}
}

// Promise 49.1: names, by how many bytes they have, and each byte at each place.
func TestNames(t *testing.T) {
	for many := range 10 {
		for _, c := range []string{"A", "z", "0", "+", "-"} {
			p := coast()
			p.Std = strings.Repeat(c, many)
			compare(t, p)
			compare(t, api.Posix{Std: p.Std})
			p.Std, p.Dst = "EST", p.Std
			compare(t, p)
			p.Save, p.From, p.To = 0, api.PosixDay{}, api.PosixDay{}
			compare(t, p)
		}
	}
	for c := range 256 {
		for place := range 4 {
			name := []byte("ABCD")
			name[place] = byte(c)
			p := coast()
			p.Std = string(name)
			compare(t, p)
			p.Std, p.Dst = "EST", p.Std
			compare(t, p)
		}
	}
	for _, name := range []string{"é", "éa", "éé", "ééé", "AB\u00e9", "ＡＢＣ", "A\u0661B"} {
		compare(t, api.Posix{Std: name})
	}
}

// Promise 49.1: where nothing is saved all else is zero.
func TestNothingSaved(t *testing.T) {
	bare := api.Posix{Std: "EST", Off: -5 * hour}
	compare(t, bare)
	for _, change := range []func(p *api.Posix){
		func(p *api.Posix) { p.Save = hour },
		func(p *api.Posix) { p.Save = -1 },
		func(p *api.Posix) { p.From = march },
		func(p *api.Posix) { p.To = november },
		func(p *api.Posix) { p.From.Month = 1 },
		func(p *api.Posix) { p.From.Week = 1 },
		func(p *api.Posix) { p.From.Day = 1 },
		func(p *api.Posix) { p.From.Sec = 1 },
		func(p *api.Posix) { p.To.Sec = 7200 },
		func(p *api.Posix) { *p = coast(); p.Dst = "" },
		func(p *api.Posix) { p.Dst = "EDT" },
		func(p *api.Posix) { *p = api.Posix{} },
	} {
		p := bare
		change(&p)
		compare(t, p)
		if posix.Right(p) {
			t.Errorf("%+v may be", p)
		}
	}
}

// Promise 49.1: far numbers.
func TestFar(t *testing.T) {
	for _, n := range []int64{math.MinInt64, math.MinInt64 + 1, math.MinInt32, -1 << 40, 1 << 40, math.MaxInt32, math.MaxInt64 - 1, math.MaxInt64} {
		for _, change := range []func(p *api.Posix){
			func(p *api.Posix) { p.Off = n },
			func(p *api.Posix) { p.Save = n },
			func(p *api.Posix) { p.Off, p.Save = n, n },
			func(p *api.Posix) { p.Off, p.Save = n, -n },
			func(p *api.Posix) { p.From.Month = int(n) },
			func(p *api.Posix) { p.From.Week = int(n) },
			func(p *api.Posix) { p.From.Day = int(n) },
			func(p *api.Posix) { p.From.Sec = n },
			func(p *api.Posix) { p.To.Month = int(n) },
			func(p *api.Posix) { p.To.Sec = n },
		} {
			p := coast()
			change(&p)
			compare(t, p)
			if posix.Right(p) {
				t.Errorf("%+v may be", p)
			}
		}
	}
}

// Promises 49.1 and 49.3: any ones, and texts that are like theirs.
func TestAny(t *testing.T) {
	random := rand.New(rand.NewSource(49))
	for range 100000 {
		compare(t, anyPosix(random))
	}
	const bytes = "0123456789AZaz<>+-:,./M mJ\x00\xff"
	read := map[api.Errno]int{}
	for range 200000 {
		s := text(rightPosix(random))
		for range 1 + random.Intn(2) {
			from := random.Intn(len(s) + 1)
			to := min(len(s), from+random.Intn(3))
			more := ""
			for range random.Intn(3) {
				more += string(bytes[random.Intn(len(bytes))])
			}
			s = s[:from] + more + s[to:]
		}
		read[compareRead(t, s)]++
	}
	if read[api.OK] < 5000 || read[api.ErrForm] < 5000 {
		t.Errorf("read: %v", read)
	}
}

// Promise 49.1: short texts of any bytes that mean something.
func TestAnyBytes(t *testing.T) {
	random := rand.New(rand.NewSource(491))
	pieces := []string{"ABC", "<-03>", "<ABC>", "0", "1", "5", "-", ":00", ":30", ":05", ",", "M", "3", "10", ".", "/", "M3.2.0", "M11.1.0", ",M3.5.6/26", "é"}
	for range 200000 {
		s := ""
		for range random.Intn(9) {
			s += one(random, pieces...)
		}
		compareRead(t, s)
	}
}

// Promise 49.1: long texts.
func TestLong(t *testing.T) {
	start := time.Now()
	const many = 1 << 22
	for _, piece := range []string{"A", "<", "<A", "EST5", "5", ":00", "-", "0", ",M3.2.0", "M", ".", "/", ">", "\xff"} {
		for _, ahead := range []string{"", "EST", "<", "EST5EDT,M3.2.0,M11.1.0", "EST5EDT,M", "EST5EDT,M3.2.0/", "EST5EDT"} {
			s := ahead + strings.Repeat(piece, many/len(piece))
			if p, why := posix.Read(s); p != (api.Posix{}) || why != api.ErrForm {
				t.Errorf("%q and many of %q are read: %v, %d", ahead, piece, p, why)
			}
			if posix.Right(api.Posix{Std: s}) {
				t.Errorf("many of %q are a name", piece)
			}
		}
	}
	if took := time.Since(start); took > time.Minute {
		t.Errorf("it took %v", took)
	}
}

// Promise 49.2: all days that may be, and those around.
func TestWeek(t *testing.T) {
	known := []struct {
		d    api.PosixDay
		want api.On
	}{
		{api.PosixDay{Month: 3, Week: 2, Sec: 7200}, api.On{Kind: api.OnFrom, Day: 8}},
		{api.PosixDay{Month: 2, Week: 4, Day: 6}, api.On{Kind: api.OnFrom, Week: 6, Day: 22}},
		{api.PosixDay{Month: 2, Week: 5, Day: 3, Sec: maxAt}, api.On{Kind: api.OnLast, Week: 3}},
		{api.PosixDay{Month: 12, Week: 1, Day: 1}, api.On{Kind: api.OnFrom, Week: 1, Day: 1}},
		{api.PosixDay{Month: 1, Week: 3, Day: 2}, api.On{Kind: api.OnFrom, Week: 2, Day: 15}},
	}
	for _, test := range known {
		if o, why := posix.Week(test.d); o != test.want || why != api.OK {
			t.Errorf("%+v: %+v, %d", test.d, o, why)
		}
	}
	weeks := []int{math.MinInt, -1, 0, 1, 2, 3, 4, 5, 6, math.MaxInt}
	for month := -1; month <= 14; month++ {
		for _, week := range weeks {
			for day := -1; day <= 8; day++ {
				for _, sec := range []int64{math.MinInt64, -1, 0, 7200, maxAt, maxAt + 1, math.MaxInt64} {
					compareWeek(t, api.PosixDay{Month: month, Week: week, Day: day, Sec: sec})
				}
			}
		}
	}
	for _, n := range []int{math.MinInt, math.MaxInt} {
		compareWeek(t, api.PosixDay{Month: n, Week: 1})
		compareWeek(t, api.PosixDay{Month: 1, Week: 1, Day: n})
	}
}

func compareWeek(t *testing.T, d api.PosixDay) {
	t.Helper()
	want, whyNot, wantRule := api.On{}, api.ErrForm, api.Rule{}
	if dayMay(d) {
		want, whyNot, wantRule = on(d), api.OK, ruleOf(d, hour)
	}
	if o, why := posix.Week(d); o != want || why != whyNot {
		t.Fatalf("%+v: %+v, %d; not %+v, %d", d, o, why, want, whyNot)
	}
	r, why := posix.Rule(d, hour)
	if r != wantRule || why != whyNot || rule.Right(r) != dayMay(d) {
		t.Fatalf("the rule of %+v: %+v, %d; not %+v, %d", d, r, why, wantRule, whyNot)
	}
}
