package query_test

import (
	"math"
	"math/rand"
	"regexp"
	"strconv"
	"strings"
	"testing"
	"time"

	"noontide/api"
	"noontide/fields"
	"noontide/lines"
	"noontide/query"
)

// said is a question, or why there is none.
type said struct {
	q   api.Query
	why api.Errno
}

func no(why api.Errno) said {
	return said{why: why}
}

// shapes tells of each kind what stands in its line, in order: z a zone, t a second, y and Y years, n a number, u a unit, p a policy.
func shapes() []string {
	return []string{"", "zt", "zt", "ztp", "zt", "ztnup", "", "zyY"}
}

func kinds() []string { return []string{"sys", "local", "to", "at", "add", "names", "count"} }

func units() []string { return []string{"years", "months", "days", "secs"} }

func policies() []string { return []string{"early", "late", "reject"} }

// word is which one of l a word means, from 1 on; 0, if none.
func word(s string, l []string) int {
	found := 0
	for i, w := range l {
		switch {
		case strings.EqualFold(s, w):
			return i + 1
		case s == "" || len(s) > len(w) || !strings.EqualFold(s, w[:len(s)]):
		case found > 0:
			return 0
		default:
			found = i + 1
		}
	}
	return found
}

// number is what a text is read as, by its pattern.
func number(s string) (int64, api.Errno) {
	if !regexp.MustCompile(`^(0|-?[1-9][0-9]*)$`).MatchString(s) {
		return 0, api.ErrNumber
	}
	n, err := strconv.ParseInt(s, 10, 64)
	if err != nil {
		return 0, api.ErrRange
	}
	return n, api.OK
}

// second is what a text is read as, if its last byte but eight is T, by its pattern and Go's calendar.
func second(s string) (int64, api.Errno) {
	if len(s) < 9 || s[len(s)-9] != 'T' {
		return number(s)
	}
	m := regexp.MustCompile(`^(-?(?:[0-9]{4}|[1-9][0-9]{4,}))-([0-9]{2})-([0-9]{2})T([0-9]{2}):([0-9]{2}):([0-9]{2})$`).FindStringSubmatch(s)
	if m == nil || m[1] == "-0000" {
		return 0, api.ErrForm
	}
	n := make([]int, len(m))
	for i := range m[1:] {
		n[i+1], _ = strconv.Atoi(m[i+1])
	}
	t := time.Date(n[1], time.Month(n[2]), n[3], n[4], n[5], n[6], 0, time.UTC)
	if len(m[1]) > 6 || n[1] < -40000 || n[1] > 40000 || t.Year() != n[1] || int(t.Month()) != n[2] || t.Day() != n[3] || t.Hour() != n[4] || t.Minute() != n[5] || t.Second() != n[6] {
		return 0, api.ErrRange
	}
	return t.Unix(), api.OK
}

func name(s string) api.Errno {
	switch {
	case len(s) > 64:
		return api.ErrLong
	case !regexp.MustCompile(`^[A-Za-z_][A-Za-z0-9_+/.-]*$`).MatchString(s):
		return api.ErrName
	}
	return api.OK
}

// read is what Read must answer, by the words.
func read(line string) said {
	if why := lines.Check(line); why != api.OK {
		return no(why)
	}
	f, why := fields.Of(line)
	switch {
	case why != api.OK:
		return no(why)
	case len(f) == 0:
		return said{}
	}
	q := api.Query{Kind: word(f[0], kinds())}
	shape := shapes()[q.Kind]
	switch {
	case q.Kind == 0:
		return no(api.ErrWord)
	case len(f)-1 < len(shape):
		return no(api.ErrShort)
	case len(f)-1 > len(shape):
		return no(api.ErrMore)
	}
	for i, slot := range shape {
		s, why := f[i+1], api.OK
		switch slot {
		case 'z':
			q.Zone, why = s, name(s)
		case 't':
			q.T, why = second(s)
		case 'y':
			q.T, why = number(s)
		case 'n', 'Y':
			q.N, why = number(s)
		case 'u':
			q.Unit = word(s, units())
			if q.Unit == 0 {
				why = api.ErrWord
			}
		case 'p':
			q.Policy = word(s, policies())
			if q.Policy == 0 {
				why = api.ErrWord
			}
		}
		if why != api.OK {
			return no(why)
		}
	}
	if q.Kind == api.AskCount && (q.T < -32767 || q.T > 32767 || q.N < -32767 || q.N > 32767) {
		return no(api.ErrRange)
	}
	if q.Kind == api.AskCount && q.T > q.N {
		return no(api.ErrOrder)
	}
	return said{q: q}
}

// right tells, and text writes, by the table of the words.
func right(q api.Query) bool {
	if q.Kind < 0 || q.Kind >= len(shapes()) {
		return false
	}
	left := q
	left.Kind = 0
	for _, slot := range shapes()[q.Kind] {
		ok := true
		switch slot {
		case 'z':
			ok, left.Zone = name(q.Zone) == api.OK, ""
		case 't':
			left.T = 0
		case 'y':
			ok, left.T = q.T >= -32767 && q.T <= q.N, 0
		case 'Y':
			ok, left.N = q.N <= 32767, 0
		case 'n':
			left.N = 0
		case 'u':
			ok, left.Unit = q.Unit >= 1 && q.Unit <= 4, 0
		case 'p':
			ok, left.Policy = q.Policy >= 1 && q.Policy <= 3, 0
		}
		if !ok {
			return false
		}
	}
	return left == api.Query{}
}

func text(q api.Query) string {
	if q.Kind == 0 {
		return ""
	}
	s := kinds()[q.Kind-1]
	for _, slot := range shapes()[q.Kind] {
		s += " "
		switch slot {
		case 'z':
			s += q.Zone
		case 't', 'y':
			s += strconv.FormatInt(q.T, 10)
		case 'n', 'Y':
			s += strconv.FormatInt(q.N, 10)
		case 'u':
			s += units()[q.Unit-1]
		case 'p':
			s += policies()[q.Policy-1]
		}
	}
	return s
}

func compareRead(t *testing.T, line string, want said) {
	t.Helper()
	if q, why := query.Read(line); (said{q, why}) != want {
		t.Errorf("Read of %q: %v, %d; not %v", line, q, why, want)
	}
}

// compareWritten holds Right and Text against the words.
func compareWritten(t *testing.T, q api.Query) {
	t.Helper()
	want, whyNot := "", api.ErrForm
	if right(q) {
		want, whyNot = text(q), api.OK
	}
	if got := query.Right(q); got != right(q) {
		t.Errorf("Right of %v: %t", q, got)
	}
	if s, why := query.Text(q); s != want || why != whyNot {
		t.Errorf("Text of %v: %q, %d; not %q, %d", q, s, why, want, whyNot)
	}
}

func one[T any](random *rand.Rand, l ...T) T {
	return l[random.Intn(len(l))]
}

// anyWord is the beginning of one of l, or more than that, in small or large letters.
func anyWord(random *rand.Rand, l []string) string {
	w := one(random, l...)
	w = one(random, w, w, w, w[:random.Intn(len(w)+1)], w+"s")
	return one(random, w, w, strings.ToUpper(w), strings.ToUpper(w[:len(w)/2])+w[len(w)/2:])
}

// anyField may stand in a slot, or may not.
func anyField(random *rand.Rand, slot rune) string {
	if random.Intn(25) == 0 {
		return one(random, "x", "0", "-", "early", "days", `""`, `"a b"`, "-0", "A", `"`, "#", "2024-03-10T02:30:00")
	}
	switch slot {
	case 'z':
		return one(random, "A", "A/B", "Etc/GMT+5", "_x", "sys", strings.Repeat("z", 64), strings.Repeat("z", 65), "1A", "A b", `"A"`, "A:B", "é")
	case 't':
		return one(random, "0", "-1", "2024-03-10T02:30:00", "2024-02-30T00:00:00", "2024-3-10T02:30:00", "-0001-12-31T23:59:59", "32767-12-31T23:59:59", "-32768-01-01T00:00:00",
			"40000-12-31T23:59:59", "40001-01-01T00:00:00", "2024-03-10t02:30:00", "T02:30:00", "02:30:00", "123T45678901", "9223372036854775807", "-9223372036854775809", "007", "1e5", "T")
	case 'y', 'Y':
		return one(random, "1", "2", "2000", "1999", "-32767", "-32768", "32767", "32768", "-5", "0", "99999999999999999999", "1x", "2024-03-10T02:30:00")
	case 'n':
		return one(random, "0", "5", "-5", "9223372036854775807", "-9223372036854775808", "9223372036854775808", "+5", "5.0", "2024-03-10T02:30:00")
	case 'u':
		return anyWord(random, units())
	}
	return anyWord(random, policies())
}

// anyLine is about such a one as could be read.
func anyLine(random *rand.Rand) string {
	kind := 1 + random.Intn(7)
	blank := one(random, " ", " ", "\t", "  ")
	line := one(random, "", "", blank) + one(random, kinds()[kind-1], kinds()[kind-1], anyWord(random, kinds()))
	shape := shapes()[kind]
	if random.Intn(12) == 0 && shape != "" {
		shape = shape[:len(shape)-1]
	}
	for _, slot := range shape {
		line += blank + anyField(random, slot)
	}
	return line + one(random, "", "", "", "", " ", "#", " # x", " x", "\n", "\x00", strings.Repeat(" ", 500))
}

// Promise 44.2: about right lines against a reader of patterns, each error often among them.
func TestRead(t *testing.T) {
	random := rand.New(rand.NewSource(44))
	count := map[api.Errno]int{}
	for range 100000 {
		line := anyLine(random)
		want := read(line)
		count[want.why]++
		compareRead(t, line, want)
	}
	for _, why := range []api.Errno{api.OK, api.ErrRange, api.ErrNumber, api.ErrWord, api.ErrForm, api.ErrShort, api.ErrMore, api.ErrByte, api.ErrQuote, api.ErrLong, api.ErrName, api.ErrOrder} {
		if count[why] < 100 {
			t.Errorf("%d comes %d times", why, count[why])
		}
	}
}

// Promise 44.2: what is known.
func TestReadKnown(t *testing.T) {
	tests := []struct {
		line string
		want said
	}{
		{"", said{}}, {" \t", said{}}, {"# sys", said{}},
		{`""`, no(api.ErrWord)}, {"sysx A 0", no(api.ErrWord)}, {"a A 0", no(api.ErrWord)}, {"x", no(api.ErrWord)}, {"none", no(api.ErrWord)},
		{"names", said{q: api.Query{Kind: api.AskNames}}}, {"n", said{q: api.Query{Kind: api.AskNames}}}, {"names A", no(api.ErrMore)},
		{"sys A 0", said{q: api.Query{Kind: api.AskSys, Zone: "A"}}}, {"SyS A 0", said{q: api.Query{Kind: api.AskSys, Zone: "A"}}}, {`"s"ys "A" 0`, said{q: api.Query{Kind: api.AskSys, Zone: "A"}}},
		{"l A 1970-01-02T00:00:00", said{q: api.Query{Kind: api.AskLocal, Zone: "A", T: 86400}}},
		{"at A 32768-01-01T00:00:00", said{q: api.Query{Kind: api.AskAt, Zone: "A", T: api.MaxT + 1}}},
		{"at A 9223372036854775807", said{q: api.Query{Kind: api.AskAt, Zone: "A", T: math.MaxInt64}}}, {"at A 9223372036854775808", no(api.ErrRange)},
		{"at A T00:00:00", no(api.ErrForm)}, {"at A 00:00:00", no(api.ErrNumber)}, {"at A 1T00:00:000", no(api.ErrNumber)},
		{"to A 5", no(api.ErrShort)}, {"to", no(api.ErrShort)}, {"to A 5 l", said{q: api.Query{Kind: api.AskTo, Zone: "A", T: 5, Policy: api.PolicyLate}}}, {"to A 5 r 5", no(api.ErrMore)},
		{"to 5 x x", no(api.ErrName)}, {"to A x x", no(api.ErrNumber)}, {"to A 5 x", no(api.ErrWord)}, {"to A 5 5", no(api.ErrWord)},
		{"add A 1 2 y e", said{q: api.Query{Kind: api.AskAdd, Zone: "A", T: 1, N: 2, Unit: api.UnitYears, Policy: api.PolicyEarly}}},
		{"add A 1 2 s r", said{q: api.Query{Kind: api.AskAdd, Zone: "A", T: 1, N: 2, Unit: api.UnitSecs, Policy: api.PolicyReject}}},
		{"add A 1 2 d x", no(api.ErrWord)}, {"add A 1 x x x", no(api.ErrNumber)}, {"add A 1 2 x x", no(api.ErrWord)}, {"add A 1 1970-01-02T00:00:00 d e", no(api.ErrNumber)},
		{"count A -32767 32767", said{q: api.Query{Kind: api.AskCount, Zone: "A", T: -32767, N: 32767}}}, {"count A 5 5", said{q: api.Query{Kind: api.AskCount, Zone: "A", T: 5, N: 5}}},
		{"count A -32768 5", no(api.ErrRange)}, {"count A 5 32768", no(api.ErrRange)}, {"count A 32768 5", no(api.ErrRange)}, {"count A 5 -32768", no(api.ErrRange)},
		{"count A 6 5", no(api.ErrOrder)}, {"count A 40000 x", no(api.ErrNumber)}, {"count A 6 99999999999999999999", no(api.ErrRange)}, {"count A 1970-01-02T00:00:00 2000", no(api.ErrNumber)},
		{"sys A 0\n", no(api.ErrByte)}, {"sys \"A 0\n", no(api.ErrByte)}, {strings.Repeat("\n", 512), no(api.ErrLong)}, {`sys "A 0`, no(api.ErrQuote)}, {strings.Repeat("x ", 17), no(api.ErrMore)},
		{"sys A 0" + strings.Repeat(" ", 504), said{q: api.Query{Kind: api.AskSys, Zone: "A"}}}, {"sys A 0" + strings.Repeat(" ", 505), no(api.ErrLong)},
		{"sys " + strings.Repeat("A", 64) + " 0", said{q: api.Query{Kind: api.AskSys, Zone: strings.Repeat("A", 64)}}}, {"sys " + strings.Repeat("A", 65) + " x", no(api.ErrLong)},
	}
	for _, x := range tests {
		compareRead(t, x.line, x.want)
	}
}

// Promise 44.2: each word by each of its beginnings, in small and large letters.
func TestWords(t *testing.T) {
	compare := func(l []string, ahead, behind string, q func(meant int) api.Query) {
		for _, w := range l {
			for n := range len(w) + 1 {
				for _, s := range []string{w[:n], strings.ToUpper(w[:n])} {
					want := no(api.ErrWord)
					if meant := word(s, l); meant > 0 {
						want = said{q: q(meant)}
					}
					if s == "" {
						s = `""`
					}
					compareRead(t, ahead+s+behind, want)
				}
			}
			compareRead(t, ahead+w+"x"+behind, no(api.ErrWord))
		}
	}
	compare(policies(), "to A 5 ", "", func(meant int) api.Query {
		return api.Query{Kind: api.AskTo, Zone: "A", T: 5, Policy: meant}
	})
	compare(units(), "add A 5 6 ", " late", func(meant int) api.Query {
		return api.Query{Kind: api.AskAdd, Zone: "A", T: 5, N: 6, Unit: meant, Policy: api.PolicyLate}
	})
	for _, w := range kinds() {
		for n := range len(w) + 1 {
			shape := shapes()[word(w[:n], kinds())]
			rest := map[string]string{"": "", "zt": " A 5", "ztp": " A 5 late", "ztnup": " A 5 6 secs late", "zyY": " A 5 6"}[shape]
			compareRead(t, w[:n]+rest, read(w[:n]+rest))
		}
	}
}

// Promise 44.1: all questions made of some numbers and names, right and wrong ones.
func TestWritten(t *testing.T) {
	names := []string{"", "A", "A b", `"A"`, "#", "A\n", strings.Repeat("z", 64), strings.Repeat("z", 65), strings.Repeat("z", 600)}
	numbers := []int64{-32768, -32767, 0, 1, 32767, 32768}
	few := []int{-1, 0, 1, 2, 3, 4, 5}
	for _, far := range []int{math.MinInt, math.MaxInt, 1 << 32} {
		for _, q := range []api.Query{{Kind: far}, {Kind: api.AskAdd, Zone: "A", Unit: far, Policy: 1}, {Kind: api.AskAdd, Zone: "A", Unit: 1, Policy: far}, {Kind: api.AskTo, Zone: "A", Policy: far}, {Kind: api.AskNames, Unit: far}} {
			compareWritten(t, q)
		}
	}
	for _, far := range []int64{math.MinInt64, math.MaxInt64} {
		for _, kind := range []int{api.AskSys, api.AskAdd, api.AskCount} {
			for _, q := range []api.Query{{T: far}, {N: far}, {T: far, N: far}, {N: far, Unit: 1, Policy: 1}} {
				q.Kind, q.Zone = kind, "A"
				compareWritten(t, q)
			}
		}
	}
	for kind := -1; kind <= 8; kind++ {
		for _, name := range names {
			for _, at := range numbers {
				for _, n := range numbers {
					for _, unit := range few {
						for _, how := range few {
							compareWritten(t, api.Query{Kind: kind, Zone: name, T: at, N: n, Unit: unit, Policy: how})
						}
					}
				}
			}
		}
	}
}

// Promise 44.3: what is written is read as it is; what is read is right.
func TestThereAndBack(t *testing.T) {
	random := rand.New(rand.NewSource(443))
	for range 20000 {
		q := api.Query{Kind: random.Intn(8), Zone: one(random, "", "A", "A/B", "sys"), T: one(random, 0, random.Int63()-random.Int63(), int64(random.Intn(3000))), N: one(random, 0, random.Int63()-random.Int63(), int64(random.Intn(3000))), Unit: random.Intn(5), Policy: random.Intn(4)}
		if s, why := query.Text(q); why == api.OK {
			compareRead(t, s, said{q: q})
		}
		line := anyLine(random)
		q, why := query.Read(line)
		if s, wrong := query.Text(q); why == api.OK && (!query.Right(q) || wrong != api.OK) {
			t.Errorf("Read of %q: %v, %q, %d", line, q, s, wrong)
		}
	}
}

// The examples.
func TestExamples(t *testing.T) {
	compareRead(t, "to A/B 2024-03-10T02:30:00 e", said{q: api.Query{Kind: api.AskTo, Zone: "A/B", T: 1710037800, Policy: api.PolicyEarly}})
	compareRead(t, "sys A 0", said{q: api.Query{Kind: api.AskSys, Zone: "A"}})
	compareRead(t, "s A 0", said{q: api.Query{Kind: api.AskSys, Zone: "A"}})
	compareRead(t, "c A 1 2", said{q: api.Query{Kind: api.AskCount, Zone: "A", T: 1, N: 2}})
}
