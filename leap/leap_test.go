package leap_test

import (
	"math"
	"math/rand"
	"reflect"
	"slices"
	"strings"
	"testing"
	"time"

	"noontide/api"
	"noontide/leap"
	"noontide/sample"
	"noontide/stamp"
)

const (
	day  = 86400
	minT = -1096193779200
	maxT = 971890963199
	near = 2419200
)

// said is all that Utc answers.
type said struct {
	t    int64
	more bool
	why  api.Errno
}

func utc(l []api.Leap, n int64) said {
	t, more, why := leap.Utc(l, n)
	return said{t, more, why}
}

// number is that of all seconds at t, by the words.
func number(l []api.Leap, t int64) int64 {
	n := t
	for _, one := range l {
		if one.At <= t {
			n += int64(one.Step)
		}
	}
	return n
}

// found is what Utc must answer, second by second: numbers are never further from their seconds than there are leaps.
func found(l []api.Leap, n int64) said {
	far := int64(len(l)) + 1
	if n < number(l, minT) || n > number(l, maxT)+1 {
		return said{why: api.ErrRange}
	}
	for t := min(n+far, maxT); t >= minT; t-- {
		if is := number(l, t); is <= n {
			return said{t: t, more: is < n}
		}
	}
	return said{why: api.ErrRange}
}

// steps are leaps at l, of any steps.
func steps(random *rand.Rand, l ...int64) []api.Leap {
	leaps := make([]api.Leap, 0, len(l))
	for _, at := range l {
		leaps = append(leaps, api.Leap{At: at, Step: 1 - 2*random.Intn(2)})
	}
	return leaps
}

// anyLeaps are right: few of them, often as near to each other as may be, some at both ends.
func anyLeaps(random *rand.Rand) []api.Leap {
	var l []int64
	at := []int64{minT, minT + 1, -10 * near, 0, maxT - near, maxT - 3*near}[random.Intn(6)]
	for range random.Intn(8) {
		if at > maxT {
			break
		}
		l = append(l, at)
		at += near + []int64{0, 0, 1, random.Int63n(1 << 30)}[random.Intn(4)]
	}
	if random.Intn(4) == 0 && (len(l) == 0 || l[len(l)-1] <= maxT-near) {
		l = append(l, maxT)
	}
	return steps(random, l...)
}

// many are as many leaps, as near to each other as may be, from MinT on.
func many(count int) []api.Leap {
	l := make([]api.Leap, count)
	for i := range l {
		l[i] = api.Leap{At: minT + int64(i)*near, Step: 1}
	}
	return l
}

// wrong are leaps that are not right.
func wrong() [][]api.Leap {
	l := [][]api.Leap{many(1001), {{}}, {{At: 0, Step: 1}, {At: 0, Step: 1}}, {{At: near, Step: 1}, {At: 0, Step: 1}}, {{At: 0, Step: 1}, {At: near - 1, Step: -1}}}
	for _, at := range []int64{math.MinInt64, minT - 1, maxT + 1, math.MaxInt64} {
		l = append(l, []api.Leap{{At: at, Step: 1}}, []api.Leap{{At: 0, Step: 1}, {At: at, Step: 1}}, []api.Leap{{At: at, Step: 1}, {At: 0, Step: 1}})
	}
	for _, step := range []int{math.MinInt, -2, 0, 2, 1 << 32, math.MaxInt} {
		l = append(l, []api.Leap{{Step: step}}, []api.Leap{{Step: 1}, {At: near, Step: step}})
	}
	return append(l, []api.Leap{{At: math.MaxInt64, Step: 1}, {At: math.MinInt64 + near, Step: 1}}, append(many(3), many(1)...))
}

// Promise 53.1: they are right just if there are not too many, none is out of range, or too near to the one ahead, and each step is 1 or -1.
func TestRight(t *testing.T) {
	random := rand.New(rand.NewSource(531))
	right := [][]api.Leap{nil, {}, many(1000), {{At: minT, Step: 1}}, {{At: maxT, Step: -1}}, {{At: 0, Step: -1}, {At: near, Step: -1}}}
	for range 1000 {
		right = append(right, anyLeaps(random))
	}
	for _, l := range right {
		if !leap.Right(l) {
			t.Fatalf("%v is right", l)
		}
	}
	for _, l := range wrong() {
		if leap.Right(l) {
			t.Errorf("%v is not right", l)
		}
	}
}

// Promise 53.1: the number of all seconds is the second, and the sum of the steps that are not above it.
func TestGone(t *testing.T) {
	random := rand.New(rand.NewSource(532))
	for range 3000 {
		l := anyLeaps(random)
		times := sample.Far()
		for _, one := range l {
			times = append(times, one.At-1, one.At, one.At+1, one.At+random.Int63n(near))
		}
		for _, at := range times {
			n, why := leap.Gone(l, at)
			want, wrong := number(l, at), api.OK
			if at < minT || at > maxT {
				want, wrong = 0, api.ErrRange
			}
			if n != want || why != wrong {
				t.Fatalf("Gone(%v, %d): %d, %d, not %d, %d", l, at, n, why, want, wrong)
			}
		}
	}
}

// Promises 53.1, 53.2 and 53.3: of what is not right nothing is told, whatever else is wrong.
func TestWrong(t *testing.T) {
	for _, l := range wrong() {
		for _, at := range sample.Far() {
			if n, why := leap.Gone(l, at); n != 0 || why != api.ErrForm {
				t.Errorf("Gone(%v, %d): %d, %d", l, at, n, why)
			}
			if is := utc(l, at); is != (said{why: api.ErrForm}) {
				t.Errorf("Utc(%v, %d): %v", l, at, is)
			}
		}
		if text, why := leap.Text(l); text != "" || why != api.ErrForm {
			t.Errorf("Text(%v): %q, %d", l, text, why)
		}
	}
}

// Promise 53.2: it is the greatest second whose number is not above n.
func TestUtc(t *testing.T) {
	random := rand.New(rand.NewSource(533))
	for range 3000 {
		l := anyLeaps(random)
		numbers := sample.Far()
		for _, at := range []int64{minT, maxT} {
			for n := int64(-12); n <= 12; n++ {
				numbers = append(numbers, at+n)
			}
		}
		for _, one := range l {
			for n := int64(-10); n <= 10; n++ {
				numbers = append(numbers, one.At+n)
			}
			numbers = append(numbers, one.At+random.Int63n(near))
		}
		for _, n := range numbers {
			if is, want := utc(l, n), found(l, n); is != want {
				t.Fatalf("Utc(%v, %d): %v, not %v", l, n, is, want)
			}
		}
	}
}

// Promise 53.2: what lies at both ends of all seconds.
func TestUtcEnds(t *testing.T) {
	in, out := []api.Leap{{At: minT, Step: 1}}, []api.Leap{{At: minT, Step: -1}}
	late, gone := []api.Leap{{At: maxT, Step: 1}}, []api.Leap{{At: maxT, Step: -1}}
	for _, c := range []struct {
		l    []api.Leap
		n    int64
		want said
	}{
		{nil, minT, said{t: minT}}, {nil, minT - 1, said{why: api.ErrRange}}, {nil, maxT, said{t: maxT}}, {nil, maxT + 1, said{t: maxT, more: true}}, {nil, maxT + 2, said{why: api.ErrRange}},
		{in, minT, said{why: api.ErrRange}}, {in, minT + 1, said{t: minT}}, {in, minT + 2, said{t: minT + 1}}, {in, maxT + 2, said{t: maxT, more: true}}, {in, maxT + 3, said{why: api.ErrRange}},
		{out, minT - 2, said{why: api.ErrRange}}, {out, minT - 1, said{t: minT}}, {out, minT, said{t: minT + 1}}, {out, maxT, said{t: maxT, more: true}}, {out, maxT + 1, said{why: api.ErrRange}},
		{late, maxT - 1, said{t: maxT - 1}}, {late, maxT, said{t: maxT - 1, more: true}}, {late, maxT + 1, said{t: maxT}}, {late, maxT + 2, said{t: maxT, more: true}}, {late, maxT + 3, said{why: api.ErrRange}},
		{gone, maxT - 2, said{t: maxT - 2}}, {gone, maxT - 1, said{t: maxT}}, {gone, maxT, said{t: maxT, more: true}}, {gone, maxT + 1, said{why: api.ErrRange}},
	} {
		if is := utc(c.l, c.n); is != c.want {
			t.Errorf("Utc(%v, %d): %v, not %v", c.l, c.n, is, c.want)
		}
	}
}

// Promise 53.4: there and back, but for a second that is not there, and a number that can't be named.
func TestThereAndBack(t *testing.T) {
	random := rand.New(rand.NewSource(534))
	missing, unnamed := 0, 0
	for range 2000 {
		l := anyLeaps(random)
		for _, one := range l {
			for at := max(one.At-3, minT); at <= min(one.At+3, maxT); at++ {
				n, _ := leap.Gone(l, at)
				back := utc(l, n)
				if at == one.At-1 && one.Step == -1 {
					missing++
					if back != (said{t: one.At}) {
						t.Fatalf("of %v: the second %d is not there, but Utc(%d) is %v", l, at, n, back)
					}
				} else if back != (said{t: at}) {
					t.Fatalf("of %v: %d to %d to %v", l, at, n, back)
				}
				there := utc(l, n+1)
				again, why := leap.Gone(l, there.t)
				if there.why != api.OK || why != api.OK || there.more != (again == n) || !there.more && again != n+1 {
					t.Fatalf("of %v: %d to %v to %d", l, n+1, there, again)
				}
				if there.more {
					unnamed++
				}
			}
		}
	}
	if missing < 500 || unnamed < 500 {
		t.Error(missing, unnamed)
	}
}

// line is the one of a leap, by the words.
func line(one api.Leap) string {
	s, _ := stamp.Of(one.At)
	if one.Step == 1 {
		return stamp.Text(s) + " +\n"
	}
	return stamp.Text(s) + " -\n"
}

// Promises 53.3 and 53.4: a line of each one, and back.
func TestText(t *testing.T) {
	random := rand.New(rand.NewSource(535))
	lists := [][]api.Leap{nil, {}, many(1000), {{At: minT, Step: -1}, {At: maxT, Step: 1}}}
	for range 2000 {
		lists = append(lists, anyLeaps(random))
	}
	for _, l := range lists {
		want := ""
		for _, one := range l {
			want += line(one)
		}
		text, why := leap.Text(l)
		if text != want || why != api.OK {
			t.Fatalf("Text(%v): %q, %d", l, text, why)
		}
		back, fault := leap.Read(text)
		if !slices.Equal(back, l) || fault != (api.Fault{}) {
			t.Fatalf("Read(%q): %v, %v", text, back, fault)
		}
	}
	known := []api.Leap{{At: 78796800, Step: 1}, {At: 94694400, Step: -1}}
	if text, _ := leap.Text(known); text != "1972-07-01T00:00:00 +\n1973-01-01T00:00:00 -\n" {
		t.Errorf("%q", text)
	}
}

// Promise 53.3: what the lines are, however they are written.
func TestRead(t *testing.T) {
	first, second := api.Leap{At: 78796800, Step: 1}, api.Leap{At: 94694400, Step: -1}
	for text, want := range map[string][]api.Leap{
		"":                         nil,
		"\n\n # 1972\n \t\n":       nil,
		"1972-07-01T00:00:00 +":    {first},
		"1972-07-01T00:00:00 +\n":  {first},
		"1972-07-01T00:00:00 +#-":  {first},
		"\t1972-07-01T00:00:00\t+": {first},
		"#\n1972-07-01T00:00:00 +\n\n1973-01-01T00:00:00 - # out\n": {first, second},
		"\"1972-07-01T00:00:00\" \"+\" \n":                          {first},
		"-30000-07-01T12:30:15 -\n":                                 {{At: -1008860009385, Step: -1}},
	} {
		if l, fault := leap.Read(text); !slices.Equal(l, want) || fault != (api.Fault{}) {
			t.Errorf("Read(%q): %v, %v", text, l, fault)
		}
	}
}

const fine = "1972-07-01T00:00:00 +\n"

// Promise 53.3: the first line that is wrong, and of it the first error.
func TestReadWrong(t *testing.T) {
	long, wide := strings.Repeat("x", 512), strings.Repeat("a ", 17)
	for _, c := range []struct {
		line string
		why  api.Errno
	}{
		{long, api.ErrLong}, {"\x7f", api.ErrByte}, {"\"", api.ErrQuote}, {wide, api.ErrMore}, {"1972-07-01T00:00:00", api.ErrShort}, {"x", api.ErrShort}, {"\"\"", api.ErrShort}, {"+", api.ErrShort},
		{"1972-07-01T00:00:00 + +", api.ErrMore}, {"x y z", api.ErrMore}, {"1972-7-01T00:00:00 +", api.ErrForm}, {"x +", api.ErrForm}, {"+ 1972-07-01T00:00:00", api.ErrForm},
		{"1972-02-30T00:00:00 +", api.ErrRange}, {"1972-06-30T23:59:60 +", api.ErrRange}, {"40001-01-01T00:00:00 +", api.ErrRange},
		{"1972-07-01T00:00:00 ++", api.ErrWord}, {"1972-07-01T00:00:00 1", api.ErrWord}, {"1972-07-01T00:00:00 \"\"", api.ErrWord}, {"1972-07-01T00:00:00 +1", api.ErrWord}, {"1972-07-01T00:00:00 \" +\"", api.ErrWord},
		// Where several are wrong.
		{long + "\x7f", api.ErrLong}, {"\x7f\"", api.ErrByte}, {wide + "\"", api.ErrQuote}, {"x \"", api.ErrQuote}, {"1972-02-30T00:00:00 x", api.ErrRange}, {"x y", api.ErrForm}, {"x + y", api.ErrMore},
	} {
		for _, ahead := range []string{"", "\n", fine + "#\n"} {
			want := api.Fault{Line: strings.Count(ahead, "\n") + 1, Err: c.why}
			for _, behind := range []string{"", "\n", "\n" + fine + fine, "\nx"} {
				if l, fault := leap.Read(ahead + c.line + behind); len(l) != 0 || fault != want {
					t.Errorf("Read(%q): %v, %v, not %v", ahead+c.line+behind, l, fault, want)
				}
			}
		}
	}
}

// Promise 53.3: what is wrong with all of it, behind what is wrong with a line.
func TestReadAll(t *testing.T) {
	var crowd strings.Builder
	for _, one := range many(1001) {
		crowd.WriteString(line(one))
	}
	for text, want := range map[string]api.Fault{
		fine + fine: {Err: api.ErrForm},
		"1973-01-01T00:00:00 +\n1972-07-01T00:00:00 +\n": {Err: api.ErrForm},
		"1972-07-01T00:00:00 +\n1972-07-28T23:59:59 +\n": {Err: api.ErrForm},
		"1972-07-01T00:00:00 +\n1972-07-29T00:00:00 +\n": {},
		"32768-01-01T00:00:00 +\n":                       {Err: api.ErrForm},
		"32767-12-31T23:59:59 +\n":                       {},
		"-32767-01-01T00:00:00 +\n":                      {},
		"-32768-12-31T23:59:59 +\n":                      {Err: api.ErrForm},
		"40000-12-31T23:59:59 +\n":                       {Err: api.ErrForm},
		crowd.String():                                   {Err: api.ErrForm},
		crowd.String() + "x":                             {Line: 1002, Err: api.ErrShort},
		fine + fine + "\x00":                             {Line: 3, Err: api.ErrByte},
	} {
		l, fault := leap.Read(text)
		if fault != want || fault.Err != api.OK && len(l) != 0 {
			t.Errorf("Read(%.60q): %v, not %v", text, fault, want)
		}
	}
	full := fine + strings.Repeat("\n", 1048576-len(fine))
	if l, fault := leap.Read(full); len(l) != 1 || fault != (api.Fault{}) {
		t.Errorf("of as many bytes as may be: %v, %v", l, fault)
	}
	for _, text := range []string{full + "\n", "x\n" + full} {
		if l, fault := leap.Read(text); len(l) != 0 || fault != (api.Fault{Err: api.ErrLong}) {
			t.Errorf("of too many bytes: %v, %v", l, fault)
		}
	}
}

// Promise 53.3: what is read shares nothing, and what is handed in is not changed.
func TestOwn(t *testing.T) {
	l := many(10)
	was := slices.Clone(l)
	leap.Right(l)
	leap.Gone(l, 0)
	leap.Utc(l, 0)
	text, _ := leap.Text(l)
	a, _ := leap.Read(text)
	b, _ := leap.Read(text)
	a[0].Step = 5
	if !reflect.DeepEqual(l, was) || b[0].Step != 1 {
		t.Error(l, b)
	}
}

// Promises 53.1 to 53.3: long lists are not gone through once for each of their leaps.
func TestSoon(t *testing.T) {
	begin := time.Now()
	l := many(1000)
	for i := range int64(20000) {
		n, _ := leap.Gone(l, minT+i*day)
		if is := utc(l, n); is.why != api.OK {
			t.Fatal(is)
		}
	}
	leap.Read(strings.Repeat(fine, 1048576/len(fine)))
	if took := time.Since(begin); took > 20*time.Second {
		t.Error(took)
	}
}
