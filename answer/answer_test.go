package answer_test

import (
	"fmt"
	"math"
	"math/rand"
	"strconv"
	"strings"
	"testing"
	"time"

	"noontide/answer"
	"noontide/api"
	"noontide/fields"
	"noontide/num"
)

// said is a text, or why there is none.
type said struct {
	text string
	why  api.Errno
}

func no(why api.Errno) said {
	return said{why: why}
}

// read is what ReadInfo answers.
type read struct {
	i   api.Info
	why api.Errno
}

func one[T any](random *rand.Rand, l ...T) T {
	return l[random.Intn(len(l))]
}

// word is a field's text, by the words.
func word(s string) said {
	switch {
	case strings.Contains(s, `"`):
		return no(api.ErrQuote)
	case s == "" || strings.ContainsAny(s, "\t #"):
		return said{text: `"` + s + `"`}
	}
	return said{text: s}
}

// infoText is what Info must answer, by the words.
func infoText(i api.Info) said {
	abbr := word(i.Value.Abbr)
	if abbr.why != api.OK {
		return abbr
	}
	return said{text: fmt.Sprintf("%d %d %d %d %s", i.Span.From, i.Span.To, i.Value.Off, i.Value.Save, abbr.text)}
}

func compareInfo(t *testing.T, i api.Info, want said) {
	t.Helper()
	if text, why := answer.Info(i); (said{text, why}) != want {
		t.Errorf("Info of %v: %q, %d; not %v", i, text, why, want)
	}
}

func compareRead(t *testing.T, s string, want read) {
	t.Helper()
	if i, why := answer.ReadInfo(s); (read{i, why}) != want {
		t.Errorf("ReadInfo of %q: %v, %d; not %v", s, i, why, want)
	}
}

func compareLocal(t *testing.T, x api.Local, want said) {
	t.Helper()
	if text, why := answer.Local(x); (said{text, why}) != want {
		t.Errorf("Local of %v: %q, %d; not %v", x, text, why, want)
	}
}

func anyNumber(random *rand.Rand) int64 {
	return one(random, 0, -1, 10, math.MinInt64, math.MaxInt64, int64(random.Uint64()), random.Int63n(100000)-50000)
}

// anyText is often one that can't be written as it is.
func anyText(random *rand.Rand) string {
	if random.Intn(3) > 0 {
		return one(random, "", "X", "EST", "+0330", "a b", "a#b", "#", "\t", " ", "\n", "é", "\xff", "/", "-", "5", strings.Repeat("x", 700))
	}
	b := make([]byte, random.Intn(8))
	for i := range b {
		b[i] = one(random, 'a', ' ', '\t', '#', '"', 0, '\n', 0xc3, byte(random.Intn(256)))
	}
	return string(b)
}

func anyInfo(random *rand.Rand) api.Info {
	return api.Info{Span: api.Span{From: anyNumber(random), To: anyNumber(random)}, Value: api.Value{Off: anyNumber(random), Save: anyNumber(random), Abbr: anyText(random)}}
}

// Promise 45.1: what is known, and what can't be written.
func TestInfoKnown(t *testing.T) {
	of := func(abbr string) api.Info {
		return api.Info{Span: api.Span{From: -5, To: 6}, Value: api.Value{Off: -7, Save: 8, Abbr: abbr}}
	}
	tests := map[string]said{
		"X": {text: "-5 6 -7 8 X"}, "": {text: `-5 6 -7 8 ""`}, "a b": {text: `-5 6 -7 8 "a b"`}, "a\tb": {text: "-5 6 -7 8 \"a\tb\""}, "#": {text: `-5 6 -7 8 "#"`},
		"-0330": {text: "-5 6 -7 8 -0330"}, "\n": {text: "-5 6 -7 8 \n"}, `"`: no(api.ErrQuote), `""`: no(api.ErrQuote), `a"b`: no(api.ErrQuote), ` "`: no(api.ErrQuote),
	}
	for abbr, want := range tests {
		compareInfo(t, of(abbr), want)
	}
	compareInfo(t, api.Info{}, said{text: `0 0 0 0 ""`})
	compareInfo(t, api.Info{Span: api.Span{From: math.MaxInt64, To: math.MinInt64}, Value: api.Value{Off: math.MinInt64, Save: math.MaxInt64, Abbr: "X"}},
		said{text: "9223372036854775807 -9223372036854775808 -9223372036854775808 9223372036854775807 X"})
}

// Promises 45.1 and 45.4: any infos; what is written is read as it is.
func TestInfo(t *testing.T) {
	random := rand.New(rand.NewSource(45))
	for range 20000 {
		i := anyInfo(random)
		want := infoText(i)
		compareInfo(t, i, want)
		if want.why == api.OK {
			compareRead(t, want.text, read{i: i})
		}
	}
}

// readInfo is what ReadInfo must answer, by the words.
func readInfo(s string) read {
	f, why := fields.Of(s)
	switch {
	case why != api.OK:
		return read{why: why}
	case len(f) < 5:
		return read{why: api.ErrShort}
	case len(f) > 5:
		return read{why: api.ErrMore}
	}
	n := make([]int64, 4)
	for i := range n {
		if n[i], why = num.Read(f[i]); why != api.OK {
			return read{why: why}
		}
	}
	return read{i: api.Info{Span: api.Span{From: n[0], To: n[1]}, Value: api.Value{Off: n[2], Save: n[3], Abbr: f[4]}}}
}

// Promise 45.1: any lines, of fields that are right or wrong.
func TestReadInfo(t *testing.T) {
	random := rand.New(rand.NewSource(451))
	many := map[api.Errno]int{}
	for range 100000 {
		var s strings.Builder
		for range one(random, 5, 5, 5, 5, random.Intn(8), 16, 17) {
			s.WriteString(one(random, "0", "1", "-5", "3600", "9223372036854775807", one(random, "x", "9223372036854775808", "-0", "", `"5"`, `""`, `"`, "#", "X")))
			s.WriteString(one(random, " ", " ", " ", "\t", "  "))
		}
		want := readInfo(s.String())
		many[want.why]++
		compareRead(t, s.String(), want)
	}
	for _, why := range []api.Errno{api.OK, api.ErrQuote, api.ErrShort, api.ErrMore, api.ErrNumber, api.ErrRange} {
		if many[why] < 500 {
			t.Errorf("%d of %d", many[why], why)
		}
	}
}

// Promise 45.1: which error is told, where several apply; what does not count in a line.
func TestReadInfoKnown(t *testing.T) {
	i := api.Info{Span: api.Span{From: 0, To: 10}, Value: api.Value{Off: 3600, Save: 5, Abbr: "X"}}
	empty := i
	empty.Value.Abbr = ""
	quoted := i
	quoted.Value.Abbr = "a b#"
	const far = "9223372036854775808"
	tests := map[string]read{
		"0 10 3600 5 X": {i: i}, " 0\t10  3600 5 X ": {i: i}, "0 10 3600 5 X#": {i: i}, "0 10 3600 5 X # Y": {i: i}, `0 "10" 36"00" 5 "X"`: {i: i},
		`0 10 3600 5 ""`: {i: empty}, `0 10 3600 5 "a b#"`: {i: quoted}, `0 10 3600 5 a" b#"`: {i: quoted},
		"": {why: api.ErrShort}, "x": {why: api.ErrShort}, "0 10 3600 5": {why: api.ErrShort}, "x x x x": {why: api.ErrShort}, "0 10 3600 5 #X": {why: api.ErrShort},
		"0 10 3600 5 X Y": {why: api.ErrMore}, "x x x x x x": {why: api.ErrMore}, strings.Repeat("x ", 17): {why: api.ErrMore}, `0 10 3600 5 X ""`: {why: api.ErrMore},
		`0 10 3600 5 X Y "`: {why: api.ErrQuote}, `"`: {why: api.ErrQuote}, `x x x x "`: {why: api.ErrQuote},
		"x " + far + " 0 0 X": {why: api.ErrNumber}, far + " x 0 0 X": {why: api.ErrRange}, "0 x " + far + " 0 X": {why: api.ErrNumber}, "0 " + far + " x 0 X": {why: api.ErrRange},
		"0 0 x " + far + " X": {why: api.ErrNumber}, "0 0 " + far + " x X": {why: api.ErrRange}, "0 0 0 x X": {why: api.ErrNumber}, "0 0 0 " + far + " X": {why: api.ErrRange},
		"0 0 0 +5 X": {why: api.ErrNumber}, "00 0 0 0 X": {why: api.ErrNumber}, `"" 0 0 0 X`: {why: api.ErrNumber},
	}
	for s, want := range tests {
		compareRead(t, s, want)
	}
}

// localText is what Local must answer, by the words.
func localText(x api.Local) said {
	kind := map[int]string{api.LocalOne: "one", api.LocalNone: "none", api.LocalTwo: "two"}[x.Kind]
	first, second := infoText(x.First), infoText(x.Second)
	switch {
	case kind == "":
		return no(api.ErrForm)
	case first.why != api.OK:
		return first
	case x.Kind == api.LocalOne:
		return said{text: kind + " " + first.text}
	case second.why != api.OK:
		return second
	}
	return said{text: kind + " " + first.text + " / " + second.text}
}

// Promise 45.2: any local times.
func TestLocal(t *testing.T) {
	random := rand.New(rand.NewSource(452))
	many := map[api.Errno]int{}
	for range 20000 {
		x := api.Local{Kind: one(random, 1, 2, 3, 1, 2, 3, 0, 4, -1, math.MinInt, math.MaxInt), First: anyInfo(random), Second: anyInfo(random)}
		want := localText(x)
		many[want.why]++
		compareLocal(t, x, want)
	}
	for _, why := range []api.Errno{api.OK, api.ErrForm, api.ErrQuote} {
		if many[why] < 500 {
			t.Errorf("%d of %d", many[why], why)
		}
	}
}

// Promise 45.2: what is known; a kind that is none is told ahead of infos that can't be written; the second one of one second has no part.
func TestLocalKnown(t *testing.T) {
	a := api.Info{Span: api.Span{From: 0, To: 10}, Value: api.Value{Off: 3600, Abbr: "X"}}
	b := api.Info{Span: api.Span{From: 10, To: 20}, Value: api.Value{Save: 5}}
	wrong := api.Info{Value: api.Value{Abbr: `"`}}
	tests := []struct {
		x    api.Local
		want said
	}{
		{api.Local{Kind: api.LocalOne, First: a}, said{text: "one 0 10 3600 0 X"}},
		{api.Local{Kind: api.LocalOne, First: a, Second: b}, said{text: "one 0 10 3600 0 X"}},
		{api.Local{Kind: api.LocalOne, First: a, Second: wrong}, said{text: "one 0 10 3600 0 X"}},
		{api.Local{Kind: api.LocalOne, First: wrong, Second: b}, no(api.ErrQuote)},
		{api.Local{Kind: api.LocalNone, First: a, Second: b}, said{text: `none 0 10 3600 0 X / 10 20 0 5 ""`}},
		{api.Local{Kind: api.LocalNone, First: a, Second: wrong}, no(api.ErrQuote)},
		{api.Local{Kind: api.LocalNone, First: wrong, Second: b}, no(api.ErrQuote)},
		{api.Local{Kind: api.LocalTwo, First: b, Second: a}, said{text: `two 10 20 0 5 "" / 0 10 3600 0 X`}},
		{api.Local{Kind: api.LocalTwo, First: a, Second: wrong}, no(api.ErrQuote)},
		{api.Local{Kind: api.LocalTwo, First: wrong, Second: b}, no(api.ErrQuote)},
		{api.Local{First: a, Second: b}, no(api.ErrForm)}, {api.Local{Kind: 4, First: a, Second: b}, no(api.ErrForm)},
		{api.Local{Kind: -1, First: wrong}, no(api.ErrForm)}, {api.Local{}, no(api.ErrForm)},
	}
	for _, x := range tests {
		compareLocal(t, x.x, x.want)
	}
}

// Promise 45.3: the first and the last second that have a stamp, and any others.
func TestSecond(t *testing.T) {
	tests := map[int64]string{
		0: "0 1970-01-01T00:00:00", -1: "-1 1969-12-31T23:59:59", 951868801: "951868801 2000-03-01T00:00:01", -62167219201: "-62167219201 -0001-12-31T23:59:59",
		api.MinT: "-1096193779200 -32767-01-01T00:00:00", api.MinT - 1: "-1096193779201 -32768-12-31T23:59:59", api.MaxT: "971890963199 32767-12-31T23:59:59", api.MaxT + 1: "971890963200 32768-01-01T00:00:00",
		math.MinInt64: "-9223372036854775808", math.MaxInt64: "9223372036854775807",
	}
	for _, x := range []struct {
		year int
		off  int64
	}{{-40000, 0}, {-40000, -1}, {40001, -1}, {40001, 0}} {
		at := time.Date(x.year, 1, 1, 0, 0, 0, 0, time.UTC).Unix() + x.off
		tests[at] = strconv.FormatInt(at, 10)
		switch {
		case x.year < 0 && x.off == 0:
			tests[at] += " -40000-01-01T00:00:00"
		case x.year > 0 && x.off < 0:
			tests[at] += " 40000-12-31T23:59:59"
		}
	}
	for at, want := range tests {
		if text := answer.Second(at); text != want {
			t.Errorf("Second of %d: %q; not %q", at, text, want)
		}
	}
	random := rand.New(rand.NewSource(453))
	for range 5000 {
		at := random.Int63n(300000000000)
		want := strconv.FormatInt(at, 10) + " " + time.Unix(at, 0).UTC().Format("2006-01-02T15:04:05")
		if at < 253402300800 && answer.Second(at) != want {
			t.Errorf("Second of %d: %q; not %q", at, answer.Second(at), want)
		}
	}
}

// Promise 45.3: all errors, with lines and without; numbers that are none's.
func TestFault(t *testing.T) {
	for why := api.OK; why <= api.ErrState; why++ {
		for line, behind := range map[int]string{0: "", 1: " in line 1", 77: " in line 77", -1: "", math.MinInt: "", math.MaxInt: " in line 9223372036854775807"} {
			want := "error " + strconv.Itoa(int(why)) + behind
			if text := answer.Fault(api.Fault{Line: line, Err: why}); text != want {
				t.Errorf("Fault of %d in %d: %q; not %q", why, line, text, want)
			}
		}
	}
	for _, n := range []int{-1, 22, math.MinInt, math.MaxInt} {
		want := "error " + strconv.Itoa(n) + " in line 2"
		if text := answer.Fault(api.Fault{Line: 2, Err: api.Errno(n)}); text != want {
			t.Errorf("Fault of %d: %q; not %q", n, text, want)
		}
	}
}

// Promise 45.3: any names, as many as there are, in their order.
func TestNames(t *testing.T) {
	compare := func(l []string, want said) {
		t.Helper()
		if text, why := answer.Names(l); (said{text, why}) != want {
			t.Errorf("Names of %q: %q, %d; not %v", l, text, why, want)
		}
	}
	compare(nil, said{text: "names"})
	compare([]string{}, said{text: "names"})
	compare([]string{""}, said{text: `names ""`})
	compare([]string{"B", "A", "B"}, said{text: "names B A B"})
	compare([]string{"a b", "#", "c"}, said{text: `names "a b" "#" c`})
	compare([]string{`"`}, no(api.ErrQuote))
	compare([]string{"A", "B", `c"`}, no(api.ErrQuote))
	compare([]string{`c"`, "B"}, no(api.ErrQuote))
	random := rand.New(rand.NewSource(4530))
	for range 2000 {
		l := make([]string, random.Intn(40))
		want := said{text: "names"}
		for i := range l {
			l[i] = anyText(random)
			text := word(l[i])
			want.why = max(want.why, text.why)
			want.text += " " + text.text
		}
		if want.why != api.OK {
			want.text = ""
		}
		compare(l, want)
	}
}

// The examples.
func TestExamples(t *testing.T) {
	compareInfo(t, api.Info{Span: api.Span{To: 10}, Value: api.Value{Off: 3600, Abbr: "X"}}, said{text: "0 10 3600 0 X"})
	compareInfo(t, api.Info{Span: api.Span{To: 10}}, said{text: `0 10 0 0 ""`})
	if text := answer.Second(0); text != "0 1970-01-01T00:00:00" {
		t.Error(text)
	}
	if text := answer.Fault(api.Fault{Line: 3, Err: api.ErrNone}); text != "error 12 in line 3" {
		t.Error(text)
	}
}
