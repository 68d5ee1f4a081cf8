package fields_test

import (
	"math/rand"
	"regexp"
	"slices"
	"strings"
	"testing"

	"noontide/api"
	"noontide/fields"
)

// What stands in a line, told by patterns: a piece of what counts; a field; all that counts, and what does not.
const (
	piece = `(?:[^"#]|"[^"]*")`
	field = `(?:[^ \t"#]|"[^"]*")+`
)

var (
	closed   = regexp.MustCompile(`(?s)^(` + piece + `*)(?:#.*)?$`)
	anyField = regexp.MustCompile(`(?s)` + field)
)

// cut goes by the patterns.
func cut(line string) ([]string, api.Errno) {
	counts := closed.FindStringSubmatch(line)
	if counts == nil {
		return nil, api.ErrQuote
	}
	var l []string
	for _, f := range anyField.FindAllString(counts[1], -1) {
		l = append(l, strings.ReplaceAll(f, `"`, ""))
	}
	if len(l) > 16 {
		return nil, api.ErrMore
	}
	return l, api.OK
}

func checkOf(t *testing.T, line string, want []string, whyWant api.Errno) {
	t.Helper()
	if l, why := fields.Of(line); !slices.Equal(l, want) || why != whyWant {
		t.Fatalf("Of %.60q: %q, %d; not %q, %d", line, l, why, want, whyWant)
	}
}

// Promise 14.1: known lines.
func TestOf(t *testing.T) {
	tests := []struct {
		line string
		want []string
		why  api.Errno
	}{
		{"", nil, api.OK},
		{" \t ", nil, api.OK},
		{"#", nil, api.OK},
		{"  # \"", nil, api.OK},
		{"a", []string{"a"}, api.OK},
		{" a\t b ", []string{"a", "b"}, api.OK},
		{`a "b c"d #e`, []string{"a", "b cd"}, api.OK},
		{`""`, []string{""}, api.OK},
		{`"" ""`, []string{"", ""}, api.OK},
		{`""""`, []string{""}, api.OK},
		{` ""a`, []string{"a"}, api.OK},
		{`a""b`, []string{"ab"}, api.OK},
		{`""#`, []string{""}, api.OK},
		{`"a"#b`, []string{"a"}, api.OK},
		{"a#b", []string{"a"}, api.OK},
		{"a#b\"", []string{"a"}, api.OK},
		{`a"#"b`, []string{"a#b"}, api.OK},
		{`"#" #`, []string{"#"}, api.OK},
		{"\" \t\" x", []string{" \t", "x"}, api.OK},
		{`a"`, nil, api.ErrQuote},
		{`"`, nil, api.ErrQuote},
		{`"a`, nil, api.ErrQuote},
		{`"""`, nil, api.ErrQuote},
		{`a "b" "`, nil, api.ErrQuote},
		{`a"#`, nil, api.ErrQuote},
		{`a "#b`, nil, api.ErrQuote},
		{"a\nb\rc\vd\x00e", []string{"a\nb\rc\vd\x00e"}, api.OK},
		{"\xff\xc2 \xe2\x80\t\"\xff \xfe\"\xe2#\xff", []string{"\xff\xc2", "\xe2\x80", "\xff \xfe\xe2"}, api.OK},
		{"\u00a0\u2003a\u3000", []string{"\u00a0\u2003a\u3000"}, api.OK},
		{"\u0120\u0122b\u0123 \u201c", []string{"\u0120\u0122b\u0123", "\u201c"}, api.OK},
		{`'a b' \"c d\"`, []string{"'a", "b'", `\c d\`}, api.OK},
	}
	for _, x := range tests {
		checkOf(t, x.line, x.want, x.why)
	}
}

// Promise 14.1: as many fields as there may be, and one more; a mark that is not closed is told ahead of that, wherever it stands.
func TestManyFields(t *testing.T) {
	most := strings.TrimSpace(strings.Repeat("a ", 16))
	want := strings.Fields(most)
	ends := []struct {
		behind string
		want   []string
		why    api.Errno
	}{
		{"", want, api.OK},
		{"  ", want, api.OK},
		{" #b c", want, api.OK},
		{" #\"", want, api.OK},
		{"#", want, api.OK},
		{" b", nil, api.ErrMore},
		{` ""`, nil, api.ErrMore},
		{" b#", nil, api.ErrMore},
		{" b c d e f g", nil, api.ErrMore},
		{` b #"`, nil, api.ErrMore},
		{` "`, nil, api.ErrQuote},
		{` b "`, nil, api.ErrQuote},
		{` b c d e "f`, nil, api.ErrQuote},
		{` b c"d e" "f#`, nil, api.ErrQuote},
	}
	for _, x := range ends {
		checkOf(t, most+x.behind, x.want, x.why)
	}
	many := strings.Repeat("a ", 1<<20)
	checkOf(t, many, nil, api.ErrMore)
	checkOf(t, many+`"`, nil, api.ErrQuote)
	checkOf(t, strings.Repeat(`""`, 1<<20), []string{""}, api.OK)
	checkOf(t, strings.Repeat(`"`, 1<<20+1), nil, api.ErrQuote)
	checkOf(t, strings.Repeat(`"a b"c`, 1<<16), []string{strings.Repeat("a bc", 1<<16)}, api.OK)
}

// Promise 14.1: all short lines of a few bytes, and many longer ones, by patterns.
func TestOfByPatterns(t *testing.T) {
	const bytes = "a\" \t#\xff"
	lines := []string{""}
	from := 0
	for range 6 {
		to := len(lines)
		for _, s := range lines[from:to] {
			for i := range len(bytes) {
				lines = append(lines, s+bytes[i:i+1])
			}
		}
		from = to
	}
	r := rand.New(rand.NewSource(14))
	for range 20000 {
		line := make([]byte, r.Intn(80))
		for i := range line {
			line[i] = "aab     \t\"\"\"\"\n\xff#"[r.Intn(15+r.Intn(2))]
		}
		lines = append(lines, string(line))
	}
	told := map[api.Errno]int{}
	for _, line := range lines {
		want, why := cut(line)
		checkOf(t, line, want, why)
		told[why]++
	}
	if told[api.OK] == 0 || told[api.ErrQuote] == 0 || told[api.ErrMore] == 0 {
		t.Errorf("told: %v", told)
	}
}

// Promise 14.2: a field's text.
func TestText(t *testing.T) {
	tests := []struct {
		field, want string
		why         api.Errno
	}{
		{"", `""`, api.OK},
		{"a", "a", api.OK},
		{" ", `" "`, api.OK},
		{"\t", "\"\t\"", api.OK},
		{"#", `"#"`, api.OK},
		{"a b", `"a b"`, api.OK},
		{"a\t", "\"a\t\"", api.OK},
		{"a#", `"a#"`, api.OK},
		{"#a", `"#a"`, api.OK},
		{"'\\!$", "'\\!$", api.OK},
		{"\n\r\v\x00", "\n\r\v\x00", api.OK},
		{"\xff\xfe", "\xff\xfe", api.OK},
		{"\xff \xc2", "\"\xff \xc2\"", api.OK},
		{"\u00a0\u2003\u0122", "\u00a0\u2003\u0122", api.OK},
		{`"`, "", api.ErrQuote},
		{`a"`, "", api.ErrQuote},
		{`"a b"`, "", api.ErrQuote},
		{` #"`, "", api.ErrQuote},
		{"\xff\"", "", api.ErrQuote},
	}
	for _, x := range tests {
		if text, why := fields.Text(x.field); text != x.want || why != x.why {
			t.Errorf("Text of %q: %q, %d; not %q, %d", x.field, text, why, x.want, x.why)
		}
	}
	for b := range 256 {
		c := string([]byte{byte(b)})
		want, whyWant := c, api.OK
		switch b {
		case 9, 32, 35:
			want = `"` + c + `"`
		case 34:
			want, whyWant = "", api.ErrQuote
		}
		if text, why := fields.Text(c); text != want || why != whyWant {
			t.Errorf("Text of %q: %q, %d", c, text, why)
		}
	}
}

// Promise 14.2: fields joined; that there are too many is told ahead of one that can't be written.
func TestJoin(t *testing.T) {
	tests := []struct {
		l    []string
		want string
		why  api.Errno
	}{
		{nil, "", api.OK},
		{[]string{}, "", api.OK},
		{[]string{""}, `""`, api.OK},
		{[]string{"a"}, "a", api.OK},
		{[]string{"a", "#", "c"}, `a "#" c`, api.OK},
		{[]string{"", "b c", ""}, `"" "b c" ""`, api.OK},
		{[]string{`"`}, "", api.ErrQuote},
		{[]string{"a", "b", `c"`}, "", api.ErrQuote},
		{[]string{`"a`, "b"}, "", api.ErrQuote},
		{strings.Split("abcdefghijklmnop", ""), "a b c d e f g h i j k l m n o p", api.OK},
		{strings.Split("abcdefghijklmno\"", ""), "", api.ErrQuote},
		{strings.Split("abcdefghijklmnopq", ""), "", api.ErrMore},
		{strings.Split("\"bcdefghijklmnopq", ""), "", api.ErrMore},
		{make([]string, 1<<20), "", api.ErrMore},
	}
	for _, x := range tests {
		if line, why := fields.Join(x.l); line != x.want || why != x.why {
			t.Errorf("Join of %d fields: %q, %d; not %q, %d", len(x.l), line, why, x.want, x.why)
		}
	}
}

// some are as many fields as there may be, or fewer, of all bytes but a quotation mark.
func some(r *rand.Rand) []string {
	l := make([]string, r.Intn(17))
	for i := range l {
		f := make([]byte, r.Intn(4))
		for j := range f {
			if f[j] = " \t#ab\xff"[r.Intn(6)]; r.Intn(2) == 0 {
				f[j] = byte(35 + r.Intn(255))
			}
		}
		l[i] = string(f)
	}
	return l
}

// Promise 14.3: the fields of fields that are joined.
func TestThereAndBack(t *testing.T) {
	r := rand.New(rand.NewSource(143))
	for range 20000 {
		l := some(r)
		before := slices.Clone(l)
		line, why := fields.Join(l)
		if why != api.OK || !slices.Equal(l, before) {
			t.Fatalf("Join of %q: %d; they are now %q", before, why, l)
		}
		checkOf(t, line, before, api.OK)
	}
}

// Promise 14.4: blanks more, and what stands behind a #, have no part.
func TestNothingOfIt(t *testing.T) {
	r := rand.New(rand.NewSource(144))
	blanks := func(least int) string {
		s := ""
		for range least + r.Intn(3) {
			s += string(" \t"[r.Intn(2)])
		}
		return s
	}
	for range 20000 {
		l := some(r)
		line := blanks(0)
		for _, f := range l {
			text, _ := fields.Text(f)
			line += text + blanks(1)
		}
		checkOf(t, line, l, api.OK)
		checkOf(t, strings.TrimRight(line, " \t"), l, api.OK)
		for _, remark := range []string{"#", "#a b", "#\"", "#\"\"\"", "# #\xff\n" + strings.Repeat("a ", 20)} {
			checkOf(t, line+remark, l, api.OK)
			checkOf(t, strings.TrimRight(line, " \t")+remark, l, api.OK)
		}
	}
}
