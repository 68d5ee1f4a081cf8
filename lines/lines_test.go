package lines_test

import (
	"math/rand"
	"slices"
	"strings"
	"testing"

	"noontide/api"
	"noontide/lines"
)

// shortTexts are all texts of these bytes that have no more than so many.
func shortTexts(bytes string, most int) []string {
	texts := []string{""}
	from := 0
	for range most {
		to := len(texts)
		for _, s := range texts[from:to] {
			for i := range len(bytes) {
				texts = append(texts, s+bytes[i:i+1])
			}
		}
		from = to
	}
	return texts
}

// cut goes byte by byte.
func cut(src string) []string {
	var l []string
	line := ""
	for i := range len(src) {
		if src[i] != 10 {
			line += src[i : i+1]
			continue
		}
		l = append(l, line)
		line = ""
	}
	if line != "" {
		l = append(l, line)
	}
	return l
}

// Promise 13.1: what stands between line feeds, and behind the last one.
func TestOf(t *testing.T) {
	tests := []struct {
		src  string
		want []string
	}{
		{"", nil},
		{"a", []string{"a"}},
		{"a\n", []string{"a"}},
		{"a\n\nb", []string{"a", "", "b"}},
		{"\n", []string{""}},
		{"\n\n", []string{"", ""}},
		{"\na", []string{"", "a"}},
		{"a\n ", []string{"a", " "}},
		{"a\r\nb\r", []string{"a\r", "b\r"}},
		{"a\vb\fc\x00d", []string{"a\vb\fc\x00d"}},
		{"a\u2028b\u0085c", []string{"a\u2028b\u0085c"}},
		{"\xff\n\xc2\n\xe2\x80", []string{"\xff", "\xc2", "\xe2\x80"}},
	}
	for _, x := range tests {
		if l := lines.Of(x.src); !slices.Equal(l, x.want) {
			t.Errorf("Of %q: %q, not %q", x.src, l, x.want)
		}
	}
	for _, src := range shortTexts("a\n\r\xff", 6) {
		if l, want := lines.Of(src), cut(src); !slices.Equal(l, want) {
			t.Errorf("Of %q: %q, not %q", src, l, want)
		}
	}
}

// Promise 13.1: what may stand in a line, byte by byte, wherever it stands.
func TestCheckBytes(t *testing.T) {
	for b := range 256 {
		want := api.ErrByte
		if b == 9 || b >= 32 && b <= 126 {
			want = api.OK
		}
		c := string([]byte{byte(b)})
		for _, line := range []string{c, c + "ab", "a" + c + "b", "ab" + c, c + c} {
			if why := lines.Check(line); why != want {
				t.Errorf("Check of %q: %d, not %d", line, why, want)
			}
		}
	}
	for _, line := range []string{"\u00a0", "\u0661", "a\u2028", "\ufffd", "\U0001f600", "\xc2", "\xe2\x82", "a\xed\xa0\x80"} {
		if why := lines.Check(line); why != api.ErrByte {
			t.Errorf("Check of %q: %d", line, why)
		}
	}
	if why := lines.Check(""); why != api.OK {
		t.Errorf("Check of an empty line: %d", why)
	}
}

// Promise 13.1: how long a line may be; that it is too long is told ahead of a byte that may not be.
func TestCheckLength(t *testing.T) {
	tests := []struct {
		line string
		want api.Errno
	}{
		{strings.Repeat("a", 510), api.OK},
		{strings.Repeat("a", 511), api.OK},
		{strings.Repeat("a", 512), api.ErrLong},
		{strings.Repeat("\x00", 511), api.ErrByte},
		{strings.Repeat("\x00", 512), api.ErrLong},
		{strings.Repeat("\u00e9", 255), api.ErrByte},
		{strings.Repeat("\u00e9", 256), api.ErrLong},
		{strings.Repeat("a", 1<<20), api.ErrLong},
	}
	for _, x := range tests {
		if why := lines.Check(x.line); why != x.want {
			t.Errorf("Check of %d bytes, %.3q and so on: %d, not %d", len(x.line), x.line, why, x.want)
		}
	}
}

// Promise 13.2: the first line that is not right.
func TestFirst(t *testing.T) {
	most := strings.Repeat("a", 511)
	tests := []struct {
		src  string
		want api.Fault
	}{
		{"", api.Fault{}},
		{"\n", api.Fault{}},
		{"a\nb", api.Fault{}},
		{most + "\n" + most + "\n" + most, api.Fault{}},
		{"\xff", api.Fault{Line: 1, Err: api.ErrByte}},
		{"a\n\xff\n" + most + "a", api.Fault{Line: 2, Err: api.ErrByte}},
		{"a\n" + most + "a\n\xff", api.Fault{Line: 2, Err: api.ErrLong}},
		{"a\n\n\nb\r\n", api.Fault{Line: 4, Err: api.ErrByte}},
		{"a\n\x7f", api.Fault{Line: 2, Err: api.ErrByte}},
		{"a\n\n" + most + "\xff\n", api.Fault{Line: 3, Err: api.ErrLong}},
	}
	for _, x := range tests {
		if fault := lines.First(x.src); fault != x.want {
			t.Errorf("First of %.20q: %v, not %v", x.src, fault, x.want)
		}
	}
}

// Promise 13.2: how long a source may be; that it is too long is told ahead of any line.
func TestFirstLength(t *testing.T) {
	whole := strings.Repeat(strings.Repeat("a", 511)+"\n", 2048)
	tests := []struct {
		src  string
		want api.Fault
	}{
		{whole, api.Fault{}},
		{whole[1:] + "b", api.Fault{}},
		{whole[1:] + "\x00", api.Fault{Line: 2049, Err: api.ErrByte}},
		{"\x00" + whole[1:], api.Fault{Line: 1, Err: api.ErrByte}},
		{whole + "\n", api.Fault{Err: api.ErrLong}},
		{whole + "b", api.Fault{Err: api.ErrLong}},
		{"\x00" + whole, api.Fault{Err: api.ErrLong}},
		{strings.Repeat("\n", 1<<20), api.Fault{}},
		{strings.Repeat("\n", 1<<20+1), api.Fault{Err: api.ErrLong}},
		{strings.Repeat("a", 1<<20), api.Fault{Line: 1, Err: api.ErrLong}},
		{strings.Repeat("a", 1<<24), api.Fault{Err: api.ErrLong}},
	}
	for i, x := range tests {
		if fault := lines.First(x.src); fault != x.want {
			t.Errorf("First of source %d: %v, not %v", i, fault, x.want)
		}
	}
}

// Promise 13.2: a line feed behind each one.
func TestJoin(t *testing.T) {
	tests := []struct {
		l    []string
		want string
	}{
		{nil, ""},
		{[]string{}, ""},
		{[]string{""}, "\n"},
		{[]string{"a"}, "a\n"},
		{[]string{"a", ""}, "a\n\n"},
		{[]string{"", "a", "b"}, "\na\nb\n"},
		{[]string{"a\nb", "\xff\r"}, "a\nb\n\xff\r\n"},
	}
	for _, x := range tests {
		if src := lines.Join(x.l); src != x.want {
			t.Errorf("Join of %q: %q, not %q", x.l, src, x.want)
		}
	}
}

// Promise 13.3: the lines of lines that are joined, of all bytes but a line feed.
func TestThereAndBack(t *testing.T) {
	r := rand.New(rand.NewSource(13))
	for range 4000 {
		l := make([]string, r.Intn(5))
		for i := range l {
			line := make([]byte, r.Intn(4))
			for j := range line {
				line[j] = byte(11 + r.Intn(255))
			}
			l[i] = string(line)
		}
		before := slices.Clone(l)
		if back := lines.Of(lines.Join(l)); !slices.Equal(back, before) {
			t.Fatalf("Of of Join of %q: %q", before, back)
		}
		if !slices.Equal(l, before) {
			t.Fatalf("the lines %q are now %q", before, l)
		}
	}
}

// Promise 13.4: all lines ahead of the first fault are right, and that one is not.
func TestAheadOfFirst(t *testing.T) {
	r := rand.New(rand.NewSource(134))
	found := 0
	for range 4000 {
		l := make([]string, 1+r.Intn(5))
		for i := range l {
			l[i] = strings.Repeat(string(rune('a'+i)), []int{0, 1, 511, 512}[r.Intn(4)]) + []string{"", "", "\x80"}[r.Intn(3)]
		}
		fault := lines.First(lines.Join(l))
		right := len(l)
		if fault != (api.Fault{}) {
			found++
			right = fault.Line - 1
			if fault.Err == api.OK || lines.Check(l[right]) != fault.Err {
				t.Fatalf("line %d: %d", fault.Line, fault.Err)
			}
		}
		for _, line := range l[:right] {
			if lines.Check(line) != api.OK {
				t.Fatalf("%.20q is ahead of line %d", line, fault.Line)
			}
		}
	}
	if found == 0 || found == 4000 {
		t.Errorf("%d faults", found)
	}
}
