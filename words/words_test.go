package words_test

import (
	"math"
	"math/rand"
	"slices"
	"strings"
	"testing"

	"noontide/api"
	"noontide/words"
)

// capitals are the letters that are like small ones, in order.
const capitals = "ABCDEFGHIJKLMNOPQRSTUVWXYZ"

// small turns these letters, and no other byte, into small ones.
func small(s string) string {
	b := []byte(s)
	for i := range b {
		if at := strings.IndexByte(capitals, b[i]); at >= 0 {
			b[i] = "abcdefghijklmnopqrstuvwxyz"[at]
		}
	}
	return string(b)
}

// cases are some ways to write a word.
func cases(s string) []string {
	mixed := []byte(small(s))
	for i := 1; i < len(mixed); i += 2 {
		mixed[i] = strings.ToUpper(string(mixed[i]))[0]
	}
	return []string{s, small(s), strings.ToUpper(s), string(mixed)}
}

// meant tells by the words alone which one is meant.
func meant(s string, list []string) (int, api.Errno) {
	var all []string
	for _, w := range list {
		all = append(all, small(w))
	}
	if at := slices.Index(all, small(s)); at >= 0 && s != "" {
		return at, api.OK
	}
	begun := map[string]bool{}
	for _, w := range all {
		if strings.HasPrefix(w, small(s)) {
			begun[w] = true
		}
	}
	if len(begun) != 1 || s == "" {
		return 0, api.ErrWord
	}
	return slices.IndexFunc(all, func(w string) bool { return begun[w] }), api.OK
}

// Promise 15.1: two bytes are alike just if they are one, or one letter.
func TestSameBytes(t *testing.T) {
	for a := range 256 {
		for b := range 256 {
			x, y := string([]byte{byte(a)}), string([]byte{byte(b)})
			want := small(x) == small(y)
			for _, pair := range [][2]string{{x, y}, {"q" + x, "Q" + y}, {x + "Q", y + "q"}} {
				if same := words.Same(pair[0], pair[1]); same != want {
					t.Fatalf("Same of %q and %q: %t", pair[0], pair[1], same)
				}
			}
		}
	}
}

// Promise 15.1: words that are the same, and those that are not.
func TestSame(t *testing.T) {
	tests := []struct {
		a, b string
		want bool
	}{
		{"", "", true},
		{"", "a", false},
		{"a", "ab", false},
		{"ab", "b", false},
		{"ab", "ba", false},
		{"aB", "Ab", true},
		{"January", "jANUARY", true},
		{"January", "January ", false},
		{"[", "{", false},
		{"@", "`", false},
		{"\x00", " ", false},
		{"\u00e9", "\u00e9", true},
		{"\u00e9", "\u00c9", false},
		{"k", "\u212a", false},
		{"s", "\u017f", false},
		{"\xff", "\xfe", false},
		{"\xff", "\ufffd", false},
		{"a\xff", "A\xff", true},
	}
	for _, x := range tests {
		if words.Same(x.a, x.b) != x.want || words.Same(x.b, x.a) != x.want {
			t.Errorf("Same of %q and %q is not %t", x.a, x.b, x.want)
		}
	}
}

// Promise 15.1: which word is meant.
func TestMatch(t *testing.T) {
	tests := []struct {
		s    string
		list []string
		want int
		why  api.Errno
	}{
		{"a", nil, 0, api.ErrWord},
		{"", nil, 0, api.ErrWord},
		{"", []string{""}, 0, api.ErrWord},
		{"", []string{"a"}, 0, api.ErrWord},
		{"", []string{"", "a"}, 0, api.ErrWord},
		{"a", []string{""}, 0, api.ErrWord},
		{"a", []string{"b", "", "abc"}, 2, api.OK},
		{"b", []string{"abc", "cab"}, 0, api.ErrWord},
		{"abcd", []string{"abc"}, 0, api.ErrWord},
		{"in", []string{"inner", "in", "x"}, 1, api.OK},
		{"in", []string{"in", "inner"}, 0, api.OK},
		{"IN", []string{"inner", "into", "iN"}, 2, api.OK},
		{"i", []string{"inner", "in"}, 0, api.ErrWord},
		{"inn", []string{"in", "inner"}, 1, api.OK},
		{"i", []string{"x", "In", "iN"}, 1, api.OK},
		{"in", []string{"x", "In", "iN"}, 1, api.OK},
		{"i", []string{"In", "inner", "iN"}, 0, api.ErrWord},
		{"i", []string{"In", "iN", "inner"}, 0, api.ErrWord},
		{"i", []string{"inner", "In", "iN"}, 0, api.ErrWord},
		{"x", []string{"y", "x", "X"}, 1, api.OK},
		{"\xff", []string{"\xfea", "\xffb"}, 1, api.OK},
		{"\xff", []string{"\xfe", "\ufffd"}, 0, api.ErrWord},
		{"\u00e9", []string{"\u00c9t\u00e9", "\u00e9t\u00e9"}, 1, api.OK},
		{"[", []string{"{a", "[a"}, 1, api.OK},
	}
	for _, x := range tests {
		before := slices.Clone(x.list)
		if i, why := words.Match(x.s, x.list...); i != x.want || why != x.why {
			t.Errorf("Match of %q with %q: %d, %d; not %d, %d", x.s, x.list, i, why, x.want, x.why)
		}
		if !slices.Equal(x.list, before) {
			t.Errorf("the words %q are now %q", before, x.list)
		}
	}
}

// Promise 15.1: many lists of short words, by the words alone.
func TestMatchLists(t *testing.T) {
	short := []string{""}
	for i := 0; len(short) < 1+4+16+64; i++ {
		for _, c := range []string{"a", "A", "b", "\xff"} {
			short = append(short, short[i]+c)
		}
	}
	r := rand.New(rand.NewSource(15))
	told := map[api.Errno]int{}
	for range 4000 {
		list := make([]string, r.Intn(5))
		for i := range list {
			list[i] = short[r.Intn(len(short))]
		}
		for _, s := range short {
			want, whyWant := meant(s, list)
			if i, why := words.Match(s, list...); i != want || why != whyWant {
				t.Fatalf("Match of %q with %q: %d, %d; not %d, %d", s, list, i, why, want, whyWant)
			}
			told[whyWant]++
		}
	}
	if told[api.OK] == 0 || told[api.ErrWord] == 0 {
		t.Errorf("told: %v", told)
	}
}

// kind is the months, or the weekdays: names are all of them, from the number first on, and least tells for each the fewest bytes that mean it.
type kind struct {
	names []string
	least []int
	first int
	read  func(string) (int, api.Errno)
	text  func(int) string
}

func kinds() []kind {
	months := []string{"January", "February", "March", "April", "May", "June", "July", "August", "September", "October", "November", "December"}
	weekdays := []string{"Sunday", "Monday", "Tuesday", "Wednesday", "Thursday", "Friday", "Saturday"}
	return []kind{
		{months, []int{2, 1, 3, 2, 3, 3, 3, 2, 1, 1, 1, 1}, 1, words.Month, words.MonthText},
		{weekdays, []int{2, 1, 2, 1, 2, 1, 2}, 0, words.Weekday, words.WeekdayText},
	}
}

// Promises 15.2 and 15.4: each beginning of each month and weekday, from which number of bytes on it means that one.
func TestBeginnings(t *testing.T) {
	for _, k := range kinds() {
		for i, name := range k.names {
			for n := range len(name) + 1 {
				want, whyWant := i+k.first, api.OK
				if n < k.least[i] {
					want, whyWant = 0, api.ErrWord
				}
				for _, s := range cases(name[:n]) {
					if got, why := k.read(s); got != want || why != whyWant {
						t.Errorf("%q means %d, %d; not %d, %d", s, got, why, want, whyWant)
					}
				}
			}
		}
	}
}

// Promise 15.2: what means none.
func TestNone(t *testing.T) {
	for _, k := range kinds() {
		wrong := []string{"", " ", "J", "j", "Ju", "Ma", "T", "t", "x", "1", "0", "12", "-", "\xff", "\u017f", "\u017fu", "anuary", "unday", "Jan Feb", "Sun,"}
		for _, name := range k.names {
			wrong = append(wrong, name+"x", name+" ", " "+name, name+name, name+"\x00", name[:3]+".", name[1:], name[:3]+"\xff", "\u212a"+name, strings.Repeat(name, 1<<16))
		}
		for _, s := range wrong {
			if i, why := k.read(s); i != 0 || why != api.ErrWord {
				t.Errorf("%.20q means %d, %d", s, i, why)
			}
		}
	}
}

// Promises 15.2 and 15.3: the texts, and what they are read as.
func TestTexts(t *testing.T) {
	for _, k := range kinds() {
		for i, name := range k.names {
			text := k.text(i + k.first)
			if text != name[:3] {
				t.Errorf("the text of %s: %q", name, text)
			}
			for _, s := range cases(text) {
				if back, why := k.read(s); back != i+k.first || why != api.OK {
					t.Errorf("%q means %d, %d", s, back, why)
				}
			}
		}
		end := k.first + len(k.names)
		for _, i := range []int{k.first - 1, k.first - 2, end, end + 1, 1 << 32, 1<<32 + 1, -1 << 32, math.MaxInt, math.MinInt} {
			if text := k.text(i); text != "" {
				t.Errorf("the text of %d: %q", i, text)
			}
		}
	}
}
