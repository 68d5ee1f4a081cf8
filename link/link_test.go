package link_test

import (
	"math/rand"
	"regexp"
	"slices"
	"strconv"
	"strings"
	"testing"

	"noontide/api"
	"noontide/link"
)

var named = regexp.MustCompile(`^[A-Za-z_][A-Za-z0-9_+/.-]*$`)

// name goes by the words of chapter 21.
func name(s string) api.Errno {
	switch {
	case len(s) > 64:
		return api.ErrLong
	case !named.MatchString(s):
		return api.ErrName
	}
	return api.OK
}

// names are such as may be, and such as may not.
func names() []string {
	return []string{
		"A", "a", "B", "_", "A/B", "GMT+1", "Etc/GMT-14", strings.Repeat("a", 64),
		"", "1", "-", "-a", "a b", "/a", "a\xff", strings.Repeat("a", 65), strings.Repeat("b", 65), strings.Repeat(" ", 65),
	}
}

// compare asks all of a target and a name.
func compare(t *testing.T, target, other string) {
	t.Helper()
	l := api.Link{Target: target, Name: other}
	want := name(target)
	if want == api.OK {
		want = name(other)
	}
	if want == api.OK && target == other {
		want = api.ErrLoop
	}
	if may := want == api.OK; link.Right(l) != may {
		t.Fatalf("%v is right: %t", l, !may)
	}
	f, why := link.Fields(l)
	got, whyRead := link.Read([]string{target, other})
	if want != api.OK {
		if len(f) != 0 || why != api.ErrForm {
			t.Fatalf("Fields of %v: %q, %d", l, f, why)
		}
		if got != (api.Link{}) || whyRead != want {
			t.Fatalf("Read of %q, %q: %v, %d; not %d", target, other, got, whyRead, want)
		}
		return
	}
	if !slices.Equal(f, []string{target, other}) || why != api.OK {
		t.Fatalf("Fields of %v: %q, %d", l, f, why)
	}
	if got != l || whyRead != api.OK {
		t.Fatalf("Read of %q, %q: %v, %d", target, other, got, whyRead)
	}
}

// Promises 23.1 and 23.3: each two names, those that may be and those that may not.
func TestNames(t *testing.T) {
	for _, target := range names() {
		for _, other := range names() {
			compare(t, target, other)
		}
	}
}

// Promise 23.1: known fields; how many there are is told ahead of what is wrong with them.
func TestRead(t *testing.T) {
	tests := []struct {
		fields []string
		want   api.Link
		why    api.Errno
	}{
		{[]string{"A/B", "C"}, api.Link{Target: "A/B", Name: "C"}, api.OK},
		{[]string{"a", "A"}, api.Link{Target: "a", Name: "A"}, api.OK},
		{nil, api.Link{}, api.ErrShort},
		{[]string{"A"}, api.Link{}, api.ErrShort},
		{[]string{"1"}, api.Link{}, api.ErrShort},
		{[]string{"A", "B", "C"}, api.Link{}, api.ErrMore},
		{[]string{"1", "1", "1"}, api.Link{}, api.ErrMore},
		{slices.Repeat([]string{"A", "B"}, 500), api.Link{}, api.ErrMore},
		{[]string{"1", strings.Repeat("b", 65)}, api.Link{}, api.ErrName},
		{[]string{strings.Repeat("b", 65), "1"}, api.Link{}, api.ErrLong},
		{[]string{"A", "1"}, api.Link{}, api.ErrName},
		{[]string{"A", ""}, api.Link{}, api.ErrName},
		{[]string{"1", "1"}, api.Link{}, api.ErrName},
		{[]string{"B", "B"}, api.Link{}, api.ErrLoop},
	}
	for _, x := range tests {
		given := slices.Clone(x.fields)
		if l, why := link.Read(x.fields); l != x.want || why != x.why {
			t.Errorf("Read of %.200q: %v, %d; not %v, %d", x.fields, l, why, x.want, x.why)
		}
		if !slices.Equal(x.fields, given) {
			t.Errorf("Read changes %q to %q", given, x.fields)
		}
	}
}

// Promise 23.1: an answer is new memory.
func TestNewMemory(t *testing.T) {
	l := api.Link{Target: "A", Name: "B"}
	a, _ := link.Fields(l)
	b, _ := link.Fields(l)
	clear(a)
	if !slices.Equal(b, []string{"A", "B"}) {
		t.Errorf("%q is changed by another answer", b)
	}
}

// links are of texts as b<a, which leads from b to a.
func links(texts ...string) []api.Link {
	var l []api.Link
	for _, s := range texts {
		target, other, _ := strings.Cut(s, "<")
		l = append(l, api.Link{Target: target, Name: other})
	}
	return l
}

// Promise 23.2: known ways.
func TestFollow(t *testing.T) {
	tests := []struct {
		links []api.Link
		from  string
		want  string
		why   api.Errno
	}{
		{nil, "x", "x", api.OK},
		{nil, "", "", api.OK},
		{links("b<a", "c<b"), "a", "c", api.OK},
		{links("c<b", "b<a"), "a", "c", api.OK},
		{links("b<a", "c<b"), "b", "c", api.OK},
		{links("b<a", "c<b"), "c", "c", api.OK},
		{links("b<a", "c<b"), "d", "d", api.OK},
		{links("b<a", "c<b"), "A", "A", api.OK},
		{links("b<a", "c<b", "a<c"), "a", "", api.ErrLoop},
		{links("b<a", "c<b", "a<c"), "c", "", api.ErrLoop},
		{links("b<a", "c<b", "a<c"), "d", "d", api.OK},
		{links("b<a", "c<b", "b<c"), "a", "", api.ErrLoop},
		{links("a<a"), "a", "", api.ErrLoop},
		{links("a<a"), "b", "b", api.OK},
		{links("a<b", "a<a"), "b", "", api.ErrLoop},
		{links("b<a", "a<a"), "a", "b", api.OK},
		{links("a<a", "b<a"), "a", "", api.ErrLoop},
		{links("b<a", "c<a", "d<b", "e<b"), "a", "d", api.OK},
		{links("b<a", "b<a", "b<a"), "a", "b", api.OK},
		{links("b<a", "c<b", "a<b"), "a", "c", api.OK},
		{links("b<a", "a<b", "c<b"), "a", "", api.ErrLoop},
		{links("<"), "", "", api.ErrLoop},
		{links("<a"), "a", "", api.OK},
		{links("x y<", "<a"), "a", "x y", api.OK},
		{links("\xfe<\xff"), "\xff", "\xfe", api.OK},
		{links("\xfe<\xff"), "\ufffd", "\ufffd", api.OK},
	}
	for _, x := range tests {
		given := slices.Clone(x.links)
		if end, why := link.Follow(x.links, x.from); end != x.want || why != x.why {
			t.Errorf("Follow of %q from %q: %q, %d; not %q, %d", x.links, x.from, end, why, x.want, x.why)
		}
		if !slices.Equal(x.links, given) {
			t.Errorf("Follow changes %q to %q", given, x.links)
		}
	}
}

// follow goes by the words: who went as many steps as there are links, and goes on, comes nowhere out.
func follow(l []api.Link, from string) (string, api.Errno) {
	for step := 0; ; step++ {
		at := slices.IndexFunc(l, func(one api.Link) bool { return one.Name == from })
		switch {
		case at < 0:
			return from, api.OK
		case step > len(l):
			return "", api.ErrLoop
		}
		from = l[at].Target
	}
}

// Promises 23.2 and 23.4: any links of few names; where one comes out no link leads on, and from each name on the way one comes out at the same.
func TestFollowAny(t *testing.T) {
	r := rand.New(rand.NewSource(23))
	all := []string{"", "a", "A", "b", "c", "d", "e", "x y", "\xff", "f"}
	told := map[api.Errno]int{}
	for range 50000 {
		some := all[:2+r.Intn(len(all)-1)]
		l := make([]api.Link, r.Intn(12))
		for i := range l {
			l[i] = api.Link{Target: some[r.Intn(len(some))], Name: some[r.Intn(len(some))]}
		}
		for _, from := range all {
			want, whyWant := follow(l, from)
			end, why := link.Follow(l, from)
			if end != want || why != whyWant {
				t.Fatalf("Follow of %q from %q: %q, %d; not %q, %d", l, from, end, why, want, whyWant)
			}
			told[why]++
			if at := slices.IndexFunc(l, func(one api.Link) bool { return one.Name == from }); at >= 0 {
				if next, whyNext := link.Follow(l, l[at].Target); next != end || whyNext != why {
					t.Fatalf("Follow of %q: from %q %q, %d; from %q %q, %d", l, from, end, why, l[at].Target, next, whyNext)
				}
			}
			if why == api.OK && slices.ContainsFunc(l, func(one api.Link) bool { return one.Name == end }) {
				t.Fatalf("Follow of %q from %q: %q, from which a link leads on", l, from, end)
			}
		}
	}
	if told[api.OK] == 0 || told[api.ErrLoop] == 0 {
		t.Error(told)
	}
}

// Promise 23.2: long ways, and long ways round.
func TestFollowFar(t *testing.T) {
	const far = 200000
	var l []api.Link
	for i := range far {
		l = append(l, api.Link{Target: "n" + strconv.Itoa(i+1), Name: "n" + strconv.Itoa(i)})
	}
	rand.New(rand.NewSource(23)).Shuffle(far, func(i, j int) { l[i], l[j] = l[j], l[i] })
	if end, why := link.Follow(l, "n0"); end != "n"+strconv.Itoa(far) || why != api.OK {
		t.Errorf("the end is %q, %d", end, why)
	}
	for _, to := range []int{0, 1, far / 2, far} {
		round := append(slices.Clone(l), api.Link{Target: "n" + strconv.Itoa(to), Name: "n" + strconv.Itoa(far)})
		if end, why := link.Follow(round, "n0"); end != "" || why != api.ErrLoop {
			t.Errorf("with a link back to %d the end is %q, %d", to, end, why)
		}
	}
}
