package seam_test

import (
	"math"
	"math/rand"
	"slices"
	"testing"

	"noontide/api"
	"noontide/seam"
)

// edges are seconds at which the spans of these tests begin and end: at both ends of the numbers, and around 0.
func edges() []int64 {
	return []int64{math.MinInt64, -2, -1, 0, 1, 2, 3, math.MaxInt64}
}

// values are unlike each other in one thing alone, or in all.
func values() []api.Value {
	return []api.Value{{Abbr: "X"}, {Abbr: "Y"}, {Off: 1, Abbr: "X"}, {Save: 1, Abbr: "X"}, {Off: 2, Save: 2, Abbr: "Z"}}
}

func of(from, to int64, abbr string) api.Info {
	return api.Info{Span: api.Span{From: from, To: to}, Value: api.Value{Abbr: abbr}}
}

func has(i api.Info, t int64) bool {
	return i.Span.From <= t && t < i.Span.To
}

// some is a list of a few infos of these edges and values, in no order, such as may not be with them.
func some(random *rand.Rand) []api.Info {
	e, v := edges(), values()
	var l []api.Info
	for range random.Intn(6) {
		l = append(l, api.Info{Span: api.Span{From: e[random.Intn(len(e))], To: e[random.Intn(len(e))]}, Value: v[random.Intn(len(v))]})
	}
	return l
}

// inOrder is a list of infos one behind the other: it is sound, but where two that touch have one value.
func inOrder(random *rand.Rand) []api.Info {
	e, v := edges(), values()
	var l []api.Info
	for at := range e[1:] {
		switch last := len(l) - 1; random.Intn(4) {
		case 0, 1:
			l = append(l, api.Info{Span: api.Span{From: e[at], To: e[at+1]}, Value: v[random.Intn(len(v))]})
		case 2:
			if last >= 0 && l[last].Span.To == e[at] {
				l[last].Span.To = e[at+1]
			}
		}
	}
	return l
}

// parts are all lists of a few of a sound one.
func parts(random *rand.Rand, l []api.Info) []api.Info {
	return slices.DeleteFunc(slices.Clone(l), func(api.Info) bool { return random.Intn(2) == 0 })
}

// isSound holds each one against the one ahead, by the words.
func isSound(l []api.Info) bool {
	for place, i := range l {
		if i.Span.From >= i.Span.To {
			return false
		}
		if place == 0 {
			continue
		}
		switch ahead := l[place-1]; {
		case i.Span.From < ahead.Span.To:
			return false
		case i.Span.From == ahead.Span.To && i.Value.Off == ahead.Value.Off && i.Value.Save == ahead.Value.Save && i.Value.Abbr == ahead.Value.Abbr:
			return false
		}
	}
	return true
}

// Promise 39.1: what is sound.
func TestSound(t *testing.T) {
	tests := []struct {
		l    []api.Info
		want bool
	}{
		{nil, true},
		{[]api.Info{}, true},
		{[]api.Info{{}}, false},
		{[]api.Info{of(0, 1, "X")}, true},
		{[]api.Info{of(1, 1, "X")}, false},
		{[]api.Info{of(1, 0, "X")}, false},
		{[]api.Info{of(math.MinInt64, math.MaxInt64, "X")}, true},
		{[]api.Info{of(math.MaxInt64, math.MinInt64, "X")}, false},
		{[]api.Info{of(0, 5, "X"), of(5, 9, "X")}, false},
		{[]api.Info{of(0, 5, "X"), of(5, 9, "Y")}, true},
		{[]api.Info{of(0, 5, "X"), of(6, 9, "X")}, true},
		{[]api.Info{of(0, 5, "X"), of(6, 9, "Y")}, true},
		{[]api.Info{of(0, 5, "X"), of(4, 9, "Y")}, false},
		{[]api.Info{of(0, 5, "X"), of(0, 5, "X")}, false},
		{[]api.Info{of(5, 9, "Y"), of(0, 5, "X")}, false},
		{[]api.Info{of(0, 5, "X"), of(5, 5, "Y")}, false},
		{[]api.Info{of(0, 5, "X"), of(5, 5, "Y"), of(5, 9, "Z")}, false},
		{[]api.Info{of(0, 1, "X"), of(1, 2, "Y"), of(2, 3, "X"), of(3, 4, "X")}, false},
		{[]api.Info{of(0, 1, "X"), of(1, 2, "Y"), of(2, 3, "X"), of(3, 4, "Y")}, true},
		{[]api.Info{of(0, 1, "X"), of(2, 3, "Y"), of(1, 2, "X")}, false},
		{[]api.Info{of(math.MinInt64, 0, "X"), of(0, math.MaxInt64, "Y")}, true},
	}
	for _, x := range tests {
		if sound := seam.Sound(x.l); sound != x.want {
			t.Errorf("Sound of %v: %t", x.l, sound)
		}
	}
	v := values()
	for a := range v {
		for b := range v {
			l := []api.Info{{Span: api.Span{To: 5}, Value: v[a]}, {Span: api.Span{From: 5, To: 9}, Value: v[b]}}
			if sound := seam.Sound(l); sound != (a != b) {
				t.Errorf("Sound of %v: %t", l, sound)
			}
		}
	}
}

// Promise 39.1: any infos, in order or not.
func TestSoundOfAny(t *testing.T) {
	random := rand.New(rand.NewSource(39))
	sound := 0
	for range 20000 {
		for _, l := range [][]api.Info{some(random), inOrder(random)} {
			if got := seam.Sound(l); got != isSound(l) {
				t.Fatalf("Sound of %v: %t", l, got)
			}
			if isSound(l) {
				sound++
			}
		}
	}
	if sound < 5000 {
		t.Error("sound are ", sound)
	}
}

// runs are the set of the seconds that are kept: between two edges all seconds are alike, so each edge stands for those up to the next one.
func runs(kept func(t int64) bool) []api.Span {
	var l []api.Span
	e := edges()
	for i, from := range e[:len(e)-1] {
		last := len(l) - 1
		switch {
		case !kept(from):
		case last >= 0 && l[last].To == from:
			l[last].To = e[i+1]
		default:
			l = append(l, api.Span{From: from, To: e[i+1]})
		}
	}
	return l
}

// lies tells whether a second lies in one of the infos whose span may be.
func lies(l []api.Info, t int64) bool {
	return slices.ContainsFunc(l, func(i api.Info) bool { return has(i, t) })
}

// Promise 39.1: of any infos, second by second; a span that may not be has none.
func TestPatchesAndMissing(t *testing.T) {
	random := rand.New(rand.NewSource(391))
	lists := [][]api.Info{nil, {}, {{}}}
	for range 2000 {
		lists = append(lists, some(random), inOrder(random))
	}
	for _, l := range lists {
		want := runs(func(at int64) bool { return lies(l, at) })
		if got := seam.Patches(l); !slices.Equal(got, want) {
			t.Fatalf("Patches of %v: %v; not %v", l, got, want)
		}
		for _, from := range edges() {
			for _, to := range edges() {
				want := runs(func(at int64) bool { return from <= at && at < to && !lies(l, at) })
				if got := seam.Missing(l, api.Span{From: from, To: to}); !slices.Equal(got, want) {
					t.Fatalf("Missing of %v from %d to %d: %v; not %v", l, from, to, got, want)
				}
			}
		}
	}
}

// merged goes by the words: no two may meet, or touch and have one value.
func merged(a, b []api.Info) ([]api.Info, api.Errno) {
	if !isSound(a) || !isSound(b) {
		return nil, api.ErrForm
	}
	var l []api.Info
	for _, i := range slices.Concat(a, b) {
		if slices.Contains(l, i) {
			continue
		}
		place := 0
		for place < len(l) && l[place].Span.From < i.Span.From {
			place++
		}
		l = slices.Insert(l, place, i)
	}
	for _, x := range l {
		for _, y := range l {
			touch := x.Span.To == y.Span.From
			if x != y && max(x.Span.From, y.Span.From) < min(x.Span.To, y.Span.To) || touch && x.Value == y.Value {
				return nil, api.ErrState
			}
		}
	}
	return l, api.OK
}

func compareMerge(t *testing.T, a, b []api.Info) api.Errno {
	t.Helper()
	want, whyNot := merged(a, b)
	got, why := seam.Merge(a, b)
	if !slices.Equal(got, want) || why != whyNot {
		t.Fatalf("Merge of %v and %v: %v, %d; not %v, %d", a, b, got, why, want, whyNot)
	}
	back, why := seam.Merge(b, a)
	if !slices.Equal(back, want) || why != whyNot {
		t.Fatalf("Merge of %v and %v: %v, %d; not %v, %d", b, a, back, why, want, whyNot)
	}
	for _, at := range edges()[:len(edges())-1] {
		of := func(l []api.Info) api.Info {
			place := slices.IndexFunc(l, func(i api.Info) bool { return has(i, at) })
			if place < 0 {
				return api.Info{}
			}
			return l[place]
		}
		if x := of(got); why == api.OK && x != of(a) && x != of(b) || why == api.OK && lies(got, at) != (lies(a, at) || lies(b, at)) {
			t.Fatalf("Merge of %v and %v: %v", a, b, got)
		}
	}
	return why
}

// Promises 39.2, 39.4 and 39.5: any two lists, and two parts of one sound list; either way round.
func TestMerge(t *testing.T) {
	random := rand.New(rand.NewSource(392))
	told := map[api.Errno]int{}
	for range 20000 {
		whole := inOrder(random)
		pairs := [][2][]api.Info{{some(random), inOrder(random)}, {whole, inOrder(random)}, {parts(random, whole), parts(random, whole)}, {parts(random, whole), inOrder(random)}}
		for _, p := range pairs {
			told[compareMerge(t, p[0], p[1])]++
		}
		if l, why := seam.Merge(whole, whole); isSound(whole) && (!slices.Equal(l, whole) || why != api.OK) {
			t.Fatalf("Merge of %v with itself: %v, %d", whole, l, why)
		}
	}
	for _, why := range []api.Errno{api.OK, api.ErrForm, api.ErrState} {
		if told[why] < 5000 {
			t.Errorf("%d is told %d times", why, told[why])
		}
	}
}

// Promise 39.2: what is known: none, one of both, both; the one unsound, or the other, told ahead of all together.
func TestMergeKnown(t *testing.T) {
	x, y, z, wrong := of(0, 5, "X"), of(5, 9, "Y"), of(12, 15, "Y"), of(3, 3, "X")
	tests := []struct {
		a, b, want []api.Info
		why        api.Errno
	}{
		{nil, nil, nil, api.OK},
		{nil, []api.Info{x}, []api.Info{x}, api.OK},
		{[]api.Info{x}, []api.Info{x}, []api.Info{x}, api.OK},
		{[]api.Info{x, y}, []api.Info{y, z}, []api.Info{x, y, z}, api.OK},
		{[]api.Info{x, z}, []api.Info{y}, []api.Info{x, y, z}, api.OK},
		{[]api.Info{x, y}, []api.Info{of(9, 12, "Y")}, nil, api.ErrState},
		{[]api.Info{x}, []api.Info{of(0, 5, "Y")}, nil, api.ErrState},
		{[]api.Info{x}, []api.Info{of(4, 6, "X")}, nil, api.ErrState},
		{[]api.Info{x}, []api.Info{of(-9, 9, "X")}, nil, api.ErrState},
		{[]api.Info{wrong}, []api.Info{x}, nil, api.ErrForm},
		{[]api.Info{x}, []api.Info{wrong}, nil, api.ErrForm},
		{[]api.Info{wrong}, nil, nil, api.ErrForm},
		{nil, []api.Info{y, x}, nil, api.ErrForm},
		{[]api.Info{of(4, 6, "X")}, []api.Info{x, x}, nil, api.ErrForm},
		{[]api.Info{of(0, 5, "X"), of(5, 9, "X")}, []api.Info{of(4, 6, "X")}, nil, api.ErrForm},
	}
	for _, x := range tests {
		if l, why := seam.Merge(x.a, x.b); !slices.Equal(l, x.want) || why != x.why {
			t.Errorf("Merge of %v and %v: %v, %d; not %v, %d", x.a, x.b, l, why, x.want, x.why)
		}
	}
}

// Promise 39.2: many infos, by turns of the one list and of the other.
func TestMergeMany(t *testing.T) {
	var a, b, want []api.Info
	for at := range int64(200000) {
		i := of(at, at+1, string(rune('A'+at%20)))
		want = append(want, i)
		if at%3 != 0 {
			a = append(a, i)
		}
		if at%3 != 1 {
			b = append(b, i)
		}
	}
	if l, why := seam.Merge(a, b); !slices.Equal(l, want) || why != api.OK {
		t.Errorf("%d infos, %d", len(l), why)
	}
}

// cut goes by the words, in the order of the list.
func cut(l []api.Info, s api.Span) []api.Info {
	var c []api.Info
	for _, i := range l {
		i.Span.From, i.Span.To = max(i.Span.From, s.From), min(i.Span.To, s.To)
		if i.Span.From < i.Span.To {
			c = append(c, i)
		}
	}
	return c
}

// Promises 39.3 and 39.4: any infos, and any spans; second by second of those that are sound.
func TestCut(t *testing.T) {
	random := rand.New(rand.NewSource(393))
	for range 2000 {
		for _, l := range [][]api.Info{some(random), inOrder(random), nil} {
			for _, from := range edges() {
				for _, to := range edges() {
					s := api.Span{From: from, To: to}
					got := seam.Cut(l, s)
					if !slices.Equal(got, cut(l, s)) {
						t.Fatalf("Cut of %v by %v: %v; not %v", l, s, got, cut(l, s))
					}
					for _, at := range edges() {
						if lies(got, at) != (from <= at && at < to && lies(l, at)) {
							t.Fatalf("Cut of %v by %v has %d: %v", l, s, at, got)
						}
					}
				}
			}
		}
	}
}

// Promise 39.3: what is known.
func TestCutKnown(t *testing.T) {
	l := []api.Info{of(0, 5, "X"), of(5, 9, "Y"), of(12, 15, "Y")}
	tests := []struct {
		s    api.Span
		want []api.Info
	}{
		{api.Span{From: 3, To: 6}, []api.Info{of(3, 5, "X"), of(5, 6, "Y")}},
		{api.Span{From: 0, To: 15}, l},
		{api.Span{From: math.MinInt64, To: math.MaxInt64}, l},
		{api.Span{From: 9, To: 12}, nil},
		{api.Span{From: 8, To: 13}, []api.Info{of(8, 9, "Y"), of(12, 13, "Y")}},
		{api.Span{From: 15, To: 99}, nil},
		{api.Span{From: -9, To: 0}, nil},
		{api.Span{From: 3, To: 3}, nil},
		{api.Span{From: 6, To: 3}, nil},
		{api.Span{}, nil},
	}
	for _, x := range tests {
		if got := seam.Cut(l, x.s); !slices.Equal(got, x.want) {
			t.Errorf("Cut by %v: %v; not %v", x.s, got, x.want)
		}
	}
	backwards := []api.Info{of(5, 9, "Y"), of(0, 6, "X"), of(2, 2, "X"), of(0, 6, "X")}
	if got := seam.Cut(backwards, api.Span{From: 3, To: 7}); !slices.Equal(got, []api.Info{of(5, 7, "Y"), of(3, 6, "X"), of(3, 6, "X")}) {
		t.Error(got)
	}
}

// Rules: what is handed in is neither changed nor shared.
func TestListsAreLeft(t *testing.T) {
	a, b := []api.Info{of(5, 9, "Y"), of(12, 15, "Y")}, []api.Info{of(0, 5, "X"), of(5, 9, "Y")}
	keptA, keptB := slices.Clone(a), slices.Clone(b)
	// Room behind a list is its owner's, too.
	roomy := append(make([]api.Info, 0, 9), a...)
	l, _ := seam.Merge(roomy, b)
	one, _ := seam.Merge(a, nil)
	other, _ := seam.Merge(nil, a)
	all := seam.Cut(a, api.Span{From: 0, To: 99})
	seam.Sound(a)
	seam.Patches(a)[0] = api.Span{}
	seam.Missing(a, api.Span{From: 0, To: 99})[0] = api.Span{}
	for _, answer := range [][]api.Info{l, one, other, all} {
		for i := range answer {
			answer[i] = of(70, 80, "Z")
		}
	}
	if !slices.Equal(a, keptA) || !slices.Equal(b, keptB) || !slices.Equal(roomy, keptA) || roomy[:3][2] != (api.Info{}) {
		t.Error(a, b, roomy)
	}
}

// The example.
func TestExample(t *testing.T) {
	if seam.Sound([]api.Info{of(0, 5, "X"), of(5, 9, "X")}) {
		t.Error("5 parts one value")
	}
	l := []api.Info{of(0, 5, "X"), of(5, 9, "Y")}
	if patches := seam.Patches(l); !seam.Sound(l) || !slices.Equal(patches, []api.Span{{From: 0, To: 9}}) {
		t.Error(patches)
	}
}
