package reply_test

import (
	"math"
	"slices"
	"testing"

	"noontide/api"
	"noontide/book"
	"noontide/giveup"
	"noontide/reply"
	"noontide/sample"
)

// noted is a teller of sample.Two and a link, which notes what its ways are asked.
func noted(asked *[]api.Query) reply.Teller {
	table := sample.Two()
	table.Links = []api.Link{{Target: "E", Name: "L"}}
	way := func(zone int, q api.Query) string {
		*asked = append(*asked, q)
		giveup.Need(q.T >= 0, api.ErrGap)
		return "zone " + string(rune('0'+zone))
	}
	return reply.Teller{Book: book.New(table), Ways: map[int]reply.Way{api.AskSys: way, api.AskAt: way}}
}

// What is right, and of a zone that is there, is asked of the way of its kind; all else is answered ahead of that.
func TestTeller(t *testing.T) {
	tests := []struct {
		line  string
		want  string
		asked []api.Query
	}{
		{"sys A 5", "zone 0", []api.Query{{Kind: api.AskSys, Zone: "A", T: 5}}},
		{"at L 6", "zone 1", []api.Query{{Kind: api.AskAt, Zone: "L", T: 6}}},
		{"sys E -1", "error 19", []api.Query{{Kind: api.AskSys, Zone: "E", T: -1}}},
		{"sys B 5", "error 12", nil}, {"names", "names A E L", nil}, {"", "", nil}, {"x", "error 3", nil},
	}
	for _, x := range tests {
		var asked []api.Query
		r := noted(&asked)
		if text := r.Line(x.line); text != x.want || !slices.Equal(asked, x.asked) {
			t.Errorf("Line of %q: %q, %v", x.line, text, asked)
		}
		for _, q := range x.asked {
			asked = nil
			if text := r.Ask(q); text != x.want || !slices.Equal(asked, x.asked) {
				t.Errorf("Ask of %v: %q, %v", q, text, asked)
			}
		}
	}
	var asked []api.Query
	if text := noted(&asked).Ask(api.Query{Kind: api.AskSys, Zone: "A", N: 1}); text != "error 4" || len(asked) > 0 {
		t.Error(text, asked)
	}
}

// Another panic goes on.
func TestOtherPanics(t *testing.T) {
	defer func() {
		if p := recover(); p != "text" {
			t.Errorf("it is handed on as %v", p)
		}
	}()
	r := reply.Teller{Book: book.New(sample.Two()), Ways: map[int]reply.Way{api.AskSys: func(zone int, q api.Query) string { panic("text") }}}
	t.Error(r.Line("sys A 0"))
}

func TestFault(t *testing.T) {
	if text := reply.Fault(api.ErrNone); text != "error 12" {
		t.Error(text)
	}
}

func TestCount(t *testing.T) {
	q := api.Query{Kind: api.AskCount, Zone: "E", T: 2006, N: 2008}
	if text := reply.Count(sample.Two(), 1, q); text != "4" {
		t.Error(text)
	}
	q.N += 4000
	if _, why := giveup.Caught(func() string { return reply.Count(sample.Two(), 1, q) }); why != api.ErrRange {
		t.Error(why)
	}
}

// No more lines are answered than are asked for, or taken.
func TestEach(t *testing.T) {
	lines := []string{"a", "b", "c"}
	for most, want := range map[int][]string{math.MinInt: nil, -1: nil, 0: nil, 1: lines[:1], 2: lines[:2], 3: lines, 4: lines, math.MaxInt: lines} {
		var told []string
		tell := func(line string) string {
			told = append(told, line)
			return line + "!"
		}
		if l := slices.Collect(reply.Each(tell, lines, most)); len(l) != len(want) || !slices.Equal(told, want) || len(l) > 0 && l[0] != "a!" {
			t.Errorf("Each of %d: %q, %q", most, l, told)
		}
		told = nil
		for range reply.Each(tell, lines, most) {
			break
		}
		if len(told) > 1 {
			t.Errorf("Each of %d: %q", most, told)
		}
	}
}
