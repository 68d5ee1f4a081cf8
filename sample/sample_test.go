package sample_test

import (
	"math"
	"math/rand"
	"reflect"
	"testing"

	"noontide/api"
	"noontide/chain"
	"noontide/load"
	"noontide/occur"
	"noontide/point"
	"noontide/sample"
	"noontide/until"
)

// A source could tell each one, and the same picks make the same one.
func TestFits(t *testing.T) {
	random, again := rand.New(rand.NewSource(8)), rand.New(rand.NewSource(8))
	for range 3000 {
		table := sample.Table(random.Intn)
		if why := load.Table(table); why != api.OK {
			t.Fatalf("%v: %d", table, why)
		}
		if !reflect.DeepEqual(table, sample.Table(again.Intn)) {
			t.Fatalf("%v is made of the same", table)
		}
	}
}

// There is enough of what layers could get wrong: eras of each kind, ends at which nothing is otherwise, or a rule changes something, and years at both ends of all.
func TestMany(t *testing.T) {
	random := rand.New(rand.NewSource(9))
	many := map[string]int{}
	for range 3000 {
		table := sample.Table(random.Intn)
		for _, r := range table.Rules {
			many["rule"]++
			count(many, "first year", r.From == api.MinYear)
			count(many, "last year", r.To == api.MaxYear)
		}
		for _, z := range table.Zones {
			many["zone"]++
			ends, _ := until.Ends(table.Rules, z)
			for i, e := range z.Eras {
				many["kind "+string(rune('0'+e.Kind))]++
				if i == len(ends) {
					continue
				}
				many["end"]++
				next := z.Eras[i+1]
				e.Until, next.Until = api.Until{}, api.Until{}
				count(many, "nothing otherwise", e == next)
				count(many, "just there", changes(table.Rules, e)[ends[i]])
				count(many, "just there in the next one", changes(table.Rules, next)[ends[i]])
			}
		}
	}
	for _, what := range []string{"rule", "zone", "first year", "last year", "kind 0", "kind 1", "kind 2", "end", "nothing otherwise", "just there", "just there in the next one"} {
		if many[what] < 100 {
			t.Errorf("%s: %d", what, many[what])
		}
	}
	t.Log(many)
}

func count(many map[string]int, what string, is bool) {
	if is {
		many[what]++
	}
}

// changes are the instants of all that occurs in an era.
func changes(rules []api.Rule, e api.Era) map[int64]bool {
	l := map[int64]bool{}
	for _, o := range occur.In(rules, e.Rules, api.Span{From: math.MinInt64, To: math.MaxInt64}, math.MaxInt) {
		at, _ := chain.Instant(rules, e.Rules, e.Off, o)
		l[at] = true
	}
	return l
}

// Infos have all seconds, each once, and one that begins where another one ends is not like that.
func TestInfos(t *testing.T) {
	random := rand.New(rand.NewSource(10))
	for range 300 {
		table := sample.Table(random.Intn)
		for zone := range table.Zones {
			l := sample.Infos(table, zone)
			next := int64(api.MinT)
			for n, i := range l {
				v, why := point.Value(table, zone, i.Span.To-1)
				if i.Span.From != next || i.Span.To <= next || i.Value != v || why != api.OK || n > 0 && l[n-1].Value == v {
					t.Fatalf("of %d in %v: %v, %d", zone, table, l, why)
				}
				next = i.Span.To
			}
			if next != api.MaxT+1 {
				t.Fatalf("of %d in %v: %v", zone, table, l)
			}
		}
	}
}

// Most of those that are to be unfit are, each of them has one zone, and each is made anew.
func TestUnfit(t *testing.T) {
	fit := 0
	for n, table := range sample.Unfit() {
		if len(table.Zones) != 1 {
			t.Errorf("%v", table)
		}
		if load.Table(table) == api.OK {
			fit++
		}
		for i := range table.Rules {
			table.Rules[i].Name = "changed"
		}
		if again := sample.Unfit()[n]; len(again.Rules) > 0 && again.Rules[0].Name == "changed" {
			t.Error(n)
		}
	}
	if n := len(sample.Unfit()); fit*4 > n || n < 50 {
		t.Errorf("%d of %d fit", fit, n)
	}
}
