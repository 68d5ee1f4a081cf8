package met_test

import (
	"testing"

	"noontide/met"
)

func TestNames(t *testing.T) {
	isMet, other := met.Names(), met.Names()
	for _, test := range []struct {
		name string
		want bool
	}{{"a", false}, {"b", false}, {"a", true}, {"", false}, {"A", false}, {"b", true}, {"a", true}, {"", true}} {
		if got := isMet(test.name); got != test.want {
			t.Errorf("%q was met: %v", test.name, got)
		}
	}
	if other("a") {
		t.Error("another one was told of a")
	}
}
