package giveup_test

import (
	"errors"
	"testing"

	"noontide/api"
	"noontide/giveup"
)

// answer is a text, or nothing but an error.
type answer struct {
	text string
	why  api.Errno
}

func caught(build func() string) answer {
	text, why := giveup.Caught(build)
	return answer{text, why}
}

// What is built is answered, if nothing was wrong.
func TestBuilt(t *testing.T) {
	a := caught(func() string {
		giveup.Need(true, api.ErrForm)
		return giveup.Must("a", api.OK) + giveup.Must("b", api.OK)
	})
	if a != (answer{"ab", api.OK}) {
		t.Error(a)
	}
}

// The first part that is wrong is told, and nothing beside it; what stands behind it is not gone through.
func TestGivenUp(t *testing.T) {
	behind := false
	a := caught(func() string {
		text := giveup.Must("a", api.ErrWord)
		behind = true
		return text + giveup.Must("b", api.ErrNone)
	})
	if a != (answer{"", api.ErrWord}) || behind {
		t.Error(a, behind)
	}
	a = caught(func() string {
		text := giveup.Must("a", api.OK)
		giveup.Need(false, api.ErrOrder)
		behind = true
		return text
	})
	if a != (answer{"", api.ErrOrder}) || behind {
		t.Error(a, behind)
	}
}

// An error alone is given up for, and none is not.
func TestFor(t *testing.T) {
	for why := api.OK; why <= api.ErrState; why++ {
		want := answer{"a", api.OK}
		if why != api.OK {
			want = answer{"", why}
		}
		a := caught(func() string {
			giveup.For(why)
			return "a"
		})
		if a != want {
			t.Error(a, want)
		}
	}
}

// What gives up in a line carries it to where it is caught, by what tells lines or by what does not; what gives up in none has the line 0.
func TestLines(t *testing.T) {
	tests := []struct {
		build func() string
		want  string
		fault api.Fault
	}{
		{func() string { return "a" }, "a", api.Fault{}},
		{func() string { giveup.NeedAt(true, 3, api.ErrForm); return "a" }, "a", api.Fault{}},
		{func() string { giveup.NeedAt(false, 3, api.ErrForm); return "a" }, "", api.Fault{Line: 3, Err: api.ErrForm}},
		{func() string { giveup.NeedAt(false, 0, api.ErrLong); return "a" }, "", api.Fault{Err: api.ErrLong}},
		{func() string { giveup.Need(false, api.ErrLong); return "a" }, "", api.Fault{Err: api.ErrLong}},
		{func() string { giveup.For(api.ErrOpen); return "a" }, "", api.Fault{Err: api.ErrOpen}},
		{func() string { return giveup.Must("a", api.ErrWord) }, "", api.Fault{Err: api.ErrWord}},
	}
	for i, x := range tests {
		if text, fault := giveup.CaughtAt(x.build); text != x.want || fault != x.fault {
			t.Errorf("%d: %q, %v; not %q, %v", i, text, fault, x.want, x.fault)
		}
		if a, want := caught(x.build), (answer{x.want, x.fault.Err}); a != want {
			t.Errorf("%d: %v; not %v", i, a, want)
		}
	}
}

// One that gives up in another one is caught by that one alone.
func TestInside(t *testing.T) {
	a := caught(func() string {
		if inner := caught(func() string { return giveup.Must("a", api.ErrWord) }); inner != (answer{"", api.ErrWord}) {
			t.Error(inner)
		}
		return "b"
	})
	if a != (answer{"b", api.OK}) {
		t.Error(a)
	}
}

// A panic of another kind goes on as it is.
func TestOtherPanics(t *testing.T) {
	for _, other := range []any{"text", api.ErrForm, errors.New("error")} {
		func() {
			defer func() {
				if p := recover(); p != other {
					t.Errorf("%v is handed on as %v", other, p)
				}
			}()
			a := caught(func() string { panic(other) })
			t.Errorf("%v is caught: %v", other, a)
		}()
		func() {
			defer func() {
				if p := recover(); p != other {
					t.Errorf("%v is handed on as %v", other, p)
				}
			}()
			text, fault := giveup.CaughtAt(func() string { panic(other) })
			t.Errorf("%v is caught: %q, %v", other, text, fault)
		}()
	}
}
