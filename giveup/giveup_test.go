package giveup_test

import (
	"errors"
	"testing"

	"noontide/api"
	"noontide/giveup"
)

// answer is a text, or nothing but an error.
type answer struct {
	text string
	why  api.Errno
}

func caught(build func() string) answer {
	text, why := giveup.Caught(build)
	return answer{text, why}
}

// What is built is answered, if nothing was wrong.
func TestBuilt(t *testing.T) {
	a := caught(func() string {
		giveup.Need(true, api.ErrForm)
		return giveup.Must("a", api.OK) + giveup.Must("b", api.OK)
	})
	if a != (answer{"ab", api.OK}) {
		t.Error(a)
	}
}

// The first part that is wrong is told, and nothing beside it; what stands behind it is not gone through.
func TestGivenUp(t *testing.T) {
	behind := false
	a := caught(func() string {
		text := giveup.Must("a", api.ErrWord)
		behind = true
		return text + giveup.Must("b", api.ErrNone)
	})
	if a != (answer{"", api.ErrWord}) || behind {
		t.Error(a, behind)
	}
	a = caught(func() string {
		text := giveup.Must("a", api.OK)
		giveup.Need(false, api.ErrOrder)
		behind = true
		return text
	})
	if a != (answer{"", api.ErrOrder}) || behind {
		t.Error(a, behind)
	}
}

// One that gives up in another one is caught by that one alone.
func TestInside(t *testing.T) {
	a := caught(func() string {
		if inner := caught(func() string { return giveup.Must("a", api.ErrWord) }); inner != (answer{"", api.ErrWord}) {
			t.Error(inner)
		}
		return "b"
	})
	if a != (answer{"b", api.OK}) {
		t.Error(a)
	}
}

// A panic of another kind goes on as it is.
func TestOtherPanics(t *testing.T) {
	for _, other := range []any{"text", api.ErrForm, errors.New("error")} {
		func() {
			defer func() {
				if p := recover(); p != other {
					t.Errorf("%v is handed on as %v", other, p)
				}
			}()
			a := caught(func() string { panic(other) })
			t.Errorf("%v is caught: %v", other, a)
		}()
	}
}
