// Package giveup is for calls that build an answer part by part: where a part is wrong, what builds gives up by panic, and the face of the call catches that. It is no layer of the document.
package giveup

import "noontide/api"

// reason is what is panicked with: why, and in which line (0: in none).
type reason struct {
	fault api.Fault
}

// Must is v, if nothing was wrong with it.
func Must[T any](v T, why api.Errno) T {
	For(why)
	return v
}

// For gives up, if why is an error.
func For(why api.Errno) {
	Need(why == api.OK, why)
}

// Need gives up, if what is needed is not so.
func Need(is bool, why api.Errno) {
	NeedAt(is, 0, why)
}

// NeedAt is Need of what is needed in a line.
func NeedAt(is bool, line int, why api.Errno) {
	if !is {
		panic(reason{api.Fault{Line: line, Err: why}})
	}
}

// Caught is what build answers, or why it gave up.
func Caught[T any](build func() T) (T, api.Errno) {
	v, fault := CaughtAt(build)
	return v, fault.Err
}

// CaughtAt is what build answers, or why, and in which line, it gave up. Any other panic goes on, since it is no answer but a fault of the program.
func CaughtAt[T any](build func() T) (v T, fault api.Fault) {
	defer func() {
		switch p := recover().(type) {
		case nil:
		case reason:
			fault = p.fault
		default:
			panic(p)
		}
	}()
	return build(), api.Fault{}
}
