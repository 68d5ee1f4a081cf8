// Package giveup is for calls that build an answer part by part: where a part is wrong, what builds gives up by panic, and the face of the call catches that. It is no layer of the document.
package giveup

import "noontide/api"

// reason is what is panicked with.
type reason struct {
	why api.Errno
}

// Must is v, if nothing was wrong with it.
func Must[T any](v T, why api.Errno) T {
	Need(why == api.OK, why)
	return v
}

// Need gives up, if what is needed is not so.
func Need(is bool, why api.Errno) {
	if !is {
		panic(reason{why})
	}
}

// Caught is what build answers, or why it gave up. Any other panic goes on, since it is no answer but a fault of the program.
func Caught[T any](build func() T) (v T, why api.Errno) {
	defer func() {
		switch p := recover().(type) {
		case nil:
		case reason:
			why = p.why
		default:
			panic(p)
		}
	}()
	return build(), api.OK
}
