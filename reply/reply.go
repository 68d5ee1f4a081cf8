// Package reply is for those who answer questions: all that does not hang on how they find out about zones. It is no layer of the document.
package reply

import (
	"iter"
	"math"

	"noontide/answer"
	"noontide/api"
	"noontide/book"
	"noontide/change"
	"noontide/giveup"
	"noontide/num"
	"noontide/query"
	"noontide/window"
)

// Way answers questions of zones, of one kind. Where a call tells an error it gives up (package giveup).
type Way func(zone int, q api.Query) string

// Teller answers questions of a table: by its book, and the ways in which each kind of questions of zones is answered.
type Teller struct {
	Book *book.Book
	Ways map[int]Way
}

// Ask is the answer to q.
func (r Teller) Ask(q api.Query) string {
	return text(func() string { return r.ask(q) })
}

// Line is the answer to the question that a line is.
func (r Teller) Line(line string) string {
	return text(func() string { return r.ask(giveup.Must(query.Read(line))) })
}

func (r Teller) ask(q api.Query) string {
	giveup.Need(query.Right(q), api.ErrForm)
	switch q.Kind {
	case api.AskNone:
		return ""
	case api.AskNames:
		return giveup.Must(answer.Names(r.Book.Names()))
	}
	zone := giveup.Must(r.Book.Find(q.Zone))
	return r.Ways[q.Kind](zone, q)
}

// text is what tell answers, or the text of why it gave up.
func text(tell func() string) string {
	s, why := giveup.Caught(tell)
	if why != api.OK {
		return Fault(why)
	}
	return s
}

// Fault is the text of an error that is of no line.
func Fault(why api.Errno) string {
	return answer.Fault(api.Fault{Err: why})
}

// Count answers how many changes a zone has in the years of q: of these nothing is kept.
func Count(t api.Table, zone int, q api.Query) string {
	years := giveup.Must(window.Years(int(q.T), int(q.N)))
	return num.Text(int64(change.Count(t, zone, years, math.MaxInt)))
}

// Each tells the answers to the first most of lines, in order.
func Each(tell func(line string) string, lines []string, most int) iter.Seq[string] {
	return func(yield func(string) bool) {
		for place, line := range lines {
			if place >= most || !yield(tell(line)) {
				return
			}
		}
	}
}
