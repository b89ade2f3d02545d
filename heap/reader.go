package heap

import (
	"strconv"
	"strings"

	"besom/api"
)

// part is what a heap's text is made of: a number, or a mark.
type part interface {
	text() string
}

// number is a part that is told in digits.
type number int

// mark is a part that stands ahead of a number.
type mark string

func (n number) text() string { return strconv.Itoa(int(n)) }

func (m mark) text() string { return string(m) }

// reader goes through a text part by part. What is no heap's text it leaves by
// a panic, from however deep, which Parse catches.
type reader struct{ rest string }

// heap reads a right heap, up to the text's end.
func (r *reader) heap() Heap {
	h := Heap{Slots: r.number()}
	// Of a heap that has no objects this asks for its Slots alone: no more than
	// these are then read, and kept, of each object.
	if !Right(h) {
		panic(api.ErrParse)
	}
	for r.rest != "" && len(h.Objs) <= api.MaxObjects {
		h.Objs = append(h.Objs, r.slots(h.Slots))
	}
	if !Right(h) {
		panic(api.ErrParse)
	}
	return h
}

// slots reads the n slots of an object.
func (r *reader) slots(n int) []int {
	var l []int
	for s := range n {
		r.pass(ahead(s))
		l = append(l, r.number())
	}
	return l
}

// number reads a part that has to be a number.
func (r *reader) number() int {
	if n, ok := r.next().(number); ok {
		return int(n)
	}
	panic(api.ErrParse)
}

// pass reads a part that has to be the mark m.
func (r *reader) pass(m mark) {
	if got, ok := r.next().(mark); !ok || got != m {
		panic(api.ErrParse)
	}
}

// next tells the part that comes next, and passes over it.
func (r *reader) next() part {
	p := first(r.rest)
	r.rest = r.rest[len(p.text()):]
	return p
}

// first tells the part that s begins with: a number, if that is a digit, else
// a mark, which is of nothing at the text's end. A number in other digits than
// it is told in is no part.
func first(s string) part {
	digits := s[:len(s)-len(strings.TrimLeft(s, "0123456789"))]
	if digits == "" {
		return mark(s[:min(1, len(s))])
	}
	n, err := strconv.Atoi(digits)
	if err != nil || number(n).text() != digits {
		panic(api.ErrParse)
	}
	return number(n)
}
