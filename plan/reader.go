package plan

import (
	"strconv"
	"strings"

	"besom/api"
	"besom/code"
	"besom/heap"
	"besom/pick"
	"besom/set"
)

const (
	// maxNumber is the greatest number that a text may have.
	maxNumber = 1000000
	// otherLines is how many lines there are beside the first one and the
	// mutators'.
	otherLines = 3
)

// part lays what a line says into a plan.
type part func(p *Plan)

// laid tells the plan that parts make.
func laid(parts ...part) Plan {
	var p Plan
	for _, lay := range parts {
		lay(&p)
	}
	return p
}

// reader goes through a text line by line. What is no plan's text it leaves by
// a panic, from however deep, with the error to tell, which Parse catches.
type reader struct{ rest string }

// parts reads all lines of a plan, be it right or not.
func (r *reader) parts() []part {
	engine, mutators := r.engine()
	// Lines that are too many or too few go ahead of what is wrong in one.
	r.need(otherLines + mutators)
	l := []part{engine, r.heap(), r.roots()}
	for range mutators {
		l = append(l, r.mutator())
	}
	return append(l, r.picks())
}

// need asks that there are n lines more, and nothing behind.
func (r *reader) need(n int) {
	if strings.Count(r.rest, lineFeed) != n || !strings.HasSuffix(r.rest, lineFeed) {
		panic(api.ErrParse)
	}
}

// line reads a line that has to begin with word, and tells what stands behind
// that.
func (r *reader) line(word string) string {
	l, rest, ended := strings.Cut(r.rest, lineFeed)
	told, begins := strings.CutPrefix(l, word+space)
	if !ended || !begins {
		panic(api.ErrParse)
	}
	r.rest = rest
	return told
}

// engine reads the first line, and tells also how many mutators it asks for.
func (r *reader) engine() (part, int) {
	n := numbersIn(r.line(engineWord), space)
	if len(n) != inEngine {
		panic(api.ErrParse)
	}
	return func(p *Plan) {
		p.Workers, p.Mutators = n[0], n[1]
		p.Cap, p.Buf, p.Bin, p.Most = n[2], n[3], n[4], n[5]
		p.Price, p.Limit = int64(n[6]), int64(n[7])
	}, n[1]
}

// heap reads the heap's line.
func (r *reader) heap() part {
	h := fine(heap.Parse(r.line(heapWord)))
	return func(p *Plan) { p.H = h }
}

// roots reads the roots' line.
func (r *reader) roots() part {
	s := fine(set.Parse(r.line(rootsWord)))
	return func(p *Plan) { p.Roots = s }
}

// mutator reads the line of one mutator more. (One that has no program is
// refused as the empty text is, which is no program's.)
func (r *reader) mutator() part {
	first, second, _ := strings.Cut(r.line(mutatorWord), space)
	regs, prog := numbersIn(first, betweenRegs), fine(code.Parse(second))
	return func(p *Plan) {
		p.Regs, p.Progs = append(p.Regs, regs), append(p.Progs, prog)
	}
}

// picks reads the picks' line.
func (r *reader) picks() part {
	l := fine(pick.Parse(r.line(picksWord)))
	return func(p *Plan) { p.Picks = l }
}

// fine tells what was read from a part of a line, where there was no error.
func fine[T any](told T, e api.Errno) T {
	if e != api.OK {
		panic(e)
	}
	return told
}

// numbersIn reads numbers, one or more, with a text between.
func numbersIn(s, between string) []int {
	var l []int
	for text := range strings.SplitSeq(s, between) {
		l = append(l, number(text))
	}
	return l
}

// number reads a number.
func number(s string) int {
	n, err := strconv.Atoi(s)
	// A number has one text only: so this finds signs, and noughts ahead.
	if err != nil || n < 0 || n > maxNumber || strconv.Itoa(n) != s {
		panic(api.ErrParse)
	}
	return n
}
