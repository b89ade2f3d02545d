package plan

import (
	"strconv"
	"strings"

	"besom/code"
	"besom/heap"
	"besom/pick"
	"besom/set"
)

// The texts that plans are written with: what each line begins with, what stands
// between all of a line, between registers, and behind a line.
const (
	engineWord  = "engine"
	heapWord    = "heap"
	rootsWord   = "roots"
	mutatorWord = "mutator"
	picksWord   = "picks"
	space       = " "
	betweenRegs = ","
	lineFeed    = "\n"
)

// inEngine is how many numbers the first line has.
const inEngine = 8

// numbers are those of the first line, in their order there.
type numbers [inEngine]int64

// numbersOf tells the numbers of p that are told on the first line.
func numbersOf(p Plan) numbers {
	return numbers{
		int64(p.Workers), int64(p.Mutators),
		int64(p.Cap), int64(p.Buf), int64(p.Bin), int64(p.Most),
		p.Price, p.Limit,
	}
}

// lines writes the lines of p, which is right.
func lines(p Plan) string {
	var b strings.Builder
	n := numbersOf(p)
	b.WriteString(line(engineWord, digits(space, n[:])))
	b.WriteString(line(heapWord, heap.Text(p.H)))
	b.WriteString(line(rootsWord, set.Text(p.Roots)))
	for i, regs := range p.Regs {
		b.WriteString(line(mutatorWord, digits(betweenRegs, regs), code.Print(p.Progs[i])))
	}
	b.WriteString(line(picksWord, pick.Print(p.Picks)))
	return b.String()
}

// line writes a line of these texts.
func line(texts ...string) string {
	return strings.Join(texts, space) + lineFeed
}

// digits writes the numbers of l, with a text between.
func digits[N int | int64](between string, l []N) string {
	var texts []string
	for _, n := range l {
		texts = append(texts, strconv.FormatInt(int64(n), 10))
	}
	return strings.Join(texts, between)
}
