package state

import (
	"slices"

	"besom/chain"
	"besom/deque"
	"besom/ledger"
	"besom/mem"
	"besom/plan"
	"besom/set"
	"besom/tint"
)

// New tells the state that p begins with, and nothing of a plan that is not
// right.
func New(p plan.Plan) State {
	if !plan.Right(p) {
		return State{}
	}
	greys := plan.Greys(p)
	bins, full := fill(plan.Bins(p), p.Bin, set.List(greys))
	return State{
		P:    copiedPlan(p),
		H:    copiedHeap(p.H),
		M:    cells(p, full),
		Bins: bins,
		T:    tint.Tint{Marks: greys},
		Work: set.Count(greys),
		Acks: make([]int, p.Mutators),
		L:    ledger.New(p.Mutators),
		Ws:   workers(p),
		Ms:   mutators(p),
	}
}

// fill tells n bins with l in the first ones, size of it in each, and how many
// bins have some.
func fill(n, size int, l []int) ([][]int, int) {
	bins := make([][]int, n+1)
	b := 0
	for part := range slices.Chunk(l, size) {
		b++
		bins[b] = slices.Clone(part)
	}
	return bins, b
}

// cells tells the cells of p, the bins up to full being in the list of full
// ones.
func cells(p plan.Plan, full int) mem.Mem {
	var m mem.Mem
	for range p.Workers {
		m = append(m, deque.Cells(p.Cap)...)
	}
	bins := plan.Bins(p)
	m = append(m, make(mem.Mem, heads+bins)...)
	m = chain.Lay(m, Full(p), Next(p), from(1, full))
	return chain.Lay(m, Empty(p), Next(p), from(full+1, bins))
}

// from tells the numbers from least to most.
func from(least, most int) []int {
	var l []int
	for n := least; n <= most; n++ {
		l = append(l, n)
	}
	return l
}

// workers tells p's workers, each of which begins with its own deque.
func workers(p plan.Plan) []Worker {
	l := make([]Worker, p.Workers)
	for i := range l {
		w := i + 1
		l[i] = Worker{Victim: w, D: deque.Start(deque.Pop, Deque(p, w), p.Cap, 0)}
	}
	return l
}

// mutators tells p's mutators.
func mutators(p plan.Plan) []Mutator {
	l := make([]Mutator, p.Mutators)
	for i, regs := range p.Regs {
		l[i] = Mutator{Regs: slices.Clone(regs)}
	}
	return l
}
