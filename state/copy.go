package state

import (
	"slices"

	"besom/heap"
	"besom/plan"
)

// each tells what by makes of each of l, in a list of its own.
func each[L ~[]E, E any](l L, by func(E) E) L {
	told := slices.Clone(l)
	for i, e := range told {
		told[i] = by(e)
	}
	return told
}

// rows tells l, with each of its lists in memory of its own.
func rows[E any](l [][]E) [][]E {
	return each(l, slices.Clone)
}

// copiedHeap tells h in memory of its own.
func copiedHeap(h heap.Heap) heap.Heap {
	h.Objs = rows(h.Objs)
	return h
}

// copiedPlan tells p in memory of its own.
func copiedPlan(p plan.Plan) plan.Plan {
	p.H = copiedHeap(p.H)
	p.Regs = rows(p.Regs)
	p.Progs = rows(p.Progs)
	p.Picks = slices.Clone(p.Picks)
	return p
}

// copiedWorker tells w in memory of its own.
func copiedWorker(w Worker) Worker {
	w.Batch = slices.Clone(w.Batch)
	return w
}

// copiedMutator tells m in memory of its own.
func copiedMutator(m Mutator) Mutator {
	m.Regs = slices.Clone(m.Regs)
	m.Buf = slices.Clone(m.Buf)
	m.Batch = slices.Clone(m.Batch)
	return m
}

// Copy tells s in memory of its own, but for what the plan has: that stays as
// it is while it runs, and its picks are too many to be laid anew at each step.
func Copy(s State) State {
	s.H = copiedHeap(s.H)
	s.M = slices.Clone(s.M)
	s.Bins = rows(s.Bins)
	s.Acks = slices.Clone(s.Acks)
	s.L.Bal = slices.Clone(s.L.Bal)
	s.Ws = each(s.Ws, copiedWorker)
	s.Ms = each(s.Ms, copiedMutator)
	return s
}
