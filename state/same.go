package state

import (
	"slices"

	"besom/chain"
	"besom/deque"
	"besom/heap"
	"besom/ledger"
	"besom/mem"
	"besom/plan"
	"besom/tint"
)

// plainState is what a state has beside its parts that have lists.
type plainState struct {
	tint                  tint.Tint
	work, epoch, restarts int
	flag, done            bool
	detect                Detect
}

func plainOfState(s State) plainState {
	return plainState{s.T, s.Work, s.Epoch, s.Restarts, s.Flag, s.Done, s.D}
}

// plainWorker is what a worker has beside its list.
type plainWorker struct {
	pc, obj, slot, victim, bin int
	d                          deque.Machine
	c                          chain.Machine
	g                          Grey
}

func plainOfWorker(w Worker) plainWorker {
	return plainWorker{w.PC, w.Obj, w.Slot, w.Victim, w.Bin, w.D, w.C, w.G}
}

// plainMutator is what a mutator has beside its lists.
type plainMutator struct {
	pc, ip, ret, want, old, obj, slot, bin int
	c                                      chain.Machine
	g                                      Grey
}

func plainOfMutator(m Mutator) plainMutator {
	return plainMutator{m.PC, m.IP, m.Ret, m.Want, m.Old, m.Obj, m.Slot, m.Bin, m.C, m.G}
}

// sameWorker tells whether a and b have the same in all fields.
func sameWorker(a, b Worker) bool {
	return plainOfWorker(a) == plainOfWorker(b) && slices.Equal(a.Batch, b.Batch)
}

// sameMutator tells whether a and b have the same in all fields.
func sameMutator(a, b Mutator) bool {
	return plainOfMutator(a) == plainOfMutator(b) &&
		slices.Equal(a.Regs, b.Regs) &&
		slices.Equal(a.Buf, b.Buf) &&
		slices.Equal(a.Batch, b.Batch)
}

// Same tells whether a and b have the same in all fields.
func Same(a, b State) bool {
	return plainOfState(a) == plainOfState(b) &&
		heap.Same(a.H, b.H) &&
		mem.Same(a.M, b.M) &&
		slices.EqualFunc(a.Bins, b.Bins, slices.Equal) &&
		slices.Equal(a.Acks, b.Acks) &&
		ledger.Same(a.L, b.L) &&
		slices.EqualFunc(a.Ws, b.Ws, sameWorker) &&
		slices.EqualFunc(a.Ms, b.Ms, sameMutator) &&
		plan.Same(a.P, b.P)
}
