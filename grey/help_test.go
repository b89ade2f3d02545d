package grey_test

import (
	"math"
	"slices"

	"besom/chain"
	"besom/code"
	"besom/deque"
	"besom/grey"
	"besom/heap"
	"besom/mem"
	"besom/plan"
	"besom/set"
	"besom/state"
	"besom/tint"
)

// Plan, State and Grey are short for the tables.
type (
	Plan  = plan.Plan
	State = state.State
	Grey  = state.Grey
)

// The numbers that the document names.
const (
	maxObjects  = 64
	maxMachines = 16
	maxCap      = 16
	lastPC      = 7
)

// small is a right plan of two workers and two mutators, of whose seven objects
// 1 and 5 are grey at the start: each time in memory of its own. Its deques are
// at cells 0 and 4, the heads of its lists are cells 8 and 9, and it has 12
// bins.
func small() Plan {
	return Plan{
		Workers: 2, Mutators: 2, Cap: 2, Buf: 1, Bin: 2, Most: 8, Price: 2, Limit: 2,
		H:     heap.Heap{Slots: 1, Objs: [][]int{{2}, {3}, {0}, {0}, {0}, {0}, {0}}},
		Roots: set.Of([]int{1, 5}),
		Regs:  [][]int{{1, 0}, {5}},
		Progs: make([][]code.Op, 2),
	}
}

// far are numbers that are no object, no machine, no bin, no PC, and no mode,
// and some that are.
func far() []int {
	return []int{math.MinInt, math.MinInt + 1, -1 << 32, -64, -2, -1, 0, 1, 2, 3, 4, 5, 6, 7, 8, 9, 12, 13, 16, 17, 63, 64, 65, 1 << 32, 1<<32 + 1, 1 << 62, math.MaxInt - 1, math.MaxInt}
}

// random is a source of numbers by a short rule.
type random uint64

// under tells a number from 0 to n - 1.
func (r *random) under(n int) int {
	*r = *r*6364136223846793005 + 1442695040888963407
	return int(uint64(*r)>>33) % n
}

// number tells a number from least to most, seldom one that is far.
func (r *random) number(least, most int) int {
	if r.under(12) == 0 {
		return far()[r.under(len(far()))]
	}
	return least + r.under(most-least+1)
}

// plan tells a right plan with objects, no more than most of each kind of
// machine.
func (r *random) plan(most int) Plan {
	n, slots := 1+r.under(maxObjects), 1+r.under(4)
	p := Plan{
		Workers: 1 + r.under(most), Mutators: r.under(most + 1),
		Cap: 1 + r.under(maxCap), Buf: 1, Bin: 1 + r.under(3), Most: n + r.under(maxObjects-n+1),
		H: heap.Heap{Slots: slots, Objs: slices.Repeat([][]int{make([]int, slots)}, n)},
	}
	if r.under(2) == 0 {
		p.Cap = 1
	}
	for range r.under(n + 1) {
		p.Roots = set.Add(p.Roots, 1+r.under(n))
	}
	p.Regs = slices.Repeat([][]int{{0}}, p.Mutators)
	p.Progs = make([][]code.Op, p.Mutators)
	return p
}

// state tells a state of p, each part that a greying machine is on being of
// whatever it may be.
func (r *random) state(p Plan) State {
	s := state.New(p)
	n := len(p.H.Objs)
	for range r.under(6) {
		s.T.Black = set.Add(s.T.Black, 1+r.under(n))
	}
	s.T.Marks |= s.T.Black * set.Set(r.under(2))
	s.Work, s.Flag = r.number(0, 9), r.under(2) == 0
	for w := 1; w <= p.Workers; w++ {
		s.M = pushed(s.M, p, w, r.under(p.Cap+1))
	}
	if r.under(8) == 0 {
		s.M = chain.Lay(s.M, state.Empty(p), state.Next(p), nil)
	}
	return s
}

// pushed tells m with n objects put into worker w's deque.
func pushed(m mem.Mem, p Plan, w, n int) mem.Mem {
	for range n {
		d := deque.Start(deque.Push, state.Deque(p, w), p.Cap, w)
		for d.Out == deque.Going {
			m, d = deque.Step(m, d)
		}
	}
	return m
}

// grey tells a machine that likely has a step to do on s.
func (r *random) grey(s State) Grey {
	p := s.P
	g := Grey{
		PC: r.number(0, lastPC), Mode: r.number(1, 3), Obj: r.number(1, len(p.H.Objs)), Who: r.number(1, p.Workers),
		Bin: r.number(1, plan.Bins(p)),
	}
	g.D = deque.Machine{
		Kind: r.number(deque.Push, deque.Push), PC: r.number(0, 3), Base: state.Deque(p, r.number(1, p.Workers)), Cap: p.Cap,
		B: uint64(r.number(0, 3)), T: uint64(r.number(0, 3)), X: r.number(1, 9),
	}
	head := []int{state.Empty(p), state.Full(p)}[r.under(2)]
	g.C = chain.Machine{
		Kind: r.number(chain.Push, chain.Pop), PC: r.number(0, 2), Head: head, Next: state.Next(p),
		X: r.number(1, plan.Bins(p)), Y: r.number(0, plan.Bins(p)),
	}
	if r.under(4) > 0 {
		g.C.H = s.M[head]
	}
	for _, out := range []*int{&g.Out, &g.D.Out, &g.C.Out} {
		if r.under(10) == 0 {
			*out = r.number(0, 4)
		}
	}
	return g
}

// plainly tells Step by the chapter's words.
func plainly(s State, g Grey) (State, Grey) {
	s = state.Copy(s)
	p := s.P
	takes := chain.Machine{Kind: chain.Pop, Head: p.Workers*(p.Cap+2) + 1, Next: p.Workers*(p.Cap+2) + 1}
	if g.Out != 0 || g.Mode != grey.Deque && g.Mode != grey.Flush && g.Mode != grey.Assist {
		return s, g
	}
	switch g.PC {
	case 0:
		s.Work++
		g.PC = 1
	case 1:
		if tint.Of(s.T, g.Obj) != tint.White {
			g.PC = 2
			return s, g
		}
		s.T, _ = tint.Shade(s.T, g.Obj)
		if g.Mode == grey.Deque {
			g.PC, g.D = 3, deque.Machine{Kind: deque.Push, Base: (g.Who - 1) * (p.Cap + 2), Cap: p.Cap, X: g.Obj}
		}
		if g.Mode == grey.Flush {
			g.PC = 4
		}
		if g.Mode == grey.Assist {
			g.PC, g.C = 5, takes
		}
	case 2:
		s.Work--
		g.Out = 1
	case 3:
		s.M, g.D = deque.Step(s.M, g.D)
		if g.D.Out == deque.Done {
			g.Out = 1
		}
		if g.D.Out == deque.Full {
			g.PC, g.C = 5, takes
		}
	case 4:
		s.Flag = true
		g.PC, g.C = 5, takes
	case 5:
		s.M, g.C = chain.Step(s.M, g.C)
		if g.C.Out == chain.Done {
			g.Bin, g.PC = g.C.X, 6
		} else if g.C.Out == chain.Empty {
			g.C = takes
		}
	case 6:
		if g.Bin >= 1 && g.Bin <= p.Most+p.Workers+p.Mutators {
			s.Bins[g.Bin] = []int{g.Obj}
		}
		g.PC, g.C = 7, chain.Machine{Kind: chain.Push, Head: takes.Head - 1, Next: takes.Next, X: g.Bin}
	case 7:
		s.M, g.C = chain.Step(s.M, g.C)
		if g.C.Out == chain.Done {
			g.Out = 1
		}
	}
	return s, g
}

// ended steps g to its end, and tells how many steps that took: 99, if it has
// none.
func ended(s State, g Grey) (State, Grey, int) {
	n := 0
	for ; n < 99 && g.Out == 0; n++ {
		s, g = grey.Step(s, g)
	}
	return s, g, n
}

// touches tells in how many places a and b are not the same, of what machines
// share: a counter, the colours, a cell, a bin, an object's slots; far more, if
// anything else is not.
func touches(a, b State) int {
	n := 0
	for _, is := range []bool{a.Work == b.Work, a.Flag == b.Flag, a.T == b.T} {
		if !is {
			n++
		}
	}
	if len(a.M) != len(b.M) || len(a.Bins) != len(b.Bins) {
		return 1000
	}
	for i, v := range a.M {
		if v != b.M[i] {
			n++
		}
	}
	for i, l := range a.Bins {
		if !slices.Equal(l, b.Bins[i]) {
			n++
		}
	}
	b.Work, b.Flag, b.T, b.M, b.Bins = a.Work, a.Flag, a.T, a.M, a.Bins
	if !state.Same(a, b) {
		return 1000
	}
	return n
}

// spoil writes into all lists of s, but its plan's.
func spoil(s State) {
	for _, l := range slices.Concat(s.H.Objs, s.Bins, [][]int{s.Acks}) {
		fill(l, -7)
	}
	fill(s.M, 77)
	fill(s.L.Bal, -7)
	fill(s.H.Objs, nil)
	fill(s.Bins, nil)
	for _, m := range s.Ms {
		fill(m.Regs, -7)
		fill(m.Buf, -7)
		fill(m.Batch, -7)
	}
	for _, w := range s.Ws {
		fill(w.Batch, -7)
	}
	fill(s.Ws, state.Worker{PC: -7})
	fill(s.Ms, state.Mutator{PC: -7})
}

// fill puts v into all of l, and into what stands behind it in its array.
func fill[T any](l []T, v T) {
	for i := range l[:cap(l)] {
		l[:cap(l)][i] = v
	}
}
