package state_test

import (
	"slices"
	"testing"

	"besom/chain"
	"besom/deque"
	"besom/heap"
	"besom/ledger"
	"besom/mem"
	"besom/plan"
	"besom/state"
	"besom/tint"
)

// P13.1: the fields are the chapter's, by name, kind and order: else these turns
// of one type into another one would not be built.
func TestFields(t *testing.T) {
	_ = struct {
		PC, Mode, Obj, Who int
		D                  deque.Machine
		C                  chain.Machine
		Bin, Out           int
	}(state.Grey{})
	_ = struct {
		PC, Obj, Slot, Victim, Bin int
		Batch                      []int
		D                          deque.Machine
		C                          chain.Machine
		G                          state.Grey
	}(state.Worker{})
	_ = struct {
		PC, IP, Ret, Want, Old, Obj, Slot, Bin int
		Regs, Buf, Batch                       []int
		C                                      chain.Machine
		G                                      state.Grey
	}(state.Mutator{})
	_ = struct{ PC, I int }(state.Detect{})
	_ = struct {
		P           plan.Plan
		H           heap.Heap
		M           mem.Mem
		Bins        [][]int
		T           tint.Tint
		Work, Epoch int
		Flag, Done  bool
		Restarts    int
		Acks        []int
		L           ledger.Ledger
		Ws          []state.Worker
		Ms          []state.Mutator
		D           state.Detect
	}(state.State{})
}

// P13.2: the chapter's example, and the places of some plans.
func TestPlaces(t *testing.T) {
	if got := state.Deque(Plan{Cap: 4}, 2); got != 6 {
		t.Error(got)
	}
	for i, c := range []struct {
		workers, size int
		deques        []int
		full          int
	}{
		{1, 1, []int{0, 3}, 3},
		{1, 16, []int{0, 18}, 18},
		{2, 3, []int{0, 5, 10}, 10},
		{3, 1, []int{0, 3, 6, 9}, 9},
		{3, 8, []int{0, 10, 20, 30}, 30},
		{16, 16, []int{0, 18, 36, 54, 72, 90, 108, 126, 144, 162, 180, 198, 216, 234, 252, 270, 288}, 288},
	} {
		p := with(func(p *Plan) { p.Workers, p.Cap = c.workers, c.size })
		for j, want := range c.deques {
			if got := state.Deque(p, j+1); got != want {
				t.Errorf("%d: deque %d at %d, not %d", i, j+1, got, want)
			}
		}
		if state.Full(p) != c.full || state.Empty(p) != c.full+1 || state.Next(p) != c.full+1 {
			t.Errorf("%d: %d, %d, %d", i, state.Full(p), state.Empty(p), state.Next(p))
		}
	}
}

// P13.2, P1, P6: the places of whatever plan, worker or none, modulo 2^64; they
// hang on Workers and Cap alone.
func TestPlacesOfAny(t *testing.T) {
	for _, size := range far() {
		for _, n := range far() {
			p := Plan{Workers: n, Cap: size}
			want := uint64(n) * (uint64(size) + 2)
			for _, p := range []Plan{p, with(func(q *Plan) { q.Workers, q.Cap = n, size })} {
				if got := state.Deque(p, n); uint64(got) != (uint64(n)-1)*(uint64(size)+2) {
					t.Errorf("worker %d, %d places: %d", n, size, got)
				}
				if got := state.Full(p); uint64(got) != want {
					t.Errorf("%d workers, %d places: full at %d", n, size, got)
				}
				if got := state.Empty(p); uint64(got) != want+1 {
					t.Errorf("%d workers, %d places: empty at %d", n, size, got)
				}
				if got := state.Next(p); uint64(got) != want+1 {
					t.Errorf("%d workers, %d places: next at %d", n, size, got)
				}
			}
		}
	}
}

// pushAll pushes objects on worker w's deque, as many as it takes, and tells how
// many these are.
func pushAll(m mem.Mem, p Plan, w int) (mem.Mem, int) {
	for n := 0; ; n++ {
		d := deque.Start(deque.Push, state.Deque(p, w), p.Cap, 100*w+n)
		for d.Out == deque.Going {
			m, d = deque.Step(m, d)
		}
		if d.Out != deque.Done {
			return m, n
		}
	}
}

// popAll pops a list, and tells what was in it.
func popAll(m mem.Mem, head, next int) (mem.Mem, []int) {
	var l []int
	for {
		c := chain.Start(chain.Pop, head, next, 0)
		for c.Out == chain.Going {
			m, c = chain.Step(m, c)
		}
		if c.Out != chain.Done {
			return m, l
		}
		l = append(l, c.X)
	}
}

// P13.2: what is done on one deque, or list, leaves all others as they are.
func TestPlacesAreApart(t *testing.T) {
	for i, p := range plans() {
		s := state.New(p)
		full := chain.List(s.M, state.Full(p), state.Next(p), 1000)
		m := s.M
		for w := 1; w <= p.Workers; w++ {
			var n int
			if m, n = pushAll(m, p, w); n != p.Cap {
				t.Fatalf("%d: deque %d took %d", i, w, n)
			}
		}
		m, empty := popAll(m, state.Empty(p), state.Next(p))
		for _, b := range empty {
			c := chain.Start(chain.Push, state.Full(p), state.Next(p), b)
			for c.Out == chain.Going {
				m, c = chain.Step(m, c)
			}
		}
		slices.Reverse(empty)
		if m, got := popAll(m, state.Full(p), state.Next(p)); !slices.Equal(got, append(empty, full...)) || len(got) != plan.Bins(p) || len(m) != len(s.M) {
			t.Fatalf("%d: bins %v", i, got)
		}
		for w := 1; w <= p.Workers; w++ {
			items := deque.Items(m, state.Deque(p, w), p.Cap, deque.Machine{})
			if len(items) != p.Cap || items[0] != 100*w || items[p.Cap-1] != 100*w+p.Cap-1 {
				t.Fatalf("%d: deque %d has %v", i, w, items)
			}
		}
	}
}
