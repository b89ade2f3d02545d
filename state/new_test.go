package state_test

import (
	"math"
	"reflect"
	"slices"
	"testing"

	"besom/chain"
	"besom/code"
	"besom/deque"
	"besom/heap"
	"besom/ledger"
	"besom/mem"
	"besom/pick"
	"besom/plan"
	"besom/set"
	"besom/state"
	"besom/tint"
)

// P13.3: the small plan's state, field by field.
func TestNew(t *testing.T) {
	p := small()
	want := State{
		P: p,
		H: heap.Heap{Slots: 2, Objs: [][]int{{2, 0}, {3, 0}, {0, 0}, {0, 4}, {0, 0}, {6, 1}, {0, 0}}},
		M: mem.Mem{
			1, 1, 0, 0, 0,
			1, 1, 0, 0, 0,
			1, 4,
			2, 3, 0, 5, 6, 7, 8, 9, 10, 11, 12, 0,
		},
		Bins: [][]int{nil, {1, 2}, {4, 5}, {7}, nil, nil, nil, nil, nil, nil, nil, nil, nil},
		T:    tint.Tint{Marks: 0b1011011},
		Work: 5,
		Acks: []int{0, 0},
		L:    ledger.Ledger{Bal: []int64{0, 0}},
		Ws: []state.Worker{
			{Victim: 1, D: deque.Machine{Kind: deque.Pop, Cap: 3}},
			{Victim: 2, D: deque.Machine{Kind: deque.Pop, Base: 5, Cap: 3}},
		},
		Ms: []state.Mutator{{Regs: []int{1, 0, 5}}, {Regs: []int{4}}},
	}
	if got := state.New(p); !alike(got, want) {
		t.Errorf("%+v\nnot\n%+v", got, want)
	}
}

// P13.3: of the least plan there is one worker, with a deque of one place, and
// one bin.
func TestNewOfLeast(t *testing.T) {
	want := State{
		P:    least(),
		H:    heap.Heap{Slots: 1},
		M:    mem.Mem{1, 1, 0, 0, 1, 0},
		Bins: [][]int{nil, nil},
		Ws:   []state.Worker{{Victim: 1, D: deque.Machine{Kind: deque.Pop, Cap: 1}}},
	}
	if got := state.New(least()); !alike(got, want) {
		t.Errorf("%+v", got)
	}
}

// greysOf tells the greys of p by the words of chapter 12, rising.
func greysOf(p Plan) []int {
	var l []int
	for o := 1; o <= len(p.H.Objs); o++ {
		in := p.Roots>>(o-1)&1 == 1
		for _, regs := range p.Regs {
			in = in || slices.Contains(regs, o)
		}
		if in {
			l = append(l, o)
		}
	}
	return l
}

// plainly tells New of p, which is right, by the chapter's words.
func plainly(p Plan) State {
	s := State{P: p, H: p.H, M: make(mem.Mem, p.Workers*(p.Cap+2)+2+p.Most+p.Workers+p.Mutators)}
	greys, bins := greysOf(p), p.Most+p.Workers+p.Mutators
	for w := range p.Workers {
		base := w * (p.Cap + 2)
		s.M[base], s.M[base+1] = 1, 1
		s.Ws = append(s.Ws, state.Worker{Victim: w + 1, D: deque.Machine{Kind: 2, Base: base, Cap: p.Cap}})
	}
	for m := range p.Mutators {
		s.Ms = append(s.Ms, state.Mutator{Regs: p.Regs[m]})
		s.Acks, s.L.Bal = append(s.Acks, 0), append(s.L.Bal, 0)
	}
	s.Bins = make([][]int, bins+1)
	last := 0
	for i, o := range greys {
		s.T.Marks |= 1 << (o - 1)
		s.Work++
		last = i/p.Bin + 1
		s.Bins[last] = append(s.Bins[last], o)
	}
	heads := p.Workers * (p.Cap + 2)
	s.M[heads], s.M[heads+1] = uint64(min(last, 1)), uint64(last+1)
	for b := 1; b <= bins; b++ {
		if b != last && b != bins {
			s.M[heads+1+b] = uint64(b + 1)
		}
	}
	return s
}

// P13.3: of whatever right plan, as the words say.
func TestNewOfEach(t *testing.T) {
	met := map[string]bool{}
	for i, p := range plans() {
		got, want := state.New(p), plainly(p)
		if !alike(got, want) {
			t.Fatalf("%d: %+v\nnot\n%+v", i, got, want)
		}
		greys := len(greysOf(p))
		met["none"] = met["none"] || greys == 0
		met["all"] = met["all"] || greys == maxObjects
		met["a bin that is full"] = met["a bin that is full"] || greys > 0 && greys%p.Bin == 0
		met["a bin that is not"] = met["a bin that is not"] || greys > p.Bin && greys%p.Bin != 0
	}
	if len(met) != 4 || !met["none"] || !met["all"] || !met["a bin that is full"] || !met["a bin that is not"] {
		t.Error(met)
	}
}

// P13.3: as many greys as there are, in bins of each size: which bins have some,
// and what the two lists have.
func TestBins(t *testing.T) {
	for n := range maxObjects + 1 {
		for size := 1; size <= maxBuf; size++ {
			p := least()
			p.H.Objs, p.Roots, p.Bin, p.Most = slices.Repeat([][]int{{0}}, n), set.First(n), size, n
			s := state.New(p)
			var flat, full, empty []int
			for b := 1; b < len(s.Bins); b++ {
				flat = append(flat, s.Bins[b]...)
				if len(s.Bins[b]) > 0 {
					full = append(full, b)
				} else {
					empty = append(empty, b)
				}
				if left := n - (b-1)*size; len(s.Bins[b]) != max(min(left, size), 0) {
					t.Fatalf("%d in bins of %d: bin %d has %v", n, size, b, s.Bins[b])
				}
			}
			if len(s.Bins) != n+2 || len(s.Bins[0]) != 0 || !slices.Equal(flat, set.List(set.First(n))) {
				t.Fatalf("%d in bins of %d: %v", n, size, s.Bins)
			}
			if l := chain.List(s.M, state.Full(p), state.Next(p), 1000); !slices.Equal(l, full) {
				t.Fatalf("%d in bins of %d: full %v", n, size, l)
			}
			if l := chain.List(s.M, state.Empty(p), state.Next(p), 1000); !slices.Equal(l, empty) {
				t.Fatalf("%d in bins of %d: empty %v", n, size, l)
			}
		}
	}
}

// P13.3: what leads to nothing is grey too, what is reached by slots alone is
// not, and what is there more than once is in one bin, once.
func TestGreysOfNew(t *testing.T) {
	for i, c := range []struct {
		roots []int
		regs  [][]int
		want  []int
	}{
		{nil, [][]int{{0}, {0, 0}}, nil},
		{[]int{6}, [][]int{{0}, {0, 0}}, []int{6}},
		{nil, [][]int{{0}, {0, 3}}, []int{3}},
		{[]int{2}, [][]int{{2, 2}, {2}}, []int{2}},
		{[]int{7, 1}, [][]int{{6, 2, 1, 7}, {4, 3}}, []int{1, 2, 3, 4, 6, 7}},
	} {
		s := state.New(with(func(p *Plan) { p.Roots, p.Regs, p.Progs = set.Of(c.roots), c.regs, make([][]code.Op, 2) }))
		if got := slices.Concat(s.Bins...); !slices.Equal(got, c.want) || s.Work != len(c.want) || s.T != (tint.Tint{Marks: set.Of(c.want)}) {
			t.Errorf("%d: %v, %d, %v", i, got, s.Work, s.T)
		}
	}
}

// inLists tells whether all of l are from least to most.
func inLists(least, most int, l ...[]int) bool {
	for _, n := range slices.Concat(l...) {
		if n < least || n > most {
			return false
		}
	}
	return true
}

// P13.1: what New tells of a right plan is well laid.
func TestNewIsWellLaid(t *testing.T) {
	for i, p := range plans() {
		s := state.New(p)
		n := len(s.H.Objs)
		if !plan.Right(s.P) || !heap.Right(s.H) || !tint.Right(s.T, n) || !ledger.Right(s.L) {
			t.Errorf("%d is not right", i)
		}
		if len(s.M) != state.Next(p)+plan.Bins(p)+1 || len(s.Bins) != plan.Bins(p)+1 || len(s.Acks) != p.Mutators || len(s.L.Bal) != p.Mutators || len(s.Ws) != p.Workers || len(s.Ms) != p.Mutators {
			t.Errorf("%d has not as many as it should", i)
		}
		if !inLists(1, n, s.Bins...) || len(s.Bins[0]) != 0 {
			t.Errorf("%d: bins %v", i, s.Bins)
		}
		for j, m := range s.Ms {
			if !inLists(0, n, m.Regs) || len(m.Regs) != len(p.Regs[j]) || len(m.Buf) != 0 || len(m.Batch) != 0 {
				t.Errorf("%d: mutator %+v", i, m)
			}
		}
		for j, w := range s.Ws {
			if items := deque.Items(s.M, state.Deque(p, j+1), p.Cap, w.D); len(items) != 0 || len(w.Batch) != 0 {
				t.Errorf("%d: worker %+v, deque %v", i, w, items)
			}
		}
	}
}

// wrong are plans that are not right, each in one thing.
func wrong() []Plan {
	l := []Plan{{}}
	for _, turn := range []func(p *Plan){
		func(p *Plan) { p.Workers = 0 },
		func(p *Plan) { p.Workers = 17 },
		func(p *Plan) { p.Workers = 1 },
		func(p *Plan) { p.Workers = -1 },
		func(p *Plan) { p.Workers = math.MaxInt },
		func(p *Plan) { p.Mutators = 1 },
		func(p *Plan) { p.Mutators = 3 },
		func(p *Plan) { p.Mutators = -2 },
		func(p *Plan) { p.Cap = 0 },
		func(p *Plan) { p.Cap = -1 },
		func(p *Plan) { p.Cap = 17 },
		func(p *Plan) { p.Cap = math.MinInt },
		func(p *Plan) { p.Buf = 0 },
		func(p *Plan) { p.Buf = 9 },
		func(p *Plan) { p.Bin = 0 },
		func(p *Plan) { p.Bin = -1 },
		func(p *Plan) { p.Bin = 9 },
		func(p *Plan) { p.Most = 6 },
		func(p *Plan) { p.Most = 65 },
		func(p *Plan) { p.Most = math.MaxInt },
		func(p *Plan) { p.Price = -1 },
		func(p *Plan) { p.Price = 1000001 },
		func(p *Plan) { p.Limit = -1 },
		func(p *Plan) { p.Limit = 1000001 },
		func(p *Plan) { p.H.Slots = 3 },
		func(p *Plan) { p.H.Objs[2][1] = 8 },
		func(p *Plan) { p.H.Objs[2] = nil },
		func(p *Plan) { p.Roots |= 1 << 7 },
		func(p *Plan) { p.Roots = math.MaxUint64 },
		func(p *Plan) { p.Regs[1][0] = 8 },
		func(p *Plan) { p.Regs[1][0] = -1 },
		func(p *Plan) { p.Regs[1] = nil },
		func(p *Plan) { p.Regs[1] = make([]int, 5) },
		func(p *Plan) { p.Regs = p.Regs[:1] },
		func(p *Plan) { p.Progs = p.Progs[:1] },
		func(p *Plan) { p.Progs[1][0].R = 1 },
		func(p *Plan) { p.Progs[1] = make([]Op, 65) },
		func(p *Plan) { p.Picks[2].N = 3 },
		func(p *Plan) { p.Picks = make([]pick.Pick, maxPicks+1) },
	} {
		l = append(l, with(turn))
	}
	return l
}

// P13.3: of a plan that is not right, nothing; and not even an empty list.
func TestNewOfWrong(t *testing.T) {
	for i, p := range wrong() {
		if got := state.New(p); !reflect.DeepEqual(got, State{}) || !state.Same(got, State{}) {
			t.Errorf("%d: %+v", i, got)
		}
	}
}

// P1: of plans with numbers from far, nothing, or what is well laid.
func TestNewOfFar(t *testing.T) {
	told := 0
	for _, n := range far() {
		p := small()
		for i := range plains(partsOf(&p)) {
			q := small()
			x := plains(partsOf(&q))[i]
			turn(x.v, int64(n))
			got, want := state.New(q), State{}
			if plan.Right(q) {
				want = plainly(q)
				told++
			}
			if !alike(got, want) {
				t.Fatalf("%s, %d more: %+v", x.way, n, got)
			}
		}
	}
	if told == 0 {
		t.Error("none is right")
	}
}

// P3: the plan is not written into, nor what stands behind it; and what comes of
// it later on does nothing to the state.
func TestPlanIsLeft(t *testing.T) {
	whole := small()
	p := whole
	p.Mutators, p.Regs, p.Progs = 1, [][]int{whole.Regs[0][:2]}, [][]Op{whole.Progs[0][:1]}
	p.H.Objs, p.Picks, p.Roots = whole.H.Objs[:4], whole.Picks[:2], 1
	p.H.Objs[3] = []int{4, 4, 9}[:2]
	for _, q := range []Plan{p, whole} {
		was, all := kept(q), kept(whole)
		s := state.New(q)
		if !alike(q, was) || !alike(whole, all) || s.Work == 0 {
			t.Fatalf("%+v", q)
		}
		told := kept(s)
		for _, x := range plains(partsOf(&q)) {
			turn(x.v, 1)
		}
		if !alike(s, told) {
			t.Errorf("%+v", s)
		}
	}
}

// P3: no list that is told is, or lies in, another one, or one of the plan's.
func TestNewSharesNothing(t *testing.T) {
	p := small()
	for _, p := range []Plan{p, with(func(p *Plan) { p.Regs[1] = p.Regs[0]; p.H.Objs[1] = p.H.Objs[0] })} {
		s := state.New(p)
		if s.Work == 0 {
			t.Fatal("nothing")
		}
		apart(t, lists(partsOf(&s)), lists(partsOf(&p)))
	}
}

// P13.5, P4: what New tells is the same again.
func TestNewAgain(t *testing.T) {
	for i, p := range plans() {
		s := state.New(p)
		for range 3 {
			if again := state.New(kept(p)); !state.Same(s, again) || !alike(s, again) {
				t.Fatalf("%d: %+v", i, again)
			}
		}
	}
}
