package plan_test

import (
	"math"
	"reflect"
	"slices"
	"testing"

	"besom/api"
	"besom/code"
	"besom/heap"
	"besom/pick"
	"besom/plan"
	"besom/set"
)

// Plan and Op are short for the tables.
type (
	Plan = plan.Plan
	Op   = code.Op
)

// The numbers that the document names.
const (
	maxObjects  = 64
	maxMachines = 16
	maxRegs     = 4
	maxOps      = 64
	maxPicks    = 100000
	maxCap      = 16
	maxBuf      = 8
	maxPrice    = 1000000
)

// small is a right plan, each time in memory of its own.
func small() Plan {
	return Plan{
		Workers: 2, Mutators: 2, Cap: 4, Buf: 2, Bin: 3, Most: 8, Price: 5, Limit: 7,
		H:     heap.Heap{Slots: 2, Objs: [][]int{{2, 0}, {3, 0}, {0, 0}, {0, 4}, {0, 0}}},
		Roots: 1,
		Regs:  [][]int{{1, 0}, {4}},
		Progs: [][]Op{{{Kind: code.Load, R: 1}, {Kind: code.Store, R: 1}}, {}},
		Picks: []pick.Pick{{}, {Kind: pick.Worker, N: 1}, {Kind: pick.Worker, N: 2}, {Kind: pick.Mutator, N: 1}, {Kind: pick.Mutator, N: 2}},
	}
}

// with is the small plan, turned.
func with(turn func(p *Plan)) Plan {
	p := small()
	turn(&p)
	return p
}

// kept is p, in memory of its own.
func kept(p Plan) Plan {
	p.H.Objs = rows(p.H.Objs)
	p.Regs = rows(p.Regs)
	p.Progs = rows(p.Progs)
	p.Picks = slices.Clone(p.Picks)
	return p
}

// rows is l, in memory of its own.
func rows[T any](l [][]T) [][]T {
	l = slices.Clone(l)
	for i := range l {
		l[i] = slices.Clone(l[i])
	}
	return l
}

// alike tells whether a and b are the same, without a call to the package's own.
func alike(a, b Plan) bool {
	return reflect.DeepEqual(normed(a), normed(b))
}

// normed is p with no list that is nil.
func normed(p Plan) Plan {
	p.H.Objs, p.Regs, p.Progs = full(p.H.Objs), full(p.Regs), full(p.Progs)
	p.Picks = append([]pick.Pick{}, p.Picks...)
	return p
}

// full is l with no list that is nil.
func full[T any](l [][]T) [][]T {
	told := [][]T{}
	for _, row := range l {
		told = append(told, append([]T{}, row...))
	}
	return told
}

// far are numbers at the edges of the limits, and of 64 bits.
func far() []int {
	return []int{math.MinInt, math.MinInt + 1, -1 << 32, -64, -2, -1, 0, 1, 2, 3, 4, 5, 7, 8, 9, 15, 16, 17, 63, 64, 65, 66, 999999, 1000000, 1000001, 1 << 32, 1<<32 + 1, 1<<32 + 5, math.MaxInt - 1, math.MaxInt}
}

// field is a number of a plan, and from where to where it is right.
type field struct {
	name        string
	put         func(p *Plan, n int)
	least, most int
}

// fields are the numbers of a plan, but Mutators, and where they are right in the
// small one.
func fields() []field {
	return []field{
		{"Workers", func(p *Plan, n int) { p.Workers = n }, 1, maxMachines},
		{"Cap", func(p *Plan, n int) { p.Cap = n }, 1, maxCap},
		{"Buf", func(p *Plan, n int) { p.Buf = n }, 1, maxBuf},
		{"Bin", func(p *Plan, n int) { p.Bin = n }, 1, maxBuf},
		{"Most", func(p *Plan, n int) { p.Most = n }, 5, maxObjects},
		{"Price", func(p *Plan, n int) { p.Price = int64(n) }, 0, maxPrice},
		{"Limit", func(p *Plan, n int) { p.Limit = int64(n) }, 0, maxPrice},
	}
}

// random is a source of numbers by a short rule.
type random uint64

// under tells a number from 0 to n - 1.
func (r *random) under(n int) int {
	*r = *r*6364136223846793005 + 1442695040888963407
	return int(uint64(*r)>>33) % n
}

// from tells a number from least to most.
func (r *random) from(least, most int) int {
	return least + r.under(most-least+1)
}

// edge tells a number from least to most, often one of these.
func (r *random) edge(least, most int) int {
	switch r.under(4) {
	case 0:
		return least
	case 1:
		return most
	}
	return r.from(least, most)
}

// op tells an op that is right.
func (r *random) op(regs, slots int) Op {
	o := Op{Kind: r.from(code.Load, code.Null), R: r.under(regs)}
	switch o.Kind {
	case code.Load, code.Store:
		o.A, o.S = r.under(regs), r.under(slots)
	case code.Move:
		o.A = r.under(regs)
	}
	return o
}

// heap tells a heap that is right, with n objects.
func (r *random) heap(n int) heap.Heap {
	h := heap.Heap{Slots: r.from(1, 4)}
	for range n {
		slots := make([]int, h.Slots)
		for s := range slots {
			slots[s] = r.from(0, n) * r.under(2)
		}
		h.Objs = append(h.Objs, slots)
	}
	return h
}

// plan tells a plan that is right.
func (r *random) plan() Plan {
	n := r.edge(0, maxObjects)
	p := Plan{
		Workers: r.edge(1, maxMachines), Mutators: r.edge(0, maxMachines),
		Cap: r.edge(1, maxCap), Buf: r.edge(1, maxBuf), Bin: r.edge(1, maxBuf), Most: r.edge(n, maxObjects),
		Price: int64(r.edge(0, maxPrice)), Limit: int64(r.edge(0, maxPrice)),
		H: r.heap(n),
	}
	for range r.under(5) {
		p.Roots |= set.First(n) & (1 << r.under(64))
	}
	for range p.Mutators {
		regs := make([]int, r.from(1, maxRegs))
		for i := range regs {
			regs[i] = r.edge(0, n)
		}
		var l []Op
		for range r.edge(0, maxOps) {
			l = append(l, r.op(len(regs), p.H.Slots))
		}
		p.Regs, p.Progs = append(p.Regs, regs), append(p.Progs, l)
	}
	all := pick.Round(p.Workers, p.Mutators)
	for range r.edge(0, 100) {
		p.Picks = append(p.Picks, all[r.under(len(all))])
	}
	return p
}

// P12.1: plans that are right: the small one, the least ones, the greatest one.
func TestRight(t *testing.T) {
	least := Plan{Workers: 1, Cap: 1, Buf: 1, Bin: 1, H: heap.Heap{Slots: 1}}
	greatest := Plan{
		Workers: maxMachines, Mutators: maxMachines, Cap: maxCap, Buf: maxBuf, Bin: maxBuf, Most: maxObjects, Price: maxPrice, Limit: maxPrice,
		H:     heap.Heap{Slots: 4, Objs: slices.Repeat([][]int{{64, 1, 0, 64}}, maxObjects)},
		Roots: math.MaxUint64,
		Regs:  slices.Repeat([][]int{{64, 64, 1, 0}}, maxMachines),
		Progs: slices.Repeat([][]Op{slices.Repeat([]Op{{Kind: code.Store, R: 3, A: 3, S: 3}}, maxOps)}, maxMachines),
		Picks: slices.Repeat([]pick.Pick{{Kind: pick.Worker, N: 16}, {Kind: pick.Mutator, N: 16}}, maxPicks/2),
	}
	for i, p := range []Plan{small(), least, greatest} {
		if !plan.Right(p) {
			t.Errorf("%d is not right", i)
		}
	}
	r := random(121)
	for range 500 {
		if p := r.plan(); !plan.Right(p) {
			t.Fatalf("%+v is not right", p)
		}
	}
}

// P12.1: each number, at its edges and far off.
func TestRightOfEachNumber(t *testing.T) {
	for _, f := range fields() {
		for _, n := range append(far(), 6, 10, 62) {
			p := small()
			p.Picks = nil
			f.put(&p, n)
			if got := plan.Right(p); got != (f.least <= n && n <= f.most) {
				t.Errorf("%s %d: %v", f.name, n, got)
			}
		}
	}
}

// P12.1: as many registers and programs as mutators, and no more of these than
// there may be.
func TestRightOfMutators(t *testing.T) {
	for _, n := range far() {
		for _, regs := range []int{0, 1, 2, 16, 17} {
			for _, progs := range []int{0, 1, 2, 16, 17} {
				p := small()
				p.Picks = nil
				p.Mutators, p.Regs, p.Progs = n, slices.Repeat([][]int{{1}}, regs), make([][]Op, progs)
				if got := plan.Right(p); got != (n == regs && n == progs && n <= maxMachines) {
					t.Errorf("%d mutators, %d and %d: %v", n, regs, progs, got)
				}
			}
		}
	}
}

// P12.1: how many registers, and what is in them, of each mutator.
func TestRightOfRegs(t *testing.T) {
	for n := range 7 {
		for i := range 2 {
			p := with(func(p *Plan) { p.Regs[i], p.Progs[i] = make([]int, n), nil })
			if got := plan.Right(p); got != (1 <= n && n <= maxRegs) {
				t.Errorf("%d registers of %d: %v", n, i, got)
			}
		}
	}
	for _, v := range append(far(), 6) {
		for n := 1; n <= maxRegs; n++ {
			for i := range n {
				p := with(func(p *Plan) { p.Regs[1] = make([]int, n); p.Regs[1][i] = v })
				if got := plan.Right(p); got != (0 <= v && v <= 5) {
					t.Errorf("%d in register %d of %d: %v", v, i, n, got)
				}
			}
		}
	}
}

// P12.1: a program fits its own mutator's registers, and the heap's slots.
func TestRightOfProgs(t *testing.T) {
	null := Op{Kind: code.Null}
	for i, c := range []struct {
		first, second []Op
		want          bool
	}{
		{nil, nil, true},
		{[]Op{{Kind: code.Null, R: 1}}, nil, true},
		{nil, []Op{{Kind: code.Null, R: 1}}, false},
		{[]Op{{Kind: code.Null, R: 2}}, nil, false},
		{[]Op{{Kind: code.Load, A: 1}}, []Op{null}, true},
		{[]Op{null}, []Op{{Kind: code.Load, A: 1}}, false},
		{[]Op{{Kind: code.Store, S: 1}}, []Op{{Kind: code.Load, S: 1}}, true},
		{[]Op{{Kind: code.Store, S: 2}}, nil, false},
		{nil, []Op{{Kind: code.Load, S: 2}}, false},
		{nil, []Op{null, null, {}}, false},
		{[]Op{{Kind: 6}}, nil, false},
		{[]Op{{Kind: code.New, A: 1}}, nil, false},
		{[]Op{{Kind: code.New, R: -1}}, nil, false},
		{slices.Repeat([]Op{null}, maxOps), slices.Repeat([]Op{null}, maxOps), true},
		{slices.Repeat([]Op{null}, maxOps+1), nil, false},
		{nil, slices.Repeat([]Op{null}, maxOps+1), false},
	} {
		p := with(func(p *Plan) { p.Progs = [][]Op{c.first, c.second} })
		if got := plan.Right(p); got != c.want {
			t.Errorf("%d: %v", i, got)
		}
	}
}

// P12.1: the heap is right, Most has room for it, and the roots are its own.
func TestRightOfHeap(t *testing.T) {
	for i, h := range []heap.Heap{
		{},
		{Slots: 0, Objs: [][]int{{}, {}, {}, {}, {}}},
		{Slots: 3, Objs: small().H.Objs},
		{Slots: 2, Objs: [][]int{{6, 0}, {0, 0}, {0, 0}, {0, 0}, {0, 0}}},
		{Slots: 2, Objs: [][]int{{0, 0}, {0, 0}, {0, 0}, {0, -1}, {0, 0}}},
		{Slots: 2, Objs: [][]int{{0, 0}, {0, 0}, {0, 0}, {0, 0}, {0}}},
		{Slots: 5, Objs: slices.Repeat([][]int{make([]int, 5)}, 5)},
	} {
		if plan.Right(with(func(p *Plan) { p.H, p.Progs = h, make([][]Op, 2) })) {
			t.Errorf("%d is right", i)
		}
	}
	for n := range maxObjects + 3 {
		for _, most := range []int{-1, 0, n - 1, n, n + 1, 63, 64, 65, 66, math.MaxInt} {
			p := with(func(p *Plan) {
				p.H, p.Most, p.Roots = heap.Heap{Slots: 2, Objs: slices.Repeat([][]int{{0, 0}}, n)}, most, 0
				p.Regs = [][]int{{0, 0}, {0}}
			})
			if got := plan.Right(p); got != (n <= most && most <= maxObjects) {
				t.Errorf("%d objects, Most %d: %v", n, most, got)
			}
			for o := range 64 {
				p.Roots = 1 << o
				if got := plan.Right(p); got != (n <= most && most <= maxObjects && o < n) {
					t.Errorf("%d objects, Most %d, root %d: %v", n, most, o+1, got)
				}
			}
		}
	}
}

// P12.1: no more picks than there may be, each of a machine that there is.
func TestRightOfPicks(t *testing.T) {
	for i, c := range []struct {
		l    []pick.Pick
		want bool
	}{
		{nil, true},
		{[]pick.Pick{{}}, true},
		{[]pick.Pick{{N: 1}}, false},
		{[]pick.Pick{{Kind: pick.Worker, N: 2}}, true},
		{[]pick.Pick{{Kind: pick.Worker, N: 3}}, false},
		{[]pick.Pick{{Kind: pick.Worker, N: 0}}, false},
		{[]pick.Pick{{Kind: pick.Mutator, N: 1}}, true},
		{[]pick.Pick{{Kind: pick.Mutator, N: 2}}, false},
		{[]pick.Pick{{Kind: 3}}, false},
		{[]pick.Pick{{}, {}, {}, {Kind: pick.Mutator, N: -1}}, false},
		{make([]pick.Pick, maxPicks), true},
		{make([]pick.Pick, maxPicks+1), false},
	} {
		p := with(func(p *Plan) {
			p.Mutators, p.Regs, p.Progs, p.Picks = 1, p.Regs[:1], p.Progs[:1], c.l
		})
		if got := plan.Right(p); got != c.want {
			t.Errorf("%d: %v", i, got)
		}
	}
}

// P12.2: three numbers together, modulo 2^64.
func TestBins(t *testing.T) {
	if got := plan.Bins(Plan{Most: 8, Workers: 2, Mutators: 1}); got != 11 {
		t.Error(got)
	}
	if got := plan.Bins(small()); got != 12 {
		t.Error(got)
	}
	for _, a := range far() {
		for _, b := range far() {
			for _, c := range far() {
				p := small()
				p.Most, p.Workers, p.Mutators = a, b, c
				if got := plan.Bins(p); uint64(got) != uint64(a)+uint64(b)+uint64(c) {
					t.Fatalf("%d, %d, %d: %d", a, b, c, got)
				}
			}
		}
	}
}

// P12.2: the roots, and the objects in all registers.
func TestGreys(t *testing.T) {
	for i, c := range []struct {
		roots set.Set
		regs  [][]int
		want  []int
	}{
		{0, nil, nil},
		{0, [][]int{{}, nil}, nil},
		{0, [][]int{{0, 0}, {0}}, nil},
		{1, nil, []int{1}},
		{1, [][]int{{1, 0}, {4}}, []int{1, 4}},
		{0, [][]int{{3, 0, 2, 3}, {64}, {2, 5}}, []int{2, 3, 5, 64}},
		{1 << 63, [][]int{{1}, {64}}, []int{1, 64}},
		{0b110, [][]int{{5}, {6}, {7}}, []int{2, 3, 5, 6, 7}},
		{0b1, [][]int{{65, -1, 2, math.MaxInt}, {math.MinInt, 1 << 32, 1<<32 + 3}}, []int{1, 2}},
		{0b1, [][]int{{2, 3, 4, 5, 6, 7, 8}}, []int{1, 2, 3, 4, 5, 6, 7, 8}},
		{math.MaxUint64, [][]int{{1}}, set.List(math.MaxUint64)},
	} {
		if got := plan.Greys(Plan{Roots: c.roots, Regs: c.regs}); !slices.Equal(set.List(got), c.want) {
			t.Errorf("%d: %s", i, set.Text(got))
		}
	}
}

// P12.2: what is reached from the roots, and from each register.
func TestLive(t *testing.T) {
	h := heap.Heap{Slots: 2, Objs: [][]int{{2, 0}, {3, 0}, {0, 0}, {0, 5}, {4, 0}, {6, 3}}}
	for i, c := range []struct {
		h     heap.Heap
		roots set.Set
		regs  [][]int
		want  []int
	}{
		{h, 0, nil, nil},
		{h, 0b1, nil, []int{1, 2, 3}},
		{h, 0b10, [][]int{{0, 0}}, []int{2, 3}},
		{h, 0, [][]int{{0, 0}, {2}}, []int{2, 3}},
		{h, 0b1, [][]int{{0}, {0, 4}}, []int{1, 2, 3, 4, 5}},
		{h, 0, [][]int{{6}, {5}}, []int{3, 4, 5, 6}},
		{h, 1 << 40, [][]int{{7, -1, 64, 65}}, nil},
		{heap.Heap{}, 1, [][]int{{1}}, nil},
		{heap.Heap{Slots: -3, Objs: [][]int{{9, 3}, nil, {2, 2, 2, 2, 2, -1}}}, 1, nil, []int{1, 2, 3}},
	} {
		if got := plan.Live(Plan{H: c.h, Roots: c.roots, Regs: c.regs}); !slices.Equal(set.List(got), c.want) {
			t.Errorf("%d: %s", i, set.Text(got))
		}
	}
}

// P12.2: the writes of all programs, one as well as the other.
func TestWrites(t *testing.T) {
	store, load := Op{Kind: code.Store}, Op{Kind: code.Load}
	for i, c := range []struct {
		l    [][]Op
		want int
	}{
		{nil, 0},
		{[][]Op{nil, {}}, 0},
		{[][]Op{{load, load}, {{}}}, 0},
		{[][]Op{{load, store}}, 1},
		{[][]Op{{store}, nil, {store, load, store}}, 3},
		{slices.Repeat([][]Op{slices.Repeat([]Op{store}, maxOps)}, maxMachines), 1024},
		{slices.Repeat([][]Op{slices.Repeat([]Op{store, load}, 100)}, 100), 10000},
	} {
		if got := plan.Writes(Plan{Progs: c.l}); got != c.want {
			t.Errorf("%d: %d", i, got)
		}
	}
}

// turns are ways to turn the small plan, each of which makes it another one.
func turns() []func(p *Plan) {
	return []func(p *Plan){
		func(p *Plan) {},
		func(p *Plan) { *p = Plan{} },
		func(p *Plan) { p.Workers = 3 },
		func(p *Plan) { p.Workers += 1 << 32 },
		func(p *Plan) { p.Mutators = 3 },
		func(p *Plan) { p.Workers, p.Mutators = 3, 1 },
		func(p *Plan) { p.Cap = -4 },
		func(p *Plan) { p.Buf = 3 },
		func(p *Plan) { p.Bin = 2 },
		func(p *Plan) { p.Buf, p.Bin = 3, 2 },
		func(p *Plan) { p.Most = 9 },
		func(p *Plan) { p.Price = 6 },
		func(p *Plan) { p.Limit = 8 },
		func(p *Plan) { p.Limit += 1 << 32 },
		func(p *Plan) { p.Price, p.Limit = 7, 5 },
		func(p *Plan) { p.H.Slots = 3 },
		func(p *Plan) { p.H.Objs[3][1] = 3 },
		func(p *Plan) { p.H.Objs[3][1] = 1 << 32 },
		func(p *Plan) { p.H.Objs = p.H.Objs[:4] },
		func(p *Plan) { p.H.Objs[4] = p.H.Objs[4][:1] },
		func(p *Plan) { p.Roots = 3 },
		func(p *Plan) { p.Roots |= 1 << 63 },
		func(p *Plan) { p.Regs[0][1] = 1 },
		func(p *Plan) { p.Regs[1][0] = 3 },
		func(p *Plan) { p.Regs[1] = append(p.Regs[1], 0) },
		func(p *Plan) { p.Regs = append(p.Regs, nil) },
		func(p *Plan) { p.Regs = p.Regs[:1] },
		func(p *Plan) { p.Regs[0], p.Regs[1] = p.Regs[1], p.Regs[0] },
		func(p *Plan) { p.Progs[0][1].S = 1 },
		func(p *Plan) { p.Progs[0] = p.Progs[0][:1] },
		func(p *Plan) { p.Progs[1] = append(p.Progs[1], Op{}) },
		func(p *Plan) { p.Progs = append(p.Progs, nil) },
		func(p *Plan) { p.Progs[0], p.Progs[1] = p.Progs[1], p.Progs[0] },
		func(p *Plan) { p.Picks = p.Picks[:4] },
		func(p *Plan) { p.Picks = append(p.Picks, pick.Pick{}) },
		func(p *Plan) { p.Picks[0], p.Picks[1] = p.Picks[1], p.Picks[0] },
		func(p *Plan) { p.Picks[0].N = 1 },
	}
}

// P12.2: the same are plans whose fields are, one by one, be they right or not.
func TestSame(t *testing.T) {
	for i, a := range turns() {
		for j, b := range turns() {
			p, q := with(a), with(b)
			if got := plan.Same(p, q); got != (i == j) {
				t.Errorf("%d and %d: %v", i, j, got)
			}
		}
	}
	mutators := field{"Mutators", func(p *Plan, n int) { p.Mutators = n }, 0, maxMachines}
	for _, f := range append(fields(), mutators) {
		for _, n := range far() {
			for _, m := range far() {
				p, q := with(func(p *Plan) { f.put(p, n) }), with(func(p *Plan) { f.put(p, m) })
				if got := plan.Same(p, q); got != (n == m) {
					t.Errorf("%s %d and %d: %v", f.name, n, m, got)
				}
			}
		}
	}
	r := random(122)
	for range 300 {
		p, q := r.plan(), r.plan()
		if !plan.Same(p, kept(p)) || plan.Same(p, q) != alike(p, q) {
			t.Fatalf("%+v and %+v", p, q)
		}
	}
}

// P5: a list of nothing may be nil or empty.
func TestListOfNothing(t *testing.T) {
	a := Plan{Workers: 1, Cap: 1, Buf: 1, Bin: 1, H: heap.Heap{Slots: 1}}
	b := a
	b.H.Objs, b.Regs, b.Progs, b.Picks = [][]int{}, [][]int{}, [][]Op{}, []pick.Pick{}
	if !plan.Same(a, b) || !plan.Same(b, a) || !plan.Right(a) || !plan.Right(b) || plan.Text(a) != plan.Text(b) {
		t.Error("nothing is not nothing")
	}
	a, b = Plan{Regs: [][]int{nil}, Progs: [][]Op{{}}}, Plan{Regs: [][]int{{}}, Progs: [][]Op{nil}}
	if !plan.Same(a, b) || plan.Same(a, Plan{}) || plan.Same(Plan{Regs: [][]int{{}}}, Plan{}) {
		t.Error("a list that has nothing is not like another one")
	}
}

// anyPlans are plans of which few are right.
func anyPlans() []Plan {
	l := []Plan{{}, {Regs: make([][]int, 3)}, {Progs: make([][]Op, 3)}, {Mutators: 2}, {Mutators: 1, Regs: make([][]int, 1)}}
	for _, turn := range turns() {
		l = append(l, with(turn))
	}
	for _, n := range far() {
		for _, f := range fields() {
			l = append(l, with(func(p *Plan) { f.put(p, n) }))
		}
		l = append(l,
			with(func(p *Plan) { p.Mutators = n }),
			with(func(p *Plan) { p.H.Slots = n }),
			with(func(p *Plan) { p.H.Objs[1][1] = n }),
			with(func(p *Plan) { p.Roots = set.Set(n) }),
			with(func(p *Plan) { p.Regs[1][0] = n }),
			with(func(p *Plan) { p.Progs[0][1] = Op{Kind: n, R: n, A: n, S: n} }),
			with(func(p *Plan) { p.Progs[0][0].S = n }),
			with(func(p *Plan) { p.Picks[3] = pick.Pick{Kind: n, N: n} }),
			with(func(p *Plan) { p.Picks[3].N = n }),
		)
	}
	return append(l, Plan{H: heap.Heap{Slots: 1, Objs: make([][]int, 1<<12)}, Regs: make([][]int, 1<<12), Progs: make([][]Op, 1<<12), Picks: make([]pick.Pick, maxPicks+1)})
}

// P1: every call ends, and none panics, at all plans; and what is not right has
// no text.
func TestEnds(t *testing.T) {
	right := 0
	for i, p := range anyPlans() {
		plan.Bins(p)
		plan.Writes(p)
		if !set.Under(p.Roots, plan.Greys(p)) || !set.Under(plan.Live(p), set.First(len(p.H.Objs))) {
			t.Errorf("%d: %v, %v", i, plan.Greys(p), plan.Live(p))
		}
		if !plan.Same(p, p) {
			t.Errorf("%d is not the same", i)
		}
		if plan.Right(p) {
			right++
		}
		if text := plan.Text(p); plan.Right(p) != (text != "") {
			t.Errorf("%d: %q", i, text)
		}
	}
	if right == 0 {
		t.Error("none is right")
	}
}

// P3: nothing that is handed in is written into, nor what stands behind it.
func TestNothingIsWrittenInto(t *testing.T) {
	whole := small()
	whole.Progs[0][0].R = 0
	p := whole
	p.Mutators, p.Regs, p.Progs = 1, [][]int{whole.Regs[0][:1]}, [][]Op{whole.Progs[0][:1]}
	p.H.Objs, p.Picks = whole.H.Objs[:4], whole.Picks[:2]
	want := kept(whole)
	for _, q := range []Plan{p, whole} {
		plan.Right(q)
		plan.Bins(q)
		plan.Greys(q)
		plan.Live(q)
		plan.Writes(q)
		plan.Same(q, q)
		if plan.Text(q) == "" {
			t.Error("not right")
		}
	}
	if !alike(whole, want) {
		t.Errorf("%+v", whole)
	}
}

// P3: what is parsed is new, and no two lists of it are one.
func TestNothingIsShared(t *testing.T) {
	s := plan.Text(small())
	p, e := plan.Parse(s)
	q, _ := plan.Parse(s)
	if e != api.OK || !alike(p, small()) {
		t.Fatal(e, p)
	}
	for i := range p.Regs {
		p.Regs[i] = append(p.Regs[i], 9)
		p.Progs[i] = append(p.Progs[i], Op{Kind: 9})
		clear(p.Regs[i])
		clear(p.Progs[i])
		if i == 0 && (!slices.Equal(p.Regs[1], []int{4}) || len(p.Progs[1]) != 0) {
			t.Error(p.Regs, p.Progs)
		}
	}
	for _, slots := range p.H.Objs {
		clear(slots[:cap(slots)])
	}
	clear(p.Regs[:cap(p.Regs)])
	clear(p.Progs[:cap(p.Progs)])
	clear(p.Picks[:cap(p.Picks)])
	third, _ := plan.Parse(s)
	if !alike(q, small()) || !alike(third, small()) {
		t.Error(q, third)
	}
}

// P4: the same arguments tell the same, again and again.
func TestSameAgain(t *testing.T) {
	r := random(4)
	for range 40 {
		p := r.plan()
		s := plan.Text(p)
		for range 5 {
			q, e := plan.Parse(s)
			if e != api.OK || !alike(p, q) || plan.Text(kept(p)) != s || plan.Live(kept(p)) != plan.Live(p) {
				t.Fatal(s, e)
			}
		}
	}
}
