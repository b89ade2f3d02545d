package grey_test

import (
	"math"
	"slices"
	"testing"

	"besom/chain"
	"besom/deque"
	"besom/grey"
	"besom/plan"
	"besom/set"
	"besom/state"
	"besom/tint"
)

// Where the small plan's cells are, as its comment says.
const (
	second = 4 // the deque of worker 2
	full   = 8
	empty  = 9
)

// takes is a machine that is to take an empty bin of the small plan, and gives
// one that is to bring back bin b.
func takes() chain.Machine {
	return chain.Machine{Kind: chain.Pop, Head: empty, Next: empty}
}

func gives(b int) chain.Machine {
	return chain.Machine{Kind: chain.Push, Head: full, Next: empty, X: b}
}

// pushes is a machine that is to put o into worker 2's deque.
func pushes(o int) deque.Machine {
	return deque.Machine{Kind: deque.Push, Base: second, Cap: 2, X: o}
}

// expect fails where the step of g on s does not tell these.
func expect(t *testing.T, name string, s State, g Grey, wantS State, wantG Grey) {
	t.Helper()
	gotS, gotG := grey.Step(s, g)
	if gotG != wantG {
		t.Errorf("%s: machine\n%+v, not\n%+v", name, gotG, wantG)
	}
	if !state.Same(gotS, wantS) {
		t.Errorf("%s: state\n%+v, not\n%+v", name, gotS, wantS)
	}
}

// but is s, turned.
func but(s State, turn func(s *State)) State {
	s = state.Copy(s)
	turn(&s)
	return s
}

// P14.1: the numbers of the modes, and of what has come of it; they are
// constants.
func TestNumbers(t *testing.T) {
	const modes, ends = grey.Deque*100 + grey.Flush*10 + grey.Assist, grey.Done
	if modes != 123 || ends != 1 {
		t.Error(modes, ends)
	}
}

// P14.1: a machine of whatever mode, object and who, all else 0.
func TestBegin(t *testing.T) {
	for _, mode := range far() {
		for _, o := range far() {
			for _, who := range far() {
				if got := grey.Begin(mode, o, who); got != (Grey{Mode: mode, Obj: o, Who: who}) {
					t.Fatalf("Begin(%d, %d, %d): %+v", mode, o, who, got)
				}
			}
		}
	}
}

// P14.2, PC 0: Work is one more, of whatever mode and object, modulo 2^64.
func TestCounts(t *testing.T) {
	for _, mode := range []int{grey.Deque, grey.Flush, grey.Assist} {
		for _, work := range []int{0, 1, 2, -1, 1 << 32, math.MaxInt, math.MinInt} {
			for _, o := range []int{1, 2, 7} {
				s := but(state.New(small()), func(s *State) { s.Work = work })
				g := grey.Begin(mode, o, 2)
				next := g
				next.PC = 1
				expect(t, "count", s, g, but(s, func(s *State) { s.Work = work + 1 }), next)
			}
		}
	}
}

// P14.2, PC 1: what is white becomes grey, and the mode says how it goes on;
// what is not white is left.
func TestShades(t *testing.T) {
	s := but(state.New(small()), func(s *State) { s.T.Black = set.Of([]int{5}) })
	for _, c := range []struct {
		name string
		mode int
		want Grey
	}{
		{"deque", grey.Deque, Grey{PC: 3, D: pushes(2)}},
		{"flush", grey.Flush, Grey{PC: 4}},
		{"assist", grey.Assist, Grey{PC: 5, C: takes()}},
	} {
		c.want.Mode, c.want.Obj, c.want.Who = c.mode, 2, 2
		g := grey.Begin(c.mode, 2, 2)
		g.PC = 1
		expect(t, c.name, s, g, but(s, func(s *State) { s.T.Marks = set.Of([]int{1, 2, 5}) }), c.want)
		for _, o := range []int{1, 5} {
			g.Obj = o
			next := g
			next.PC = 2
			expect(t, c.name+" of what is marked", s, g, s, next)
		}
	}
}

// P14.2, PC 1: what is no object is white, but can't be shaded; so is what is of
// Black alone.
func TestShadesNothing(t *testing.T) {
	s := but(state.New(small()), func(s *State) { s.T.Black = set.Of([]int{3}) })
	for _, o := range []int{0, -1, 3, 65, 1 << 32, math.MinInt, math.MaxInt} {
		g := grey.Begin(grey.Deque, o, 2)
		g.PC = 1
		next := g
		next.PC, next.D = 3, pushes(o)
		expect(t, "none", s, g, s, next)
	}
}

// P14.2, PC 1: each worker's own deque, of the plan's Cap; a who that is no
// worker has the place that the same sum tells, modulo 2^64.
func TestShadesForWhom(t *testing.T) {
	for _, p := range []Plan{small(), {Workers: 16, Cap: 16, Buf: 1, Bin: 1, Most: 3, H: small().H}} {
		p.H.Objs = [][]int{{0}, {0}, {0}}
		p.Roots, p.Mutators, p.Regs, p.Progs = 0, 0, nil, nil
		s := state.New(p)
		for _, who := range slices.Concat(far(), []int{10, 11, 14, 15}) {
			g := grey.Begin(grey.Deque, 2, who)
			g.PC = 1
			_, got := grey.Step(s, g)
			want := deque.Machine{Kind: deque.Push, Base: int((uint64(who) - 1) * uint64(p.Cap+2)), Cap: p.Cap, X: 2}
			if got.D != want || got.PC != 3 {
				t.Errorf("who %d: %+v", who, got)
			}
		}
	}
}

// P14.2, PC 2: Work is one less, and the machine is done.
func TestUncounts(t *testing.T) {
	for _, mode := range []int{grey.Deque, grey.Flush, grey.Assist} {
		for _, work := range []int{3, 1, 0, math.MinInt} {
			s := but(state.New(small()), func(s *State) { s.Work = work })
			g := grey.Begin(mode, 1, 2)
			g.PC = 2
			next := g
			next.Out = grey.Done
			expect(t, "uncount", s, g, but(s, func(s *State) { s.Work = work - 1 }), next)
		}
	}
}

// P14.2, PC 3: the deque's machine steps, to its end, which is this one's.
func TestPushes(t *testing.T) {
	s := state.New(small())
	g := Grey{PC: 3, Mode: grey.Deque, Obj: 2, Who: 2, D: pushes(2)}
	for i, d := range []deque.Machine{
		{PC: 1, B: 1},
		{PC: 2, B: 1, T: 1},
		{PC: 3, B: 1, T: 1},
		{PC: 4, B: 1, T: 1, Out: deque.Done},
	} {
		d.Kind, d.Base, d.Cap, d.X = deque.Push, second, 2, 2
		next := g
		next.D = d
		want := state.Copy(s)
		switch i {
		case 2:
			want.M[second+3] = 2
		case 3:
			want.M[second+1], next.Out = 2, grey.Done
		}
		expect(t, "push", s, g, want, next)
		s, g = grey.Step(s, g)
	}
	if got := deque.Items(s.M, second, 2, deque.Machine{}); !slices.Equal(got, []int{2}) {
		t.Error(got)
	}
}

// P14.2, PC 3: into a full deque nothing is put: a bin is taken instead.
func TestPushesOnFull(t *testing.T) {
	s := state.New(small())
	s.M = pushed(s.M, s.P, 2, 2)
	g := Grey{PC: 3, Mode: grey.Deque, Obj: 2, Who: 2, D: pushes(2)}
	g.D.PC, g.D.B = 1, 3
	next := g
	next.PC, next.C = 5, takes()
	next.D.PC, next.D.T, next.D.Out = 2, 1, deque.Full
	expect(t, "full", s, g, s, next)
}

// P14.2, PC 4: the flag is true, be it so or not.
func TestRaises(t *testing.T) {
	for _, flag := range []bool{false, true} {
		s := but(state.New(small()), func(s *State) { s.Flag = flag })
		g := Grey{PC: 4, Mode: grey.Flush, Obj: 2, Who: 2}
		next := g
		next.PC, next.C = 5, takes()
		expect(t, "flag", s, g, but(s, func(s *State) { s.Flag = true }), next)
	}
}

// P14.2, PC 5: the machine steps that takes an empty bin, and the bin is what
// it has at last.
func TestTakes(t *testing.T) {
	s := state.New(small())
	g := Grey{PC: 5, Mode: grey.Assist, Obj: 2, Who: 2, C: takes()}
	for i, c := range []chain.Machine{
		{PC: 1, H: 2},
		{PC: 2, H: 2, Y: 3},
		{PC: 3, H: 2, Y: 3, X: 2, Out: chain.Done},
	} {
		c.Kind, c.Head, c.Next = chain.Pop, empty, empty
		next := g
		next.C = c
		want := state.Copy(s)
		if i == 2 {
			want.M[empty], next.Bin, next.PC = chain.Pack(1, 3), 2, 6
		}
		expect(t, "take", s, g, want, next)
		s, g = grey.Step(s, g)
	}
}

// P14.2, PC 5: who finds the head turned does all of it again; who finds no
// empty bin begins again, till there is one.
func TestTakesAgain(t *testing.T) {
	s := state.New(small())
	g := Grey{PC: 5, Mode: grey.Flush, Obj: 2, Who: 2, C: takes()}
	g.C.PC, g.C.H, g.C.Y = 2, chain.Pack(7, 2), 3
	next := g
	next.C.PC = 0
	expect(t, "turned", s, g, s, next)

	s.M = chain.Lay(s.M, state.Empty(s.P), state.Next(s.P), nil)
	g.C = takes()
	for range 5 {
		expect(t, "none", s, g, s, g)
	}
	g.C.X, g.C.Y = 9, 9
	next.C = takes()
	expect(t, "none, and something seen", s, g, s, next)
	s.M = chain.Lay(s.M, state.Empty(s.P), state.Next(s.P), []int{12})
	if s, g, _ = ended(s, g); g.Out != grey.Done || !slices.Equal(s.Bins[12], []int{2}) {
		t.Errorf("%+v", g)
	}
}

// P14.2, PC 6: the bin has the object alone, whatever was in it; a bin that
// there is not has nothing.
func TestFills(t *testing.T) {
	s := but(state.New(small()), func(s *State) { s.Bins[3], s.Bins[12] = []int{6, 7}, []int{4} })
	for _, b := range slices.Concat(far(), []int{10, 11}) {
		g := Grey{PC: 6, Mode: grey.Deque, Obj: 2, Who: 2, Bin: b}
		g.C = takes()
		g.C.PC, g.C.X, g.C.Out = 3, b, chain.Done
		next := g
		next.PC, next.C = 7, gives(b)
		expect(t, "fill", s, g, but(s, func(s *State) {
			if b >= 1 && b <= 12 {
				s.Bins[b] = []int{2}
			}
		}), next)
	}
}

// P14.2, PC 7: the machine steps that brings back the bin, to its end, which is
// this one's.
func TestGives(t *testing.T) {
	s := state.New(small())
	g := Grey{PC: 7, Mode: grey.Assist, Obj: 2, Who: 2, Bin: 2, C: gives(2)}
	for i, c := range []chain.Machine{
		{PC: 1, H: 1},
		{PC: 2, H: 1},
		{PC: 3, H: 1, Out: chain.Done},
	} {
		c.Kind, c.Head, c.Next, c.X = chain.Push, full, empty, 2
		next := g
		next.C = c
		want := state.Copy(s)
		switch i {
		case 1:
			want.M[empty+2] = 1
		case 2:
			want.M[full], next.Out = chain.Pack(1, 2), grey.Done
		}
		expect(t, "give", s, g, want, next)
		s, g = grey.Step(s, g)
	}
}

// P14.2, PC 7: who finds the head turned does all of it again.
func TestGivesAgain(t *testing.T) {
	s := state.New(small())
	g := Grey{PC: 7, Mode: grey.Assist, Obj: 2, Who: 2, Bin: 2, C: gives(2)}
	g.C.PC, g.C.H = 2, chain.Pack(7, 1)
	next := g
	next.C.PC = 0
	expect(t, "turned", s, g, s, next)
}

// P14.2: no step of a PC, a mode, or a machine that is none, or is at its end.
func TestTurnsNothing(t *testing.T) {
	s := state.New(small())
	going := Grey{Mode: grey.Flush, Obj: 2, Who: 2, Bin: 2, D: pushes(2), C: takes()}
	for _, n := range far() {
		g := going
		g.PC = n
		if n < 0 || n > lastPC {
			expect(t, "PC", s, g, s, g)
		}
		for pc := range lastPC + 1 {
			g = going
			g.PC, g.Mode = pc, n
			if n < grey.Deque || n > grey.Assist {
				expect(t, "mode", s, g, s, g)
			}
			g = going
			g.PC, g.Out = pc, n
			if n != 0 {
				expect(t, "out", s, g, s, g)
			}
		}
	}
}

// P13.1: on nothing no machine turns anything, nor is turned.
func TestNothing(t *testing.T) {
	bare := State{Bins: [][]int{}, Acks: []int{}, Ws: []state.Worker{}}
	for _, s := range []State{{}, bare, state.New(Plan{})} {
		for pc := range lastPC + 1 {
			for mode := range 4 {
				g := Grey{PC: pc, Mode: mode, Obj: 2, Who: 1, Bin: 1, D: pushes(2), C: takes()}
				expect(t, "nothing", s, g, State{}, g)
			}
		}
	}
}

// P14.3: the object that is held, or asked for, and what is owed, by PC and Out;
// the mode is not asked.
func TestTold(t *testing.T) {
	for _, mode := range []int{grey.Deque, grey.Flush, grey.Assist, 0, 4} {
		for _, o := range []int{0, 1, 64, -1, 65, math.MaxInt} {
			for _, pc := range far() {
				for _, out := range far() {
					var want [3]int // Holds, Asks, Owes
					if out == 0 && pc >= 3 && pc <= 7 {
						want[0] = o
					}
					if out == 0 && (pc == 0 || pc == 1) {
						want[1] = o
					}
					if out == 0 && (pc == 1 || pc == 2) {
						want[2] = 1
					}
					g := Grey{PC: pc, Mode: mode, Obj: o, Who: 2, Bin: 3, Out: out}
					if got := [3]int{grey.Holds(g), grey.Asks(g), grey.Owes(g)}; got != want {
						t.Fatalf("%+v: %v, not %v", g, got, want)
					}
				}
			}
		}
	}
}

// P14.2: the chapter's example, of each mode: what is marked already.
func TestMarked(t *testing.T) {
	for _, mode := range []int{grey.Deque, grey.Flush, grey.Assist} {
		s := state.New(small())
		s.T.Black = set.Of([]int{5})
		for _, o := range []int{1, 5} {
			got, g, n := ended(s, grey.Begin(mode, o, 1))
			if n != 3 || g.Out != grey.Done || !state.Same(got, s) {
				t.Errorf("mode %d, object %d: %d steps, %+v", mode, o, n, g)
			}
		}
	}
}

// P14.2: where each mode brings an object that was white, and how many steps it
// takes.
func TestModes(t *testing.T) {
	first := state.New(small())
	filled := first
	filled.M = pushed(filled.M, filled.P, 2, 2)
	for _, c := range []struct {
		name  string
		s     State
		mode  int
		steps int
		flag  bool
		bin   []int
		items []int
	}{
		{"deque", first, grey.Deque, 6, false, nil, []int{3}},
		{"full deque", filled, grey.Deque, 11, false, []int{3}, []int{2, 2}},
		{"flush", first, grey.Flush, 10, true, []int{3}, nil},
		{"assist", first, grey.Assist, 9, false, []int{3}, nil},
	} {
		s, g, n := ended(c.s, grey.Begin(c.mode, 3, 2))
		if n != c.steps || g.Out != grey.Done || s.Flag != c.flag || s.Work != 3 {
			t.Errorf("%s: %d steps, work %d, %+v", c.name, n, s.Work, g)
		}
		if s.T != (tint.Tint{Marks: set.Of([]int{1, 3, 5})}) || !slices.Equal(s.Bins[2], c.bin) {
			t.Errorf("%s: %v, %v", c.name, s.T, s.Bins)
		}
		if got := deque.Items(s.M, second, 2, deque.Machine{}); !slices.Equal(got, c.items) {
			t.Errorf("%s: deque %v", c.name, got)
		}
		want := []int{1}
		if c.bin != nil {
			want = []int{2, 1}
		}
		if got := chain.List(s.M, full, empty, 99); !slices.Equal(got, want) {
			t.Errorf("%s: full bins %v", c.name, got)
		}
		if got := chain.List(s.M, empty, empty, 99); len(got) != plan.Bins(s.P)-len(want) {
			t.Errorf("%s: empty bins %v", c.name, got)
		}
	}
}

// P14.2, P1: states and machines of all kinds, by the chapter's words; and no
// step touches more than one place that is shared.
func TestStepOfSome(t *testing.T) {
	r := random(142)
	for i := range 30000 {
		s := r.state(r.plan(4))
		g := r.grey(s)
		gotS, gotG := grey.Step(s, g)
		wantS, wantG := plainly(s, g)
		if gotG != wantG || !state.Same(gotS, wantS) {
			t.Fatalf("%d: %+v of\n%+v\n%+v, not\n%+v\n%+v, not\n%+v", i, g, s, gotG, wantG, gotS, wantS)
		}
		if n := touches(s, gotS); n > 1 {
			t.Fatalf("%d: %+v touches %d", i, g, n)
		}
	}
}

// P1: whatever a machine is, and whatever a state has not, each call ends.
func TestStepOfAny(t *testing.T) {
	r := random(1)
	odd := func() int { return far()[r.under(len(far()))] }
	for i := range 20000 {
		s := r.state(r.plan(2))
		g := r.grey(s)
		g.Obj, g.Who, g.Bin = odd(), odd(), odd()
		g.D.Base, g.D.Cap, g.D.B, g.D.T = odd(), odd(), uint64(odd()), uint64(odd())
		g.C.Head, g.C.Next, g.C.X, g.C.Y = odd(), odd(), odd(), odd()
		switch i % 4 {
		case 1:
			s.M, s.Bins = s.M[:r.under(len(s.M)+1)], s.Bins[:r.under(len(s.Bins)+1)]
		case 2:
			s.P.Workers, s.P.Cap, s.P.Most = odd(), odd(), odd()
		case 3:
			s = State{Work: odd(), Done: true}
		}
		grey.Step(s, g)
	}
}

// P3: the state that is handed in is left as it was, and shares nothing with
// the one that comes but the plan's.
func TestStepLeaves(t *testing.T) {
	r := random(3)
	for range 3000 {
		s := r.state(r.plan(4))
		g := r.grey(s)
		was, gone := state.Copy(s), g
		got, _ := grey.Step(s, g)
		if !state.Same(s, was) || g != gone {
			t.Fatalf("%+v turned\n%+v", g, s)
		}
		next := state.Copy(got)
		spoil(got)
		if !state.Same(s, was) {
			t.Fatalf("%+v: what comes is shared\n%+v", g, s)
		}
		got, _ = grey.Step(s, g)
		spoil(s)
		if !state.Same(got, next) {
			t.Fatalf("%+v: what was handed in is shared\n%+v", g, got)
		}
	}
}

// P3: what stands behind the lists of a state, in their arrays, is left.
func TestStepLeavesWhatIsBehind(t *testing.T) {
	whole := state.New(small())
	whole.Bins[3] = []int{9, 9, 9}
	s := whole
	s.M, s.Bins = whole.M[:len(whole.M):len(whole.M)], slices.Clone(whole.Bins)
	s.Bins[3] = whole.Bins[3][:0]
	g := Grey{PC: 6, Mode: grey.Flush, Obj: 2, Who: 1, Bin: 3}
	if got, _ := grey.Step(s, g); !slices.Equal(got.Bins[3], []int{2}) || !slices.Equal(whole.Bins[3], []int{9, 9, 9}) {
		t.Error(got.Bins, whole.Bins)
	}
}

// P4: the same arguments tell the same, again and again.
func TestSameAgain(t *testing.T) {
	r := random(4)
	for range 300 {
		s := r.state(r.plan(4))
		g := r.grey(s)
		wantS, wantG := grey.Step(s, g)
		for range 5 {
			if gotS, gotG := grey.Step(state.Copy(s), g); gotG != wantG || !state.Same(gotS, wantS) {
				t.Fatalf("%+v, not %+v", gotG, wantG)
			}
		}
	}
}
