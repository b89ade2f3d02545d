package deque_test

import (
	"math"
	"slices"
	"testing"

	"besom/deque"
	"besom/mem"
)

// most is the greatest number that a cell may have.
const most = uint64(math.MaxUint64)

// random is a source of numbers by a short rule.
type random uint64

// under tells a number from 0 to n - 1.
func (r *random) under(n int) int {
	*r = *r*6364136223846793005 + 1442695040888963407
	return int(uint64(*r)>>33) % n
}

// ints are numbers at the edges of what is small and of 64 bits.
func ints() []int {
	return []int{0, 1, 2, 3, 4, 5, 6, 7, 8, 16, 63, 64, 65, 66, -1, -2, -3, -4, -64, 1 << 32, 1<<32 + 1, 1 << 62, math.MaxInt - 2, math.MaxInt - 1, math.MaxInt, math.MinInt, math.MinInt + 1, math.MinInt + 2}
}

// number tells a small number, or one of those at the edges.
func (r *random) number() int {
	if r.under(4) > 0 {
		return r.under(9) - 1
	}
	return ints()[r.under(len(ints()))]
}

// mem tells n cells.
func (r *random) mem(n int) mem.Mem {
	var m mem.Mem
	for range n {
		m = append(m, uint64(r.number()))
	}
	return m
}

// machine tells a machine that likely has a step to do.
func (r *random) machine() deque.Machine {
	d := deque.Machine{
		Kind: r.under(5), PC: r.under(9) - 1, Base: r.under(3), Cap: r.number(),
		B: uint64(r.number()), T: uint64(r.number()), X: r.number(),
	}
	if r.under(8) == 0 {
		d.Kind, d.PC, d.Base = r.number(), r.number(), r.number()
	}
	if r.under(8) == 0 {
		d.Out = r.number()
	}
	if r.under(3) == 0 {
		d.T = d.B - 1
	}
	return d
}

// cells are cells as the chapter's words use them: what is not there has 0,
// and is not turned.
type cells mem.Mem

func (c cells) has(at int) uint64 {
	if at < 0 || at >= len(c) {
		return 0
	}
	return c[at]
}

func (c cells) put(at int, v uint64) {
	if at >= 0 && at < len(c) {
		c[at] = v
	}
}

// swap swaps a cell from v to w.
func (c cells) swap(at int, v, w uint64) bool {
	if at < 0 || at >= len(c) || c[at] != v {
		return false
	}
	c[at] = w
	return true
}

// placed tells the cell of index i in a deque at base.
func placed(base, size int, i uint64) int {
	if size < 1 {
		size = 1
	}
	return int(uint64(base) + 2 + i%uint64(size))
}

// pushed, popped and stole turn c and d by the chapter's words: each tells
// whether there is such a PC.
func pushed(c cells, d *deque.Machine) bool {
	switch d.PC {
	case 0:
		d.B = c.has(d.Base + 1)
	case 1:
		d.T = c.has(d.Base)
		if d.B-d.T >= uint64(max(d.Cap, 1)) {
			d.Out = deque.Full
		}
	case 2:
		c.put(placed(d.Base, d.Cap, d.B), uint64(d.X))
	case 3:
		c.put(d.Base+1, d.B+1)
		d.Out = deque.Done
	default:
		return false
	}
	d.PC++
	return true
}

func popped(c cells, d *deque.Machine) bool {
	next := d.PC + 1
	switch d.PC {
	case 0:
		d.B = c.has(d.Base + 1)
	case 1:
		c.put(d.Base+1, d.B-1)
	case 2:
		d.T = c.has(d.Base)
		if less := d.T - (d.B - 1); less != 0 && less < 1<<63 {
			next = 5
		}
	case 3:
		d.X = int(c.has(placed(d.Base, d.Cap, d.B-1)))
		if d.T == d.B-1 {
			next = 4
		} else {
			d.Out = deque.Done
		}
	case 4:
		next = 5
		if c.swap(d.Base, d.T, d.T+1) {
			next = 6
		}
	case 5:
		c.put(d.Base+1, d.B)
		d.Out, d.X = deque.Empty, 0
	case 6:
		c.put(d.Base+1, d.B)
		d.Out = deque.Done
	default:
		return false
	}
	d.PC = next
	return true
}

func stole(c cells, d *deque.Machine) bool {
	switch d.PC {
	case 0:
		d.T = c.has(d.Base)
	case 1:
		d.B = c.has(d.Base + 1)
		if less := d.B - d.T; less == 0 || less >= 1<<63 {
			d.Out = deque.Empty
		}
	case 2:
		d.X = int(c.has(placed(d.Base, d.Cap, d.T)))
	case 3:
		if c.swap(d.Base, d.T, d.T+1) {
			d.Out = deque.Done
		} else {
			d.Out, d.X = deque.Lost, 0
		}
	default:
		return false
	}
	d.PC++
	return true
}

// plainly tells Step by the chapter's words.
func plainly(m mem.Mem, d deque.Machine) (mem.Mem, deque.Machine) {
	m = slices.Clone(m)
	if d.Out != deque.Going {
		return m, d
	}
	switch d.Kind {
	case deque.Push:
		pushed(cells(m), &d)
	case deque.Pop:
		popped(cells(m), &d)
	case deque.Steal:
		stole(cells(m), &d)
	}
	return m, d
}

// run lets d come to its end, and tells in how many steps it did.
func run(m mem.Mem, d deque.Machine) (mem.Mem, deque.Machine, int) {
	n := 0
	for ; n < 20 && d.Out == deque.Going; n++ {
		m, d = deque.Step(m, d)
	}
	return m, d, n
}

// filled tells a deque of n places, in which each of l was pushed.
func filled(n int, l ...int) mem.Mem {
	m := deque.Cells(n)
	for _, x := range l {
		m, _, _ = run(m, deque.Start(deque.Push, 0, n, x))
	}
	return m
}

// check holds a step against the chapter's words.
func check(t *testing.T, m mem.Mem, d deque.Machine) {
	t.Helper()
	want, wantD := plainly(m, d)
	got, gotD := deque.Step(m, d)
	if !slices.Equal(got, want) || gotD != wantD {
		t.Fatalf("Step %v, %+v: %v, %+v, not %v, %+v", m, d, got, gotD, want, wantD)
	}
}

// P7.1: TOP and BOTTOM 1, then as many places as asked for, from 1 to 64.
func TestCells(t *testing.T) {
	for _, c := range []struct{ n, places int }{
		{1, 1}, {2, 2}, {16, 16}, {63, 63}, {64, 64}, {65, 64}, {66, 64}, {99, 64}, {1 << 32, 64}, {1<<32 + 1, 64}, {math.MaxInt, 64}, {math.MaxInt - 1, 64},
		{0, 1}, {-1, 1}, {-2, 1}, {-64, 1}, {math.MinInt, 1}, {math.MinInt + 1, 1},
	} {
		want := append(mem.Mem{1, 1}, make(mem.Mem, c.places)...)
		if got := deque.Cells(c.n); !slices.Equal(got, want) {
			t.Errorf("%d: %v", c.n, got)
		}
	}
}

// P7.1: a machine that starts has what it was given, whatever it is, and all
// else 0.
func TestStart(t *testing.T) {
	if d := deque.Start(deque.Steal, 3, 4, 5); d != (deque.Machine{Kind: deque.Steal, Base: 3, Cap: 4, X: 5}) {
		t.Error(d)
	}
	for _, x := range ints() {
		for _, y := range ints() {
			if d := deque.Start(x, y, x, y); d != (deque.Machine{Kind: x, Base: y, Cap: x, X: y}) {
				t.Error(d)
			}
			if d := deque.Start(x, x, y, y); d != (deque.Machine{Kind: x, Base: x, Cap: y, X: y}) {
				t.Error(d)
			}
		}
	}
}

// step is a machine at a PC, on cells, and what comes of it.
type step struct {
	m, want mem.Mem
	d, also deque.Machine
}

// checkAll holds each step against what is written.
func checkAll(t *testing.T, l []step) {
	t.Helper()
	for i, c := range l {
		got, d := deque.Step(c.m, c.d)
		if !slices.Equal(got, c.want) || d != c.also {
			t.Errorf("%d: %v, %+v, not %v, %+v", i, got, d, c.want, c.also)
		}
		check(t, c.m, c.d)
	}
}

// P7.2: the steps of one that pushes.
func TestPushSteps(t *testing.T) {
	m := mem.Mem{9, 4, 6, 30, 40, 50} // TOP 4 and BOTTOM 6 at 1
	at := func(pc int, b, top uint64, out int) deque.Machine {
		return deque.Machine{Kind: deque.Push, PC: pc, Base: 1, Cap: 3, B: b, T: top, X: 77, Out: out}
	}
	checkAll(t, []step{
		{m, m, at(0, 0, 0, 0), at(1, 6, 0, 0)},
		{m, m, at(1, 6, 0, 0), at(2, 6, 4, 0)},
		{m, m, at(1, 7, 0, 0), at(2, 7, 4, deque.Full)},
		{m, m, at(1, 8, 0, 0), at(2, 8, 4, deque.Full)},
		{m, m, at(1, 4, 0, 0), at(2, 4, 4, 0)},
		// TOP is above: modulo 2^64 that is far more than Cap.
		{m, m, at(1, 3, 0, 0), at(2, 3, 4, deque.Full)},
		{m, mem.Mem{9, 4, 6, 77, 40, 50}, at(2, 6, 4, 0), at(3, 6, 4, 0)},
		{m, mem.Mem{9, 4, 6, 30, 77, 50}, at(2, 7, 4, 0), at(3, 7, 4, 0)},
		{m, mem.Mem{9, 4, 6, 30, 40, 77}, at(2, 8, 4, 0), at(3, 8, 4, 0)},
		// 2^64 - 1 modulo 3 is 0.
		{m, mem.Mem{9, 4, 6, 77, 40, 50}, at(2, most, 4, 0), at(3, most, 4, 0)},
		{m, mem.Mem{9, 4, 7, 30, 40, 50}, at(3, 6, 4, 0), at(4, 6, 4, deque.Done)},
		{m, mem.Mem{9, 4, 0, 30, 40, 50}, at(3, most, 4, 0), at(4, most, 4, deque.Done)},
		{m, m, at(4, 6, 4, 0), at(4, 6, 4, 0)},
	})
}

// P7.2: the steps of one that pops.
func TestPopSteps(t *testing.T) {
	m := mem.Mem{4, 6, 30, 40, 50}
	at := func(pc int, b, top uint64, x, out int) deque.Machine {
		return deque.Machine{Kind: deque.Pop, PC: pc, Cap: 3, B: b, T: top, X: x, Out: out}
	}
	checkAll(t, []step{
		{m, m, at(0, 0, 0, 1, 0), at(1, 6, 0, 1, 0)},
		{m, mem.Mem{4, 5, 30, 40, 50}, at(1, 6, 0, 1, 0), at(2, 6, 0, 1, 0)},
		{m, mem.Mem{4, most, 30, 40, 50}, at(1, 0, 0, 1, 0), at(2, 0, 0, 1, 0)},
		{m, m, at(2, 6, 0, 1, 0), at(3, 6, 4, 1, 0)},
		{m, m, at(2, 5, 0, 1, 0), at(3, 5, 4, 1, 0)},
		{m, m, at(2, 4, 0, 1, 0), at(5, 4, 4, 1, 0)},
		{m, m, at(2, 0, 0, 1, 0), at(5, 0, 4, 1, 0)},
		// T less B - 1 is 2^63 - 1, and then 2^63, which is below 0.
		{mem.Mem{1<<63 + 3, 0, 0}, mem.Mem{1<<63 + 3, 0, 0}, at(2, 5, 0, 1, 0), at(5, 5, 1<<63+3, 1, 0)},
		{mem.Mem{1<<63 + 4, 0, 0}, mem.Mem{1<<63 + 4, 0, 0}, at(2, 5, 0, 1, 0), at(3, 5, 1<<63+4, 1, 0)},
		{mem.Mem{most, 0, 0}, mem.Mem{most, 0, 0}, at(2, 0, 0, 1, 0), at(3, 0, most, 1, 0)},
		{mem.Mem{most, 0, 0}, mem.Mem{most, 0, 0}, at(2, 1, 0, 1, 0), at(3, 1, most, 1, 0)},
		{m, m, at(3, 6, 4, 1, 0), at(4, 6, 4, 50, deque.Done)},
		{m, m, at(3, 8, 4, 1, 0), at(4, 8, 4, 40, deque.Done)},
		{m, m, at(3, 7, 4, 1, 0), at(4, 7, 4, 30, deque.Done)},
		{m, m, at(3, 5, 4, 1, 0), at(4, 5, 4, 40, 0)},
		{m, m, at(3, 0, most, 1, 0), at(4, 0, most, 30, 0)},
		{m, m, at(3, 0, 4, 1, 0), at(4, 0, 4, 30, deque.Done)},
		{m, mem.Mem{5, 6, 30, 40, 50}, at(4, 5, 4, 40, 0), at(6, 5, 4, 40, 0)},
		{m, m, at(4, 4, 3, 40, 0), at(5, 4, 3, 40, 0)},
		{m, m, at(4, 6, 5, 40, 0), at(5, 6, 5, 40, 0)},
		{mem.Mem{most, 9, 7}, mem.Mem{0, 9, 7}, at(4, 0, most, 40, 0), at(6, 0, most, 40, 0)},
		{m, mem.Mem{4, 9, 30, 40, 50}, at(5, 9, 4, 40, 0), at(6, 9, 4, 0, deque.Empty)},
		{m, mem.Mem{4, 9, 30, 40, 50}, at(6, 9, 4, 40, 0), at(7, 9, 4, 40, deque.Done)},
		{m, m, at(7, 9, 4, 40, 0), at(7, 9, 4, 40, 0)},
	})
}

// P7.2: the steps of one that steals.
func TestStealSteps(t *testing.T) {
	m := mem.Mem{4, 6, 30, 40, 50}
	at := func(pc int, b, top uint64, x, out int) deque.Machine {
		return deque.Machine{Kind: deque.Steal, PC: pc, Cap: 3, B: b, T: top, X: x, Out: out}
	}
	checkAll(t, []step{
		{m, m, at(0, 0, 0, 1, 0), at(1, 0, 4, 1, 0)},
		{m, m, at(1, 0, 4, 1, 0), at(2, 6, 4, 1, 0)},
		{m, m, at(1, 0, 5, 1, 0), at(2, 6, 5, 1, 0)},
		{m, m, at(1, 0, 6, 1, 0), at(2, 6, 6, 1, deque.Empty)},
		{m, m, at(1, 0, 7, 1, 0), at(2, 6, 7, 1, deque.Empty)},
		{m, m, at(1, 0, most, 1, 0), at(2, 6, most, 1, 0)},
		// B less T is 2^63 - 1, and then 2^63, which is below 0.
		{mem.Mem{0, 1<<63 + 4, 0}, mem.Mem{0, 1<<63 + 4, 0}, at(1, 0, 5, 1, 0), at(2, 1<<63+4, 5, 1, 0)},
		{mem.Mem{0, 1<<63 + 5, 0}, mem.Mem{0, 1<<63 + 5, 0}, at(1, 0, 5, 1, 0), at(2, 1<<63+5, 5, 1, deque.Empty)},
		{m, m, at(2, 6, 4, 1, 0), at(3, 6, 4, 40, 0)},
		{m, m, at(2, 6, 5, 1, 0), at(3, 6, 5, 50, 0)},
		{m, m, at(2, 6, most, 1, 0), at(3, 6, most, 30, 0)},
		{m, mem.Mem{5, 6, 30, 40, 50}, at(3, 6, 4, 40, 0), at(4, 6, 4, 40, deque.Done)},
		{m, m, at(3, 6, 3, 40, 0), at(4, 6, 3, 0, deque.Lost)},
		{m, m, at(3, 6, 5, 40, 0), at(4, 6, 5, 0, deque.Lost)},
		{mem.Mem{most, 1, 7}, mem.Mem{0, 1, 7}, at(3, 1, most, 40, 0), at(4, 1, most, 40, deque.Done)},
		{m, m, at(4, 6, 4, 40, 0), at(4, 6, 4, 40, 0)},
	})
}

// P7.2: one that has come to its end, is of no kind, or has no such PC, turns
// nothing.
func TestNothingIsTurned(t *testing.T) {
	m := mem.Mem{4, 6, 30, 40, 50}
	is := func(d deque.Machine) {
		if got, now := deque.Step(m, d); !slices.Equal(got, m) || now != d {
			t.Errorf("%+v: %v, %+v", d, got, now)
		}
	}
	for _, x := range ints() {
		for pc := range 7 {
			for kind := 1; kind <= 3; kind++ {
				if x != deque.Going {
					is(deque.Machine{Kind: kind, PC: pc, Cap: 3, B: 6, T: 4, X: 9, Out: x})
				}
				if kind == deque.Pop && (x < 0 || x > 6) || x < 0 || x > 3 && kind != deque.Pop {
					is(deque.Machine{Kind: kind, PC: x, Cap: 3, B: 6, T: 4, X: 9})
				}
			}
			if x < 1 || x > 3 {
				is(deque.Machine{Kind: x, PC: pc, Cap: 3, B: 6, T: 4, X: 9})
			}
		}
	}
}

// P7.2: a cell that is not there tells 0, and is not turned; and nothing is
// swapped there, even from 0.
func TestNoCell(t *testing.T) {
	for _, c := range []struct {
		kind, out, steps int
		m                mem.Mem
	}{
		{deque.Push, deque.Done, 4, nil},
		{deque.Push, deque.Done, 4, mem.Mem{}},
		{deque.Steal, deque.Empty, 2, nil},
		{deque.Pop, deque.Done, 4, mem.Mem{most - 4}}, // BOTTOM is not there, and TOP is far below
	} {
		m, d, n := run(c.m, deque.Start(c.kind, 0, 2, 9))
		if !slices.Equal(m, c.m) || d.Out != c.out || n != c.steps {
			t.Errorf("%d: %v, %+v, %d", c.kind, m, d, n)
		}
	}
	// TOP and BOTTOM are 0: T less B - 1 is 1.
	if m, d, n := run(nil, deque.Start(deque.Pop, 0, 2, 9)); len(m) != 0 || n != 4 || d != (deque.Machine{Kind: deque.Pop, PC: 6, Cap: 2, Out: deque.Empty}) {
		t.Error(m, d, n)
	}
	for _, d := range []deque.Machine{
		{Kind: deque.Pop, PC: 4, Base: 9, B: 1, X: 5},
		{Kind: deque.Steal, PC: 3, Base: 9, B: 1, X: 5},
		{Kind: deque.Steal, PC: 3, Base: -1, B: 1, X: 5},
	} {
		m, now := deque.Step(mem.Mem{0, 0, 0}, d)
		if !slices.Equal(m, mem.Mem{0, 0, 0}) || d.Kind == deque.Pop && now.PC != 5 || d.Kind == deque.Steal && (now.Out != deque.Lost || now.X != 0) {
			t.Errorf("%+v: %v, %+v", d, m, now)
		}
	}
}

// P7.2, P6: bases and places are sums modulo 2^64; a Cap below 1 counts as 1.
func TestSums(t *testing.T) {
	for _, base := range ints() {
		for _, size := range ints() {
			for _, i := range ints() {
				for pc := range 4 {
					check(t, mem.Mem{4, 6, 30, 40, 50, 60}, deque.Machine{Kind: deque.Push, PC: pc, Base: base, Cap: size, B: uint64(i), X: 9})
					check(t, mem.Mem{4, 6, 30, 40, 50, 60}, deque.Machine{Kind: deque.Steal, PC: pc, Base: base, Cap: size, T: uint64(i), X: 9})
				}
			}
		}
	}
	// Base is below 0, and yet its places are there.
	m := mem.Mem{7, 8}
	checkAll(t, []step{
		{m, m, deque.Machine{Kind: deque.Pop, Base: -1, Cap: 1}, deque.Machine{Kind: deque.Pop, PC: 1, Base: -1, Cap: 1, B: 7}},
		{m, m, deque.Machine{Kind: deque.Steal, PC: 2, Base: -2, Cap: 2, T: 1}, deque.Machine{Kind: deque.Steal, PC: 3, Base: -2, Cap: 2, T: 1, X: 8}},
		{m, m, deque.Machine{Kind: deque.Steal, PC: 2, Base: math.MaxInt, Cap: math.MaxInt, T: math.MaxInt - 1}, deque.Machine{Kind: deque.Steal, PC: 3, Base: math.MaxInt, Cap: math.MaxInt, T: math.MaxInt - 1}},
		{m, m, deque.Machine{Kind: deque.Steal, PC: 2, Base: -5, Cap: 4, T: 7}, deque.Machine{Kind: deque.Steal, PC: 3, Base: -5, Cap: 4, T: 7, X: 7}},
	})
	for _, size := range []int{1, 0, -1, math.MinInt} {
		for i := range uint64(4) {
			if _, d := deque.Step(mem.Mem{1, 3, 30, 40}, deque.Machine{Kind: deque.Steal, PC: 2, Cap: size, T: i}); d.X != 30 {
				t.Error(size, i, d)
			}
		}
		if _, d := deque.Step(mem.Mem{1, 2, 30}, deque.Machine{Kind: deque.Push, PC: 1, Cap: size, B: 2}); d.Out != deque.Full {
			t.Error(size, d)
		}
		if _, d := deque.Step(mem.Mem{1, 1, 30}, deque.Machine{Kind: deque.Push, PC: 1, Cap: size, B: 1}); d.Out != deque.Going {
			t.Error(size, d)
		}
	}
}

// P7.2: numbers of all 64 bits are pushed, popped and stolen as they are.
func TestWholeNumbers(t *testing.T) {
	for _, x := range ints() {
		m := filled(2, x, x)
		if m[2] != uint64(x) || m[3] != uint64(x) {
			t.Error(x, m)
		}
		m, d, _ := run(m, deque.Start(deque.Pop, 0, 2, 5))
		_, s, _ := run(m, deque.Start(deque.Steal, 0, 2, 5))
		if d.X != x || s.X != x || d.Out != deque.Done || s.Out != deque.Done {
			t.Error(x, d, s)
		}
	}
}

// P7.2: steps are what the chapter's words say, of any machines and cells.
func TestStepAsTheWordsSay(t *testing.T) {
	r := random(7)
	turned := 0
	for range 60000 {
		m, d := r.mem(r.under(8)), r.machine()
		if _, now := plainly(m, d); now != d {
			turned++
		}
		check(t, m, d)
	}
	if turned < 15000 {
		t.Error("too few were turned:", turned)
	}
}

// P7.2: a deque that one uses alone is a queue for who steals, and a stack for
// who pops; and each comes to its end in so many steps.
func TestAlone(t *testing.T) {
	for _, size := range []int{1, 2, 3, 16, 64} {
		m := slices.Concat(mem.Mem{7, 7}, deque.Cells(size), mem.Mem{8})
		var l []int
		r := random(size)
		for i := range 600 {
			kind := 1 + r.under(3)
			var d deque.Machine
			var n int
			had := len(l)
			m, d, n = run(m, deque.Start(kind, 2, size, i))
			out, x, steps := deque.Done, i, 4
			switch {
			case kind == deque.Push && had == size:
				out, steps = deque.Full, 2
			case kind == deque.Push:
				l = append(l, i)
			case kind == deque.Pop && had == 0:
				out, x = deque.Empty, 0
			case kind == deque.Pop:
				x, l = l[had-1], l[:had-1]
				if had == 1 {
					steps = 6
				}
			case had == 0:
				out, steps = deque.Empty, 2
			default:
				x, l = l[0], l[1:]
			}
			if d.Out != out || d.X != x || n != steps || !slices.Equal(deque.Items(m, 2, size, d), l) {
				t.Fatalf("%d, %d: %+v, %d, %v, not %v", size, i, d, n, deque.Items(m, 2, size, d), l)
			}
		}
		if m[0] != 7 || m[1] != 7 || m[len(m)-1] != 8 {
			t.Error(m)
		}
	}
}

// P7.2: TOP and BOTTOM may wrap round, where the number of places divides
// 2^64.
func TestRound(t *testing.T) {
	m := mem.Mem{most - 2, most - 2, 0, 0, 0, 0}
	var l []int
	for i := range 12 {
		for j := range 3 {
			m, _, _ = run(m, deque.Start(deque.Push, 0, 4, 10*i+j))
			l = append(l, 10*i+j)
		}
		if !slices.Equal(deque.Items(m, 0, 4, deque.Machine{}), l) {
			t.Fatal(m, l)
		}
		var s, p, q deque.Machine
		m, s, _ = run(m, deque.Start(deque.Steal, 0, 4, 0))
		m, p, _ = run(m, deque.Start(deque.Pop, 0, 4, 0))
		m, q, _ = run(m, deque.Start(deque.Pop, 0, 4, 0))
		if s.X != l[0] || p.X != l[2] || q.X != l[1] {
			t.Fatal(s, p, q, l)
		}
		l = nil
	}
	if m[0] > 40 {
		t.Error("not round:", m)
	}
}

// P7.3: what is in a deque, as its owner has gone on.
func TestItems(t *testing.T) {
	m := mem.Mem{9, 4, 6, 30, 40, 50}
	two, three := []int{40, 50}, []int{40, 50, 30}
	pop := func(pc int, b, top uint64, out int) deque.Machine {
		return deque.Machine{Kind: deque.Pop, PC: pc, B: b, T: top, Out: out}
	}
	for i, c := range []struct {
		d    deque.Machine
		want []int
	}{
		{deque.Machine{}, two},
		{pop(0, 0, 0, 0), two},
		{pop(1, 7, 4, 0), two},
		{pop(2, 7, 4, 0), three},
		{pop(3, 7, 4, 0), two},
		{pop(3, 7, 6, 0), three},
		{pop(3, 0, most, 0), three},
		{pop(3, 7, 7, 0), two},
		{pop(3, 7, 5, 0), two},
		{pop(4, 7, 4, 0), three},
		{pop(5, 7, 4, 0), three},
		{pop(6, 7, 4, 0), two},
		{pop(7, 7, 4, 0), two},
		{pop(-1, 7, 6, 0), two},
		{pop(1<<32+2, 7, 6, 0), two},
		{pop(2, 7, 6, deque.Done), two},
		{pop(2, 7, 6, 9), two},
		{pop(3, 7, 6, deque.Empty), two},
		{pop(4, 7, 6, deque.Done), two},
		{pop(5, 7, 6, -1), two},
		{deque.Machine{Kind: deque.Push, PC: 2, B: 7, T: 6}, two},
		{deque.Machine{Kind: deque.Push, PC: 3, B: 7, T: 6}, two},
		{deque.Machine{Kind: deque.Steal, PC: 2, B: 7, T: 6}, two},
		{deque.Machine{Kind: deque.Steal, PC: 3, B: 7, T: 6}, two},
		{deque.Machine{PC: 2, B: 7, T: 6}, two},
		{deque.Machine{Kind: 1<<32 + 2, PC: 2}, two},
		// Where the owner is says nothing of where the deque is.
		{deque.Machine{Kind: deque.Pop, PC: 2, Base: 3, Cap: 9, X: 4}, three},
	} {
		if l := deque.Items(m, 1, 3, c.d); !slices.Equal(l, c.want) {
			t.Errorf("%d: %v, not %v", i, l, c.want)
		}
	}
}

// P7.3: nothing, if there are more than the places, or than 64, or none.
func TestItemsTooMany(t *testing.T) {
	long := append(mem.Mem{0, 0}, make(mem.Mem, 100)...)
	for i := range 100 {
		long[2+i] = uint64(i)
	}
	lowered := deque.Machine{Kind: deque.Pop, PC: 2}
	for i, c := range []struct {
		top, bottom uint64
		size, count int
		owner       deque.Machine
	}{
		{5, 5, 3, 0, deque.Machine{}},
		{5, 6, 3, 1, deque.Machine{}},
		{5, 8, 3, 3, deque.Machine{}},
		{5, 9, 3, 0, deque.Machine{}},
		{5, 4, 3, 0, deque.Machine{}},
		{5, 7, 3, 3, lowered},
		{5, 8, 3, 0, lowered},
		{5, 4, 3, 0, lowered},
		{5, 3, 3, 0, lowered},
		{0, most, 3, 0, lowered},
		{most, most, 3, 1, lowered},
		{0, most, 3, 0, deque.Machine{}},
		{most, 0, 3, 1, deque.Machine{}},
		{most - 1, 1, 3, 3, deque.Machine{}},
		{most - 1, 2, 3, 0, deque.Machine{}},
		{0, 1, 0, 1, deque.Machine{}},
		{0, 2, 0, 0, deque.Machine{}},
		{0, 1, -9, 1, deque.Machine{}},
		{0, 2, -9, 0, deque.Machine{}},
		{0, 1, math.MinInt, 1, deque.Machine{}},
		{0, 2, math.MinInt, 0, deque.Machine{}},
		{0, 63, 63, 63, deque.Machine{}},
		{0, 64, 64, 64, deque.Machine{}},
		{0, 64, 99, 64, deque.Machine{}},
		{30, 94, 99, 64, deque.Machine{}},
		{0, 65, 99, 0, deque.Machine{}},
		{0, 64, 99, 0, lowered},
		{0, 63, 99, 64, lowered},
		{0, 64, math.MaxInt, 64, deque.Machine{}},
		{0, 65, math.MaxInt, 0, deque.Machine{}},
		{0, 1 << 32, math.MaxInt, 0, deque.Machine{}},
		{0, 1 << 63, math.MaxInt, 0, deque.Machine{}},
	} {
		long[0], long[1] = c.top, c.bottom
		l := deque.Items(long, 0, c.size, c.owner)
		if len(l) != c.count {
			t.Errorf("%d: %v", i, l)
		}
		for j, x := range l {
			if want := (c.top + uint64(j)) % uint64(max(c.size, 1)); x != int(want) && want < 100 {
				t.Errorf("%d: %v: %d, not %d", i, l, x, want)
			}
		}
	}
}

// P7.3, P6: whatever the base is; what is not there has 0.
func TestItemsNoCell(t *testing.T) {
	for _, base := range []int{3, 4, -4, -1 << 32, 1 << 32, math.MaxInt, math.MinInt} {
		if l := deque.Items(mem.Mem{1, 2, 3}, base, 2, deque.Machine{}); len(l) != 0 {
			t.Error(base, l)
		}
	}
	for i, c := range []struct {
		m          mem.Mem
		base, size int
		want       []int
	}{
		{mem.Mem{0, 3, 7, 8}, 0, 3, []int{7, 8, 0}},
		{mem.Mem{0, 2}, 0, 3, []int{0, 0}},
		{mem.Mem{2, 7}, -1, 2, []int{7, 0}},
		{mem.Mem{0, 2, 7, 8}, 1, 9, []int{0, 0, 0, 0, 0}},
		{nil, 0, 2, nil},
		{mem.Mem{}, 0, 2, nil},
		{mem.Mem{5}, 0, 2, nil},
		{mem.Mem{0, 1, most}, 0, 1, []int{-1}},
		{mem.Mem{0, 1, 1 << 63}, 0, 1, []int{math.MinInt}},
	} {
		if l := deque.Items(c.m, c.base, c.size, deque.Machine{}); !slices.Equal(l, c.want) {
			t.Errorf("%d: %v, not %v", i, l, c.want)
		}
	}
}

// P3: nothing that is handed in is written into, nor what stands behind it.
func TestNothingIsWrittenInto(t *testing.T) {
	whole := mem.Mem{4, 6, 30, 40, 50, 60}
	kept := slices.Clone(whole)
	for n := range 7 {
		for kind := range 5 {
			for pc := -1; pc < 8; pc++ {
				for i := range uint64(9) {
					d := deque.Machine{Kind: kind, PC: pc, Cap: 4, B: i, T: 4, X: 9}
					deque.Step(whole[:n], d)
					deque.Items(whole[:n], 0, 4, d)
				}
			}
		}
	}
	if !slices.Equal(whole, kept) {
		t.Error(whole)
	}
}

// P3: what is answered is new memory, whether something was turned or not.
func TestNewMemory(t *testing.T) {
	m := mem.Mem{4, 6, 30, 40, 50}
	kept := slices.Clone(m)
	for kind := range 5 {
		for pc := -1; pc < 8; pc++ {
			for out := range 2 {
				got, d := deque.Step(m, deque.Machine{Kind: kind, PC: pc, Cap: 3, B: 6, T: 4, Out: out})
				l := deque.Items(m, 0, 3, d)
				for i := range got {
					got[i] = 99
				}
				for i := range l {
					l[i] = 99
				}
				if !slices.Equal(m, kept) {
					t.Fatal(kind, pc, out, m)
				}
			}
		}
	}
	a := deque.Cells(3)
	a[0] = 9
	if b := deque.Cells(3); b[0] != 1 {
		t.Error(b)
	}
}

// P4: the same is told again and again.
func TestSameAgain(t *testing.T) {
	m := filled(3, 5, 6)
	d := deque.Start(deque.Pop, 0, 3, 0)
	m, d = deque.Step(m, d)
	want, wantD := deque.Step(m, d)
	for range 100 {
		got, gotD := deque.Step(m, d)
		if !slices.Equal(got, want) || gotD != wantD || !slices.Equal(deque.Items(got, 0, 3, gotD), []int{5, 6}) {
			t.Fatal(got, gotD)
		}
	}
}

// P1: whatever a machine and the numbers are, a step and a telling end.
func TestEnds(t *testing.T) {
	r := random(71)
	m := make(mem.Mem, 1<<16)
	for range 2000 {
		d := r.machine()
		d.Base, d.Cap, d.B, d.T = r.number(), r.number(), uint64(r.number()), uint64(r.number())
		m[0], m[1] = uint64(r.number()), uint64(r.number())
		check(t, m[:r.under(9)], d)
		if l := deque.Items(m, r.number(), r.number(), d); len(l) > 64 {
			t.Fatal(l)
		}
	}
	if got, _ := deque.Step(m, deque.Start(deque.Push, 1<<16-2, 1, 9)); len(got) != len(m) {
		t.Error(len(got))
	}
}
