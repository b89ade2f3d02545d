package chain_test

import (
	"math"
	"slices"
	"testing"

	"besom/chain"
	"besom/mem"
)

// most is the greatest number that a cell may have, and last the greatest
// version, and node.
const (
	most = uint64(math.MaxUint64)
	last = uint64(math.MaxUint32)
)

// random is a source of numbers by a short rule.
type random uint64

// under tells a number from 0 to n - 1.
func (r *random) under(n int) int {
	*r = *r*6364136223846793005 + 1442695040888963407
	return int(uint64(*r)>>33) % n
}

// ints are numbers at the edges of what is small, of 32 bits and of 64 bits.
func ints() []int {
	return []int{0, 1, 2, 3, 4, 5, 6, 7, 8, 9, -1, -2, -3, -4, 1<<31 - 1, 1 << 31, 1<<32 - 2, 1<<32 - 1, 1 << 32, 1<<32 + 1, 1<<32 + 2, 3 << 32, -1 << 31, -1 << 32, -1<<32 + 1, 1<<62 + 3, math.MaxInt - 2, math.MaxInt - 1, math.MaxInt, math.MinInt, math.MinInt + 1, math.MinInt + 2}
}

// number tells a small number, or one of those at the edges.
func (r *random) number() int {
	if r.under(4) > 0 {
		return r.under(9) - 1
	}
	return ints()[r.under(len(ints()))]
}

// cell tells what a cell may have: a number, or a head of a small node.
func (r *random) cell() uint64 {
	if r.under(2) == 0 {
		return uint64(r.number())
	}
	return uint64(r.number())<<32 + uint64(r.under(6))
}

// mem tells n cells.
func (r *random) mem(n int) mem.Mem {
	var m mem.Mem
	for range n {
		m = append(m, r.cell())
	}
	return m
}

// machine tells a machine that likely has a step to do on m.
func (r *random) machine(m mem.Mem) chain.Machine {
	c := chain.Machine{
		Kind: r.under(4), PC: r.under(5) - 1, Head: r.under(3), Next: r.under(3),
		H: r.cell(), X: r.number(), Y: r.number(),
	}
	if r.under(8) == 0 {
		c.Kind, c.PC, c.Head, c.Next = r.number(), r.number(), r.number(), r.number()
	}
	if r.under(8) == 0 {
		c.Out = r.number()
	}
	if r.under(2) == 0 && c.Head >= 0 && c.Head < len(m) {
		c.H = m[c.Head]
	}
	return c
}

// cells are cells as the chapter's words use them: what is not there has 0,
// and is not turned.
type cells mem.Mem

func (c cells) has(at int) uint64 {
	if at < 0 || at >= len(c) {
		return 0
	}
	return c[at]
}

func (c cells) put(at int, v uint64) {
	if at >= 0 && at < len(c) {
		c[at] = v
	}
}

// swap swaps a cell from v to w.
func (c cells) swap(at int, v, w uint64) bool {
	if at < 0 || at >= len(c) || c[at] != v {
		return false
	}
	c[at] = w
	return true
}

// headed tells a head of that version and node, each modulo 2^32.
func headed(version uint64, node int) uint64 {
	return version%(last+1)*(last+1) + uint64(node)%(last+1)
}

// noded tells the node of a head.
func noded(h uint64) int {
	return int(h % (last + 1))
}

// pushed and popped turn c and d by the chapter's words.
func pushed(c cells, d *chain.Machine) {
	switch d.PC {
	case 0:
		d.H = c.has(d.Head)
		d.PC = 1
	case 1:
		c.put(int(uint64(d.Next)+uint64(d.X)), uint64(noded(d.H)))
		d.PC = 2
	case 2:
		if c.swap(d.Head, d.H, headed(d.H/(last+1)+1, d.X)) {
			d.Out, d.PC = chain.Done, 3
		} else {
			d.PC = 0
		}
	}
}

func popped(c cells, d *chain.Machine) {
	switch d.PC {
	case 0:
		d.H = c.has(d.Head)
		if noded(d.H) == 0 {
			d.Out = chain.Empty
		}
		d.PC = 1
	case 1:
		d.Y = int(c.has(int(uint64(d.Next) + d.H%(last+1))))
		d.PC = 2
	case 2:
		if c.swap(d.Head, d.H, headed(d.H/(last+1)+1, d.Y)) {
			d.Out, d.PC, d.X = chain.Done, 3, noded(d.H)
		} else {
			d.PC = 0
		}
	}
}

// plainly tells Step by the chapter's words.
func plainly(m mem.Mem, d chain.Machine) (mem.Mem, chain.Machine) {
	m = slices.Clone(m)
	if d.Out != chain.Going {
		return m, d
	}
	switch d.Kind {
	case chain.Push:
		pushed(cells(m), &d)
	case chain.Pop:
		popped(cells(m), &d)
	}
	return m, d
}

// laid tells Lay by the chapter's words.
func laid(m mem.Mem, head, next int, l []int) mem.Mem {
	m = slices.Clone(m)
	for i, x := range l {
		behind := 0
		if i < len(l)-1 {
			behind = l[i+1]
		}
		cells(m).put(int(uint64(next)+uint64(x)), uint64(behind))
	}
	if len(l) == 0 {
		cells(m).put(head, 0)
	} else {
		cells(m).put(head, uint64(noded(uint64(l[0]))))
	}
	return m
}

// listed tells List by the chapter's words.
func listed(m mem.Mem, head, next, most int) []int {
	var l []int
	for x := noded(cells(m).has(head)); x != 0; x = int(cells(m).has(int(uint64(next) + uint64(x)))) {
		if len(l) >= most || len(l) == 1000 {
			break
		}
		l = append(l, x)
	}
	return l
}

// run lets c come to its end, and tells in how many steps it did.
func run(m mem.Mem, c chain.Machine) (mem.Mem, chain.Machine, int) {
	n := 0
	for ; n < 20 && c.Out == chain.Going; n++ {
		m, c = chain.Step(m, c)
	}
	return m, c, n
}

// check holds a step against the chapter's words.
func check(t *testing.T, m mem.Mem, c chain.Machine) {
	t.Helper()
	want, wantC := plainly(m, c)
	got, gotC := chain.Step(m, c)
	if !slices.Equal(got, want) || gotC != wantC {
		t.Fatalf("Step %v, %+v: %v, %+v, not %v, %+v", m, c, got, gotC, want, wantC)
	}
}

// P8.1: a head has the version and the node, modulo 2^32 each.
func TestPack(t *testing.T) {
	for _, c := range []struct {
		version uint64
		node    int
		want    uint64
	}{
		{0, 0, 0},
		{0, 7, 7},
		{1, 0, 1 << 32},
		{3, 5, 3<<32 + 5},
		{last, 0, last << 32},
		{0, 1<<32 - 1, last},
		{last, 1<<32 - 1, most},
		{last + 1, 1 << 32, 0},
		{last + 6, 1<<32 + 7, 5<<32 + 7},
		{most, -1, most},
		{most, 0, last << 32},
		{0, -1, last},
		{0, -2, last - 1},
		{2, -1 << 32, 2 << 32},
		{2, -1<<32 + 3, 2<<32 + 3},
		{1 << 63, math.MinInt, 0},
		{1<<63 + 1, math.MinInt + 1, 1<<32 + 1},
		{4, math.MaxInt, 4<<32 + last},
		{0, 1 << 31, 1 << 31},
		{0, -1 << 31, 1 << 31},
	} {
		if got := chain.Pack(c.version, c.node); got != c.want {
			t.Errorf("%d, %d: %x", c.version, c.node, got)
		}
	}
}

// P8.1: the node of a head is what its lower 32 bits are, and no version makes
// it another one.
func TestNode(t *testing.T) {
	for _, c := range []struct {
		h    uint64
		want int
	}{
		{0, 0}, {1, 1}, {9<<32 + 4, 4}, {1 << 32, 0}, {most, 1<<32 - 1}, {last, 1<<32 - 1}, {1 << 31, 1 << 31}, {1<<63 + 1<<31, 1 << 31}, {1 << 63, 0},
	} {
		if got := chain.Node(c.h); got != c.want {
			t.Errorf("%x: %d", c.h, got)
		}
	}
	for _, version := range ints() {
		for _, node := range ints() {
			h := chain.Pack(uint64(version), node)
			if h != headed(uint64(version), node) || chain.Node(h) != noded(uint64(node)) {
				t.Errorf("%d, %d: %x, %d", version, node, h, chain.Node(h))
			}
		}
	}
}

// P8.1: a machine that starts has what it was given, whatever it is, and all
// else 0.
func TestStart(t *testing.T) {
	if c := chain.Start(chain.Pop, 3, 4, 5); c != (chain.Machine{Kind: chain.Pop, Head: 3, Next: 4, X: 5}) {
		t.Error(c)
	}
	for _, x := range ints() {
		for _, y := range ints() {
			if c := chain.Start(x, y, x, y); c != (chain.Machine{Kind: x, Head: y, Next: x, X: y}) {
				t.Error(c)
			}
			if c := chain.Start(x, x, y, y); c != (chain.Machine{Kind: x, Head: x, Next: y, X: y}) {
				t.Error(c)
			}
		}
	}
}

// step is a machine at a PC, on cells, and what comes of it.
type step struct {
	m, want mem.Mem
	c, also chain.Machine
}

// checkAll holds each step against what is written.
func checkAll(t *testing.T, l []step) {
	t.Helper()
	for i, s := range l {
		got, c := chain.Step(s.m, s.c)
		if !slices.Equal(got, s.want) || c != s.also {
			t.Errorf("%d: %v, %+v, not %v, %+v", i, got, c, s.want, s.also)
		}
		check(t, s.m, s.c)
	}
}

// P8.2: the steps of one that pushes.
func TestPushSteps(t *testing.T) {
	const h = 5<<32 + 2
	m := mem.Mem{9, h, 0, 0, 3, 0} // the head at 1, the cell of node 1 at 3
	at := func(pc int, seen uint64, out int) chain.Machine {
		return chain.Machine{Kind: chain.Push, PC: pc, Head: 1, Next: 2, H: seen, X: 3, Y: 77, Out: out}
	}
	checkAll(t, []step{
		{m, m, at(0, 0, 0), at(1, h, 0)},
		{m, m, at(0, most, 0), at(1, h, 0)},
		{m, mem.Mem{9, h, 0, 0, 3, 2}, at(1, h, 0), at(2, h, 0)},
		// It is the node of what was seen, not of what is there now.
		{m, mem.Mem{9, h, 0, 0, 3, 1}, at(1, 8<<32+1, 0), at(2, 8<<32+1, 0)},
		{m, m, at(1, 8<<32, 0), at(2, 8<<32, 0)},
		{m, mem.Mem{9, h, 0, 0, 3, last}, at(1, most, 0), at(2, most, 0)},
		{m, mem.Mem{9, 6<<32 + 3, 0, 0, 3, 0}, at(2, h, 0), at(3, h, chain.Done)},
		{m, m, at(2, 4<<32+2, 0), at(0, 4<<32+2, 0)},
		{m, m, at(2, 5<<32+1, 0), at(0, 5<<32+1, 0)},
		{m, m, at(2, 2, 0), at(0, 2, 0)},
		{mem.Mem{0, 0}, mem.Mem{0, 1<<32 + 3}, at(2, 0, 0), at(3, 0, chain.Done)},
		// Behind the last version there is the first one.
		{mem.Mem{0, last<<32 + 2}, mem.Mem{0, 3}, at(2, last<<32+2, 0), at(3, last<<32+2, chain.Done)},
		{mem.Mem{0, most}, mem.Mem{0, 3}, at(2, most, 0), at(3, most, chain.Done)},
		{m, m, at(3, h, 0), at(3, h, 0)},
	})
}

// P8.2: the steps of one that pops.
func TestPopSteps(t *testing.T) {
	const h = 5<<32 + 2
	m := mem.Mem{9, h, 0, 0, 3, 0} // the head at 1, the cell of node 1 at 3
	at := func(pc int, seen uint64, x, y, out int) chain.Machine {
		return chain.Machine{Kind: chain.Pop, PC: pc, Head: 1, Next: 2, H: seen, X: x, Y: y, Out: out}
	}
	none, one := mem.Mem{0, 5 << 32}, mem.Mem{0, 7<<32 + 1}
	checkAll(t, []step{
		{m, m, at(0, 0, 8, 7, 0), at(1, h, 8, 7, 0)},
		{none, none, at(0, 4, 8, 7, 0), at(1, 5<<32, 8, 7, chain.Empty)},
		{mem.Mem{0, 0}, mem.Mem{0, 0}, at(0, 4, 8, 7, 0), at(1, 0, 8, 7, chain.Empty)},
		{one, one, at(0, 4, 8, 7, 0), at(1, 7<<32+1, 8, 7, 0)},
		{m, m, at(1, h, 8, 7, 0), at(2, h, 8, 3, 0)},
		// It is behind the node of what was seen, not of what is there now.
		{m, m, at(1, 8<<32+3, 8, 7, 0), at(2, 8<<32+3, 8, 0, 0)},
		{m, m, at(1, 8<<32+9, 8, 7, 0), at(2, 8<<32+9, 8, 0, 0)},
		{mem.Mem{0, 0, 0, 0, most}, mem.Mem{0, 0, 0, 0, most}, at(1, 2, 8, 7, 0), at(2, 2, 8, -1, 0)},
		{mem.Mem{0, 0, 0, 0, 3<<32 + 1}, mem.Mem{0, 0, 0, 0, 3<<32 + 1}, at(1, 2, 8, 7, 0), at(2, 2, 8, 3<<32+1, 0)},
		{m, mem.Mem{9, 6<<32 + 3, 0, 0, 3, 0}, at(2, h, 8, 3, 0), at(3, h, 2, 3, chain.Done)},
		{m, mem.Mem{9, 6 << 32, 0, 0, 3, 0}, at(2, h, 8, 0, 0), at(3, h, 2, 0, chain.Done)},
		{m, mem.Mem{9, 6<<32 + last, 0, 0, 3, 0}, at(2, h, 8, -1, 0), at(3, h, 2, -1, chain.Done)},
		{m, mem.Mem{9, 6<<32 + 1, 0, 0, 3, 0}, at(2, h, 8, 3<<32+1, 0), at(3, h, 2, 3<<32+1, chain.Done)},
		{m, m, at(2, 4<<32+2, 8, 3, 0), at(0, 4<<32+2, 8, 3, 0)},
		{m, m, at(2, 5<<32+1, 8, 3, 0), at(0, 5<<32+1, 8, 3, 0)},
		{m, m, at(2, 2, 8, 3, 0), at(0, 2, 8, 3, 0)},
		{mem.Mem{0, last<<32 + 2}, mem.Mem{0, 3}, at(2, last<<32+2, 8, 3, 0), at(3, last<<32+2, 2, 3, chain.Done)},
		{mem.Mem{0, most}, mem.Mem{0, 3}, at(2, most, 8, 3, 0), at(3, most, 1<<32-1, 3, chain.Done)},
		{m, m, at(3, h, 8, 3, 0), at(3, h, 8, 3, 0)},
	})
}

// P8.2: one that has come to its end, is of no kind, or has no such PC, turns
// nothing.
func TestNothingIsTurned(t *testing.T) {
	m := mem.Mem{9, 5<<32 + 2, 0, 0, 3, 0}
	is := func(c chain.Machine) {
		if got, now := chain.Step(m, c); !slices.Equal(got, m) || now != c {
			t.Errorf("%+v: %v, %+v", c, got, now)
		}
	}
	for _, x := range ints() {
		for pc := range 3 {
			for kind := 1; kind <= 2; kind++ {
				c := chain.Machine{Kind: kind, PC: pc, Head: 1, Next: 2, H: m[1], X: 3, Y: 4, Out: x}
				if x != chain.Going {
					is(c)
				}
				if x < 0 || x > 2 {
					c.PC, c.Out = x, chain.Going
					is(c)
				}
			}
			if x < 1 || x > 2 {
				is(chain.Machine{Kind: x, PC: pc, Head: 1, Next: 2, H: m[1], X: 3, Y: 4})
			}
		}
	}
}

// P8.2: a cell that is not there tells 0, and is not turned; and nothing is
// swapped there, even from 0.
func TestNoCell(t *testing.T) {
	for _, m := range []mem.Mem{nil, {}, {7}, {7, 8, 9}} {
		for _, head := range []int{3, 4, -1, -2, 1 << 32, -1 << 32, math.MaxInt, math.MinInt} {
			got, c, n := run(m, chain.Start(chain.Pop, head, 0, 6))
			if !slices.Equal(got, m) || n != 1 || c != (chain.Machine{Kind: chain.Pop, PC: 1, Head: head, X: 6, Out: chain.Empty}) {
				t.Error(m, head, got, c, n)
			}
			// Who pushes begins again each time.
			got, c, n = run(m, chain.Start(chain.Push, head, 90, 6))
			if !slices.Equal(got, m) || n != 20 || c != (chain.Machine{Kind: chain.Push, PC: 2, Head: head, Next: 90, X: 6}) {
				t.Error(m, head, got, c, n)
			}
			d := chain.Machine{Kind: chain.Pop, PC: 2, Head: head, X: 6, Y: 5}
			want := d
			want.PC = 0
			if got, d = chain.Step(m, d); !slices.Equal(got, m) || d != want {
				t.Error(m, head, got, d)
			}
		}
	}
	// The head is there, a node's cell is not.
	for _, next := range []int{2, 3, -3, 1 << 32, math.MaxInt, math.MinInt} {
		m, c, n := run(mem.Mem{3<<32 + 2, 8}, chain.Start(chain.Push, 0, next, 1))
		if !slices.Equal(m, mem.Mem{4<<32 + 1, 8}) || c.Out != chain.Done || n != 3 {
			t.Error(next, m, c, n)
		}
		m, c, n = run(m, chain.Start(chain.Pop, 0, next, 0))
		if !slices.Equal(m, mem.Mem{5 << 32, 8}) || c.Out != chain.Done || c.X != 1 || c.Y != 0 || n != 3 {
			t.Error(next, m, c, n)
		}
	}
}

// P8.2, P6: the cell of a node is a sum modulo 2^64.
func TestSums(t *testing.T) {
	m := mem.Mem{5<<32 + 2, 1, 4, 0, 7}
	for _, next := range ints() {
		for _, x := range ints() {
			for pc := range 3 {
				check(t, m, chain.Machine{Kind: chain.Push, PC: pc, Next: next, H: m[0], X: x})
				check(t, m, chain.Machine{Kind: chain.Pop, PC: pc, Next: next, H: uint64(x), X: 9, Y: 8})
			}
		}
	}
	for i, c := range []struct{ next, x int }{
		{0, 3}, {2, 1}, {3, 0}, {5, -2}, {-4, 7}, {math.MaxInt, math.MinInt + 4}, {math.MinInt, math.MinInt + 3}, {math.MinInt + 4, math.MaxInt},
	} {
		got, _ := chain.Step(m, chain.Machine{Kind: chain.Push, PC: 1, Next: c.next, H: m[0], X: c.x})
		if !slices.Equal(got, mem.Mem{5<<32 + 2, 1, 4, 2, 7}) {
			t.Error(i, got)
		}
	}
	// Next is below 0, and yet a node's cell is there.
	if _, c := chain.Step(m, chain.Machine{Kind: chain.Pop, PC: 1, Next: -1<<32 + 2, H: most}); c.Y != 1 {
		t.Error(c)
	}
}

// P8.2: a node of any 64 bits is pushed with its lower 32.
func TestWholeNumbers(t *testing.T) {
	for _, x := range ints() {
		m, c, n := run(mem.Mem{4<<32 + 1}, chain.Start(chain.Push, 0, 9, x))
		if c.Out != chain.Done || c.X != x || n != 3 || m[0] != headed(5, x) {
			t.Error(x, m, c, n)
		}
		node := noded(uint64(x))
		m, c, _ = run(m, chain.Start(chain.Pop, 0, 9, 6))
		if node == 0 && (c.Out != chain.Empty || c.X != 6) || node != 0 && (c.Out != chain.Done || c.X != node || m[0] != 6<<32) {
			t.Error(x, m, c)
		}
	}
}

// P8.2: steps are what the chapter's words say, of any machines and cells.
func TestStepAsTheWordsSay(t *testing.T) {
	r := random(8)
	turned, swapped := 0, 0
	for range 60000 {
		m := r.mem(r.under(8))
		c := r.machine(m)
		if _, now := plainly(m, c); now != c {
			turned++
			if now.Out == chain.Done {
				swapped++
			}
		}
		check(t, m, c)
	}
	if turned < 10000 || swapped < 1500 {
		t.Error("too few were turned:", turned, swapped)
	}
}

// P8.2: a list that one uses alone is a stack, each comes to its end in so
// many steps, and the version counts what was swapped.
func TestAlone(t *testing.T) {
	const nodes = 5
	m := mem.Mem{7, (last - 100) << 32, 7}
	m = append(m, make(mem.Mem, nodes+2)...)
	m[len(m)-1] = 7
	var l []int
	r := random(82)
	swaps := uint64(0)
	for i := range 2000 {
		kind := 1 + r.under(2)
		x := 1 + r.under(nodes)
		if kind == chain.Push && slices.Contains(l, x) {
			continue
		}
		var c chain.Machine
		var n int
		had := len(l)
		m, c, n = run(m, chain.Start(kind, 1, 3, x))
		out, steps := chain.Done, 3
		switch {
		case kind == chain.Push:
			l = slices.Insert(l, 0, x)
		case had == 0:
			out, steps = chain.Empty, 1
		default:
			x, l = l[0], l[1:]
		}
		if out == chain.Done {
			swaps++
		}
		if c.Out != out || c.X != x || n != steps || !slices.Equal(chain.List(m, 1, 3, 99), l) || m[1]>>32 != (last-100+swaps)%(last+1) {
			t.Fatalf("%d: %+v, %d, %v, not %v", i, c, n, m, l)
		}
	}
	if m[0] != 7 || m[2] != 7 || m[3] != 0 || m[len(m)-1] != 7 || swaps < 1000 {
		t.Error(m, swaps)
	}
}

// P8.2: who saw a head that has been swapped since begins again: by whoever
// pushed, by whoever popped, and even where the same node is the first again.
func TestStale(t *testing.T) {
	start := chain.Lay(make(mem.Mem, 8), 0, 1, []int{4, 2, 5})
	others := [][]chain.Machine{
		{chain.Start(chain.Push, 0, 1, 6)},
		{chain.Start(chain.Pop, 0, 1, 0)},
		{chain.Start(chain.Pop, 0, 1, 0), chain.Start(chain.Push, 0, 1, 4)},
		{chain.Start(chain.Pop, 0, 1, 0), chain.Start(chain.Pop, 0, 1, 0), chain.Start(chain.Push, 0, 1, 4)},
		{chain.Start(chain.Push, 0, 1, 6), chain.Start(chain.Pop, 0, 1, 0)},
	}
	for _, kind := range []int{chain.Push, chain.Pop} {
		for i, l := range others {
			for ahead := 1; ahead <= 2; ahead++ {
				m, c := start, chain.Start(kind, 0, 1, 3)
				for range ahead {
					m, c = chain.Step(m, c)
				}
				for _, d := range l {
					m, _, _ = run(m, d)
				}
				for range 3 - ahead {
					m, c = chain.Step(m, c)
				}
				if c.PC != 0 || c.Out != chain.Going || c.X != 3 {
					t.Fatal(kind, i, ahead, c)
				}
				before := chain.List(m, 0, 1, 9)
				m, c, _ = run(m, c)
				after := chain.List(m, 0, 1, 9)
				if kind == chain.Pop {
					before, after = after, before
				}
				if c.Out != chain.Done || !slices.Equal(after, append([]int{c.X}, before...)) {
					t.Error(kind, i, ahead, c, before, after)
				}
			}
		}
	}
}

// P8.3: a list is laid with its head last.
func TestLay(t *testing.T) {
	ones := mem.Mem{1, 1, 1, 1, 1, 1}
	for i, c := range []struct {
		m          mem.Mem
		head, next int
		l          []int
		want       mem.Mem
	}{
		{ones, 0, 1, nil, mem.Mem{0, 1, 1, 1, 1, 1}},
		{ones, 3, 1, []int{}, mem.Mem{1, 1, 1, 0, 1, 1}},
		{ones, 0, 1, []int{3}, mem.Mem{3, 1, 1, 1, 0, 1}},
		{ones, 0, 1, []int{3, 1}, mem.Mem{3, 1, 0, 1, 1, 1}},
		{ones, 0, 1, []int{3, 1, 4, 2}, mem.Mem{3, 1, 4, 0, 1, 2}},
		{ones, 5, 0, []int{1, 2, 3}, mem.Mem{1, 2, 3, 0, 1, 1}},
		// The version is 0, whatever it was, and whatever the node.
		{mem.Mem{most, most, most}, 0, 1, []int{1}, mem.Mem{1, most, 0}},
		{mem.Mem{most, most, most}, 0, 1, nil, mem.Mem{0, most, most}},
		{ones, 0, 1, []int{-1, 2}, mem.Mem{last, 1, 1, 0, 1, 1}},
		{ones, 0, -1 << 32, []int{1<<32 + 3, 1<<32 + 4}, mem.Mem{3, 1, 1, 1<<32 + 4, 0, 1}},
		{ones, 0, 1, []int{2, -1, 3}, mem.Mem{2, 1, 1, most, 0, 1}},
		// One is there twice: the later deed stays.
		{ones, 0, 1, []int{2, 3, 2}, mem.Mem{2, 1, 1, 0, 2, 1}},
		{ones, 0, 1, []int{2, 2}, mem.Mem{2, 1, 1, 0, 1, 1}},
		{ones, 0, 1, []int{2, 3, 2, 4}, mem.Mem{2, 1, 1, 4, 2, 0}},
		// The head is a node's cell too: it is turned last.
		{ones, 3, 1, []int{2, 4}, mem.Mem{1, 1, 1, 2, 1, 0}},
		{ones, 2, 1, []int{1}, mem.Mem{1, 1, 1, 1, 1, 1}},
		// 0 is laid as any other one.
		{ones, 0, 1, []int{0}, mem.Mem{0, 0, 1, 1, 1, 1}},
		{ones, 0, 1, []int{2, 0, 3}, mem.Mem{2, 3, 1, 0, 0, 1}},
		// What is not there is not turned.
		{ones, 0, 1, []int{2, 9, 3}, mem.Mem{2, 1, 1, 9, 0, 1}},
		{ones, 0, 1, []int{4, 5}, mem.Mem{4, 1, 1, 1, 1, 5}},
		{ones, 6, 1, []int{2, 3}, mem.Mem{1, 1, 1, 3, 0, 1}},
		{ones, -1, 1, []int{2, 3}, mem.Mem{1, 1, 1, 3, 0, 1}},
		{ones, 0, 6, []int{-6, 1}, mem.Mem{1<<32 - 6, 1, 1, 1, 1, 1}},
		{ones, 1, 6, []int{-6, 1}, mem.Mem{1, 1<<32 - 6, 1, 1, 1, 1}},
		{ones, math.MaxInt, math.MinInt, []int{1, 2}, ones},
		{nil, 0, 1, []int{1, 2}, nil},
		{mem.Mem{}, 0, 1, nil, nil},
		{mem.Mem{5}, 0, 1, []int{1, 2}, mem.Mem{1}},
	} {
		if got := chain.Lay(c.m, c.head, c.next, c.l); !slices.Equal(got, c.want) || !slices.Equal(got, laid(c.m, c.head, c.next, c.l)) {
			t.Errorf("%d: %v, not %v", i, got, c.want)
		}
	}
}

// P8.3: the nodes from the head's on, up to the first 0.
func TestList(t *testing.T) {
	m := mem.Mem{9<<32 + 3, 1, 4, 0, 1, 2} // 3, 1, 4, 2 behind 1
	loop := mem.Mem{7<<32 + 1, 0, 2, 1}
	for i, c := range []struct {
		m                mem.Mem
		head, next, most int
		want             []int
	}{
		{m, 0, 1, 9, []int{3, 1, 4, 2}},
		{m, 0, 1, 5, []int{3, 1, 4, 2}},
		{m, 0, 1, 4, []int{3, 1, 4, 2}},
		{m, 0, 1, 3, []int{3, 1, 4}},
		{m, 0, 1, 1, []int{3}},
		{m, 0, 1, 0, nil},
		{m, 0, 1, -1, nil},
		{m, 0, 1, math.MinInt, nil},
		{m, 0, 1, math.MaxInt, []int{3, 1, 4, 2}},
		{m, 0, 1, 1 << 32, []int{3, 1, 4, 2}},
		{m, 3, 1, 9, nil},
		{m, 5, 1, 9, []int{2}},
		{m, 2, 1, 9, []int{4, 2}},
		{loop, 0, 1, 5, []int{1, 2, 1, 2, 1}},
		{mem.Mem{1 << 32, 5, 5}, 0, 1, 9, nil},
		// What is not there has 0.
		{m, 6, 1, 9, nil},
		{m, -1, 1, 9, nil},
		{m, math.MaxInt, 1, 9, nil},
		{m, math.MinInt, 1, 9, nil},
		{m, 0, 3, 9, []int{3}},
		{m, 0, 9, 9, []int{3}},
		{m, 0, math.MaxInt, 9, []int{3}},
		{m, 0, -9, 9, []int{3}},
		{nil, 0, 1, 9, nil},
		{mem.Mem{}, 0, 1, 9, nil},
		{mem.Mem{4}, 0, 1, 9, []int{4}},
		// A cell is a sum; a node behind another one is all that its cell has.
		{mem.Mem{2, 0, 1}, 0, -1, 9, []int{2}},
		{mem.Mem{last, 3}, 0, -1<<32 + 2, 9, []int{1<<32 - 1, 3}},
		{mem.Mem{1, 0, 1 << 32}, 0, 1, 9, []int{1, 1 << 32}},
		{mem.Mem{1, 5, most}, 0, 1, 4, []int{1, -1, 1, -1}},
		{mem.Mem{1, 6, most - 1, 2}, 0, 3, 9, []int{1}},
		{mem.Mem{1, 0, 0, 0, most - 1, 2}, 0, 3, 9, []int{1, -2}},
		{mem.Mem{1, 7, 0, 0, most - 1}, 0, 3, 3, []int{1, -2, 7}},
	} {
		if l := chain.List(c.m, c.head, c.next, c.most); !slices.Equal(l, c.want) || !slices.Equal(l, listed(c.m, c.head, c.next, c.most)) {
			t.Errorf("%d: %v, not %v", i, l, c.want)
		}
	}
}

// P8.3: at most 1000 nodes are told.
func TestListLong(t *testing.T) {
	var l []int
	for i := range 1200 {
		l = append(l, 1200-i)
	}
	for _, c := range []struct{ n, most, want int }{
		{998, 9999, 998}, {999, 1000, 999}, {1000, 1000, 1000}, {1000, 1001, 1000}, {1001, 1001, 1000}, {1200, 999, 999}, {1200, 1000, 1000}, {1200, 1001, 1000}, {1200, 1200, 1000}, {1200, math.MaxInt, 1000}, {1200, 1<<32 + 5, 1000},
	} {
		m := chain.Lay(make(mem.Mem, 1202), 0, 1, l[:c.n])
		if got := chain.List(m, 0, 1, c.most); !slices.Equal(got, l[:c.want]) {
			t.Error(c, len(got))
		}
	}
	if got := chain.List(mem.Mem{1, 0, 1}, 0, 1, 5000); len(got) != 1000 {
		t.Error(len(got))
	}
}

// P8.3: Lay and List are what the chapter's words say, of any cells; and what
// was laid is listed.
func TestLayAndListAsTheWordsSay(t *testing.T) {
	r := random(83)
	for range 30000 {
		m := r.mem(r.under(9))
		var l []int
		for range r.under(6) {
			l = append(l, r.number())
		}
		head, next, most := r.under(3), r.under(3), r.number()
		if r.under(6) == 0 {
			head, next = r.number(), r.number()
		}
		got := chain.Lay(m, head, next, l)
		if want := laid(m, head, next, l); !slices.Equal(got, want) {
			t.Fatalf("Lay %v, %d, %d, %v: %v, not %v", m, head, next, l, got, want)
		}
		for _, c := range []mem.Mem{m, got} {
			if l, want := chain.List(c, head, next, most), listed(c, head, next, most); !slices.Equal(l, want) {
				t.Fatalf("List %v, %d, %d, %d: %v, not %v", c, head, next, most, l, want)
			}
		}
	}
	for n := range 9 {
		var l []int
		for i := range n {
			l = append(l, 1+(i*5+3)%8)
		}
		m := chain.Lay(mem.Mem{1, 2, 3, 4, 5, 6, 7, 8, 9, 10}, 0, 1, l)
		if got := chain.List(m, 0, 1, n); !slices.Equal(got, l) || m[1] != 2 {
			t.Error(n, got, l, m)
		}
	}
}

// P3: nothing that is handed in is written into, nor what stands behind it.
func TestNothingIsWrittenInto(t *testing.T) {
	whole := mem.Mem{5<<32 + 2, 1, 4, 0, 7, 1}
	kept := slices.Clone(whole)
	nodes := []int{2, 4, 1, 3}
	for n := range 7 {
		for kind := range 4 {
			for pc := -1; pc < 5; pc++ {
				for x := range 6 {
					chain.Step(whole[:n], chain.Machine{Kind: kind, PC: pc, H: whole[0], X: x, Y: x})
				}
			}
		}
		for k := range 4 {
			chain.Lay(whole[:n], k, 1, nodes[:k])
			chain.List(whole[:n], k, 1, 9)
		}
	}
	if !slices.Equal(whole, kept) || !slices.Equal(nodes, []int{2, 4, 1, 3}) {
		t.Error(whole, nodes)
	}
}

// P3: what is answered is new memory, whether something was turned or not.
func TestNewMemory(t *testing.T) {
	m := mem.Mem{5<<32 + 2, 1, 4, 0, 7}
	kept := slices.Clone(m)
	spoil := func(got mem.Mem) {
		for i := range got {
			got[i] = 99
		}
		if !slices.Equal(m, kept) {
			t.Fatal(m)
		}
	}
	for kind := range 4 {
		for pc := -1; pc < 5; pc++ {
			for out := range 2 {
				got, _ := chain.Step(m, chain.Machine{Kind: kind, PC: pc, H: m[0], X: 3, Out: out})
				spoil(got)
			}
		}
	}
	spoil(chain.Lay(m, 0, 1, []int{1, 2}))
	spoil(chain.Lay(m, 0, 1, nil))
	spoil(chain.Lay(m, 9, 9, nil))
}

// P4: the same is told again and again.
func TestSameAgain(t *testing.T) {
	m := chain.Lay(make(mem.Mem, 8), 0, 1, []int{3, 5, 6})
	m, c := chain.Step(m, chain.Start(chain.Pop, 0, 1, 0))
	m, c = chain.Step(m, c)
	want, wantC := chain.Step(m, c)
	for range 100 {
		got, gotC := chain.Step(m, c)
		if !slices.Equal(got, want) || gotC != wantC || !slices.Equal(chain.List(got, 0, 1, 9), []int{5, 6}) {
			t.Fatal(got, gotC)
		}
	}
}

// P1: whatever the numbers are, each call ends, even on many cells.
func TestEnds(t *testing.T) {
	r := random(81)
	m := make(mem.Mem, 1<<20)
	for i := range m {
		m[i] = uint64(r.under(1 << 20))
	}
	for range 200 {
		if l := chain.List(m, r.under(1<<20), r.number(), r.number()); len(l) > 1000 {
			t.Fatal(len(l))
		}
	}
	l := make([]int, 1<<20)
	for i := range l {
		l[i] = len(l) - i
	}
	if got := chain.Lay(m, 0, 0, l); got[1] != 0 || got[1<<20-1] != 1<<20-2 || got[0] != 1<<20 {
		t.Error(got[0], got[1])
	}
}
