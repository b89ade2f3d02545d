package chain_test

import (
	"slices"
	"strconv"
	"testing"

	"besom/chain"
	"besom/mem"
)

// The cells of a race: two lists, whose nodes' cells are the same.
const (
	heads = 2
	next  = 3 // behind both heads, and a cell that nobody turns
)

// task is what one does: to pop from the list of that head, or to push on it
// what was popped last.
type task struct{ kind, head int }

// race is machines that do what their scripts say, one task behind another, on
// two lists that have these nodes at first.
type race struct {
	first   [heads][]int
	scripts [][]task
}

// hand is one of the machines: where it is in its script, and what it has
// popped, and not pushed since.
type hand struct {
	c    chain.Machine
	at   int
	have []int
}

// point is where a race has come to: all that tells how it may go on.
type point struct {
	m mem.Mem
	l []hand
}

// nodes tells how many nodes a race has: 1, 2, 3 ..
func (r race) nodes() int {
	return len(r.first[0]) + len(r.first[1])
}

// start tells the point where a race begins.
func (r race) start() point {
	m := make(mem.Mem, next+r.nodes()+2)
	m[heads], m[next], m[len(m)-1] = 9, 9, 9
	for i, l := range r.first {
		m = chain.Lay(m, i, next, l)
	}
	l := make([]hand, len(r.scripts))
	for i := range l {
		l[i] = hand{c: chain.Machine{Out: chain.Done}, at: -1}
	}
	return point{m, l}
}

// copy tells a point that shares nothing with p.
func (p point) copy() point {
	p.l = slices.Clone(p.l)
	for i := range p.l {
		p.l[i].have = slices.Clone(p.l[i].have)
	}
	return p
}

// lists tells what is in both lists.
func (r race) lists(p point) [heads][]int {
	var told [heads][]int
	for i := range told {
		told[i] = chain.List(p.m, i, next, r.nodes()+1)
	}
	return told
}

// begins lets a machine that has come to its end begin its next task, and
// tells whether there is one: what is to be pushed where nothing is had is
// left out.
func (h *hand) begins(script []task) bool {
	for h.at+1 < len(script) {
		h.at++
		k := script[h.at]
		if k.kind == chain.Pop {
			h.c = chain.Start(chain.Pop, k.head, next, 0)
			return true
		}
		if n := len(h.have); n > 0 {
			h.c = chain.Start(chain.Push, k.head, next, h.have[n-1])
			return true
		}
	}
	return false
}

// ended puts down what a machine has, as it has come to its end.
func (h *hand) ended() {
	if h.c.Out != chain.Done {
		return
	}
	if h.c.Kind == chain.Pop {
		h.have = append(h.have, h.c.X)
	} else {
		h.have = h.have[:len(h.have)-1]
	}
}

// steps lets machine i do a step, if it has one.
func (r race) steps(p point, i int) (point, bool) {
	p = p.copy()
	h := &p.l[i]
	if h.c.Out != chain.Going && !h.begins(r.scripts[i]) {
		return p, false
	}
	p.m, h.c = chain.Step(p.m, h.c)
	h.ended()
	return p, true
}

// right tells whether the step of machine i from p to q did to the lists what
// its machine says: it took the first one, or put one ahead, or did nothing.
func (r race) right(p, q point, i int) bool {
	c := q.l[i].c
	was, is := r.lists(p), r.lists(q)
	for k := range was {
		more, less := was[k], is[k]
		if c.Kind == chain.Push {
			more, less = less, more
		}
		if c.Out == chain.Done && c.Head == k {
			less = append([]int{c.X}, less...)
		}
		if !slices.Equal(more, less) {
			return false
		}
	}
	return c.Out != chain.Empty || len(is[c.Head]) == 0
}

// sound tells whether each node is in one place, once: in a list, or with one
// who has popped it; and nothing beside was turned.
func (r race) sound(p point) bool {
	lists := r.lists(p)
	l := slices.Concat(lists[0], lists[1])
	for _, h := range p.l {
		l = append(l, h.have...)
	}
	slices.Sort(l)
	for i, x := range l {
		if x != i+1 {
			return false
		}
	}
	return len(l) == r.nodes() && p.m[heads] == 9 && p.m[next] == 9 && p.m[len(p.m)-1] == 9
}

// ends tells whether each machine that goes on comes to its end, if all others
// have stopped where they are.
func (r race) ends(p point) bool {
	for _, h := range p.l {
		m, c := p.m, h.c
		for range 5 {
			m, c = chain.Step(m, c)
		}
		if c.Out == chain.Going {
			return false
		}
	}
	return true
}

// key tells p as a text: two points of one text go on alike.
func (p point) key() string {
	var b []byte
	put := func(l ...int) {
		for _, x := range l {
			b = append(strconv.AppendInt(b, int64(x), 10), ' ')
		}
	}
	for _, v := range p.m {
		put(int(v))
	}
	for _, h := range p.l {
		put(h.c.Kind, h.c.PC, h.c.Head, int(h.c.H), h.c.X, h.c.Y, h.c.Out, h.at)
		put(h.have...)
		b = append(b, '|')
	}
	return string(b)
}

// walk goes through all points that the race may come to, and tells how many
// they are, and how often a machine began again.
func (r race) walk(t *testing.T) (points, again int) {
	first := r.start()
	seen := map[string]bool{first.key(): true}
	work := []point{first}
	for len(work) > 0 {
		p := work[len(work)-1]
		work = work[:len(work)-1]
		if !r.sound(p) || !r.ends(p) {
			t.Fatalf("%+v: %+v", r, p)
		}
		for i := range p.l {
			q, ok := r.steps(p, i)
			if !ok {
				continue
			}
			if !r.right(p, q, i) {
				t.Fatalf("%+v: machine %d, from %+v to %+v", r, i, p, q)
			}
			if p.l[i].c.PC == 2 && q.l[i].c.PC == 0 {
				again++
			}
			if k := q.key(); !seen[k] {
				seen[k] = true
				work = append(work, q)
			}
		}
	}
	return len(seen), again
}

// P8.4: in whatever order machines step that pop, and push what they popped,
// a node that was pushed, and not popped, is in its list once, and none is
// popped twice.
func TestEveryOrder(t *testing.T) {
	take, put := task{chain.Pop, 0}, task{chain.Push, 0}
	takeB, putB := task{chain.Pop, 1}, task{chain.Push, 1}
	for _, r := range []race{
		// The first one is popped, with the one behind it, and is pushed again,
		// while another one stands ahead of its swap.
		{[heads][]int{{1, 2, 3}}, [][]task{{take, take, put, put}, {take, put, take}}},
		{[heads][]int{{1, 2, 3}}, [][]task{{take, take, takeB, put}, {take, put, put}}},
		{[heads][]int{{1}}, [][]task{{take, put, take, put}, {take, put, take, put}}},
		{[heads][]int{{2, 1}}, [][]task{{take, put}, {take, put}, {take, put}}},
		{[heads][]int{{2, 1}, {3}}, [][]task{{take, putB, takeB}, {takeB, put, take, putB}}},
		{[heads][]int{{1, 2}, nil}, [][]task{{take, putB}, {takeB, put}, {take, put}}},
		{[heads][]int{{1, 2, 3}}, [][]task{{take, take, put}, {take}, {take, put}}},
	} {
		if points, again := r.walk(t); points < 300 || again == 0 {
			t.Errorf("%+v: %d points alone, %d times again", r, points, again)
		}
	}
}

// byChance goes one way of the race, to its end, and tells how often machines
// of each kind came to each end, or (Going) began again.
func (r race) byChance(t *testing.T, by *random) map[[2]int]int {
	ends := map[[2]int]int{}
	p := r.start()
	for step, stopped := 0, 0; stopped < 1000; step++ {
		if step > 100000 {
			t.Fatalf("no end: %+v", p)
		}
		i := by.under(len(r.scripts))
		q, ok := r.steps(p, i)
		if !ok {
			stopped++
			continue
		}
		stopped = 0
		if !r.right(p, q, i) || !r.sound(q) {
			t.Fatalf("machine %d, from %+v to %+v", i, p, q)
		}
		c := q.l[i].c
		if c.Out != chain.Going || c.PC == 0 {
			ends[[2]int{c.Kind, c.Out}]++
		}
		p = q
	}
	for i, h := range p.l {
		if _, ok := r.steps(p, i); ok {
			t.Fatalf("machine %d goes on: %+v", i, h)
		}
	}
	return ends
}

// P8.4: so it is where many machines push and pop, on longer ways by chance.
func TestLongRaces(t *testing.T) {
	by := random(84)
	for _, n := range []int{1, 3, 12} {
		var r race
		for x := range n {
			r.first[x%heads] = append(r.first[x%heads], x+1)
		}
		for range 8 {
			var script []task
			for range 300 {
				script = append(script, task{chain.Push + by.under(2), by.under(heads)})
			}
			r.scripts = append(r.scripts, script)
		}
		ends := r.byChance(t, &by)
		want := [][2]int{{chain.Push, chain.Done}, {chain.Pop, chain.Done}, {chain.Pop, chain.Empty}, {chain.Pop, chain.Going}}
		// Who pushes the only node has nobody to meet.
		if n > 1 {
			want = append(want, [2]int{chain.Push, chain.Going})
		}
		for _, k := range want {
			if ends[k] == 0 {
				t.Errorf("%d nodes: none of %v", n, k)
			}
		}
	}
}
