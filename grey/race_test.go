package grey_test

import (
	"fmt"
	"slices"
	"testing"

	"besom/bag"
	"besom/chain"
	"besom/deque"
	"besom/grey"
	"besom/plan"
	"besom/set"
	"besom/state"
	"besom/tint"
)

// task is what one greys: an object, in that mode.
type task struct{ mode, obj int }

// script is who does which tasks, one behind another.
type script struct {
	who   int
	tasks []task
}

// point is where a race has come to: the state, and the machine of each script,
// and how many tasks it has begun.
type point struct {
	s  State
	gs []Grey
	at []int
}

// race is scripts that are done by machines on a state of p, all at a time.
type race struct {
	p       Plan
	scripts []script
}

// start tells the point where a race begins: each machine is at an end.
func (r race) start() point {
	gs := slices.Repeat([]Grey{{Out: grey.Done}}, len(r.scripts))
	return point{state.New(r.p), gs, make([]int, len(r.scripts))}
}

// steps lets machine i do a step, if it has one.
func (r race) steps(p point, i int) (point, bool) {
	p.gs, p.at = slices.Clone(p.gs), slices.Clone(p.at)
	if p.gs[i].Out != 0 {
		c := r.scripts[i]
		if p.at[i] == len(c.tasks) {
			return p, false
		}
		k := c.tasks[p.at[i]]
		p.gs[i] = grey.Begin(k.mode, k.obj, c.who)
		p.at[i]++
	}
	p.s, p.gs[i] = grey.Step(p.s, p.gs[i])
	return p, true
}

// held tells where all grey objects are: in deques, in full bins, and in hands.
func held(p point) bag.Bag {
	var l []int
	for w := 1; w <= p.s.P.Workers; w++ {
		l = append(l, deque.Items(p.s.M, state.Deque(p.s.P, w), p.s.P.Cap, deque.Machine{})...)
	}
	for _, b := range chain.List(p.s.M, state.Full(p.s.P), state.Next(p.s.P), plan.Bins(p.s.P)) {
		l = append(l, p.s.Bins[b]...)
	}
	for _, g := range p.gs {
		if o := grey.Holds(g); o != 0 {
			l = append(l, o)
		}
	}
	return bag.Norm(l)
}

// binsAre tells whether each bin is in one list, or in one hand.
func binsAre(p point) bool {
	n := plan.Bins(p.s.P)
	l := chain.List(p.s.M, state.Full(p.s.P), state.Next(p.s.P), n+1)
	l = append(l, chain.List(p.s.M, state.Empty(p.s.P), state.Next(p.s.P), n+1)...)
	for _, g := range p.gs {
		if g.Out == 0 && (g.PC == 6 || g.PC == 7) {
			l = append(l, g.Bin)
		}
	}
	slices.Sort(l)
	for i, b := range l {
		if b != i+1 {
			return false
		}
	}
	return len(l) == n
}

// owed tells what all machines owe.
func owed(p point) int {
	n := 0
	for _, g := range p.gs {
		n += grey.Owes(g)
	}
	return n
}

// check fails where something of q is not as it must be, behind a step from p
// by machine i.
func check(t *testing.T, p, q point, i int) {
	t.Helper()
	once, ok := bag.Once(held(q))
	if !ok || once != tint.Greys(q.s.T) {
		t.Fatalf("held %v, grey %v: %+v", held(q), set.List(tint.Greys(q.s.T)), q)
	}
	if n := len(held(q)) + owed(q); q.s.Work != n {
		t.Fatalf("work %d, not %d: %+v", q.s.Work, n, q)
	}
	if kind, o := tint.Between(p.s.T, q.s.T); kind != 0 && (kind != 1 || o != q.gs[i].Obj) {
		t.Fatalf("turn %d of %d: %+v", kind, o, q)
	}
	if !binsAre(q) || touches(p.s, q.s) > 1 {
		t.Fatalf("bins, or touches: %+v", q)
	}
	if g := q.gs[i]; g.Out == grey.Done && (!set.Has(q.s.T.Marks, g.Obj) || grey.Holds(g)+grey.Asks(g)+grey.Owes(g) != 0) {
		t.Fatalf("done, but not marked: %+v", q)
	}
}

// checkEnd fails where a race that is at its end has not all that was asked for.
func (r race) checkEnd(t *testing.T, p point) {
	t.Helper()
	want, going := plan.Greys(r.p), false
	for _, c := range r.scripts {
		for _, k := range c.tasks {
			want = set.Add(want, k.obj)
		}
	}
	for _, g := range p.gs {
		going = going || g.Out != grey.Done
	}
	if p.s.T != (tint.Tint{Marks: want}) || p.s.Work != set.Count(want) || going {
		t.Fatalf("at the end: %+v", p)
	}
}

// key tells a point as a text.
func (p point) key() string {
	return fmt.Sprint(p.s.M, p.s.Bins, p.s.T, p.s.Work, p.s.Flag, p.gs, p.at)
}

// all goes on from p in all orders, and tells how many points there are.
func (r race) all(t *testing.T) int {
	seen := map[string]bool{}
	todo := []point{r.start()}
	for len(todo) > 0 {
		p := todo[len(todo)-1]
		todo = todo[:len(todo)-1]
		if seen[p.key()] {
			continue
		}
		seen[p.key()] = true
		went := false
		for i := range r.scripts {
			if q, ok := r.steps(p, i); ok {
				went = true
				check(t, p, q, i)
				todo = append(todo, q)
			}
		}
		if !went {
			r.checkEnd(t, p)
		}
	}
	return len(seen)
}

// P14.4, T4: machines of all modes, in all orders that there are.
func TestAllOrders(t *testing.T) {
	p := small()
	p.Cap = 1
	for i, r := range []race{
		{p, []script{{1, []task{{grey.Deque, 2}, {grey.Deque, 3}}}, {2, []task{{grey.Deque, 2}, {grey.Deque, 4}}}}},
		{p, []script{{1, []task{{grey.Deque, 2}, {grey.Deque, 3}}}, {1, []task{{grey.Flush, 3}}}}},
		{p, []script{{1, []task{{grey.Flush, 2}, {grey.Flush, 1}}}, {2, []task{{grey.Assist, 2}, {grey.Assist, 3}}}}},
		{p, []script{{1, []task{{grey.Assist, 2}}}, {2, []task{{grey.Assist, 2}}}, {1, []task{{grey.Deque, 2}}}}},
		{p, []script{{1, []task{{grey.Flush, 3}}}, {2, []task{{grey.Assist, 4}}}}},
	} {
		if n := r.all(t); n < 100 {
			t.Errorf("%d: %d points", i, n)
		}
	}
}

// randomly tells a race of all workers and mutators of a plan, over all objects.
func (r *random) race() race {
	c := race{p: r.plan(maxMachines)}
	n := len(c.p.H.Objs)
	for who := range c.p.Workers + c.p.Mutators {
		s := script{who: who + 1}
		modes := []int{grey.Deque}
		if who >= c.p.Workers {
			s.who, modes = who-c.p.Workers+1, []int{grey.Flush, grey.Assist}
		}
		for range 1 + r.under(8) {
			s.tasks = append(s.tasks, task{modes[r.under(len(modes))], 1 + r.under(n)})
		}
		c.scripts = append(c.scripts, s)
	}
	return c
}

// P14.4, T4: many machines, some of which step seldom; and a round of all
// machines, over and over, leads to the end.
func TestManyMachines(t *testing.T) {
	r := random(144)
	for range 60 {
		c := r.race()
		p := c.start()
		slow := r.under(len(c.scripts))
		for range 40 * len(c.scripts) {
			i := r.under(len(c.scripts))
			if i == slow && r.under(20) > 0 {
				continue
			}
			q, _ := c.steps(p, i)
			check(t, p, q, i)
			p = q
		}
		for n, went := 0, true; went; n++ {
			if n > 10000 {
				t.Fatalf("no end: %+v", p)
			}
			went = false
			for i := range c.scripts {
				q, ok := c.steps(p, i)
				check(t, p, q, i)
				p, went = q, went || ok
			}
		}
		c.checkEnd(t, p)
	}
}

// P14.4: one machine behind another: Work is more by one just where the object
// was white, be it that all objects come to have bins of their own.
func TestOneBehindAnother(t *testing.T) {
	p := Plan{Workers: 1, Cap: 1, Buf: 1, Bin: 1, Most: maxObjects}
	p.H.Slots, p.H.Objs = 1, slices.Repeat([][]int{{0}}, maxObjects)
	for _, mode := range []int{grey.Deque, grey.Flush, grey.Assist} {
		s := state.New(p)
		for _, o := range slices.Concat(set.List(set.First(maxObjects)), set.List(set.First(maxObjects))) {
			white, work := tint.Of(s.T, o) == tint.White, s.Work
			next, g, _ := ended(s, grey.Begin(mode, o, 1))
			if g.Out != grey.Done || tint.Of(next.T, o) != tint.Grey || (next.Work == work+1) != white || (next.Work == work) == white {
				t.Fatalf("mode %d, object %d: %+v", mode, o, g)
			}
			if s = next; len(chain.List(s.M, state.Empty(p), state.Next(p), 99)) == 0 {
				t.Fatalf("mode %d, object %d: no bin is empty", mode, o)
			}
		}
		if s.Work != maxObjects || s.T.Marks != set.First(maxObjects) {
			t.Errorf("mode %d: work %d", mode, s.Work)
		}
	}
}
