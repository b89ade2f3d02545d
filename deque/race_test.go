package deque_test

import (
	"slices"
	"strconv"
	"testing"

	"besom/deque"
	"besom/mem"
)

// race is an owner that does what its script says, one behind another, and
// thieves that try to steal so often each; all on one deque of so many places.
type race struct {
	size          int
	script        []int // kinds
	thieves, each int
}

// point is where a race has come to: all that tells how it may go on.
type point struct {
	m      mem.Mem
	owner  deque.Machine
	at     int // in the script
	pushed int // so many, which are 1, 2, 3 ..
	thief  []deque.Machine
	left   []int // how often each is to steal yet
	taken  []int // popped or stolen
}

// start tells the point where a race begins.
func (r race) start() point {
	p := point{m: slices.Concat(mem.Mem{9}, deque.Cells(r.size), mem.Mem{9}), at: -1, owner: deque.Machine{Out: deque.Done}}
	for range r.thieves {
		p.thief, p.left = append(p.thief, deque.Machine{Out: deque.Done}), append(p.left, r.each)
	}
	return p
}

// copy tells a point that shares nothing with p.
func (p point) copy() point {
	p.thief, p.left, p.taken = slices.Clone(p.thief), slices.Clone(p.left), slices.Clone(p.taken)
	return p
}

// took puts down what d has brought home.
func (p *point) took(d deque.Machine) {
	if d.Out == deque.Done && d.Kind != deque.Push {
		p.taken = append(p.taken, d.X)
	}
}

// owns lets the owner do a step, if it has one.
func (r race) owns(p point) (point, bool) {
	p = p.copy()
	if p.owner.Out != deque.Going {
		if p.at+1 >= len(r.script) {
			return p, false
		}
		p.at++
		p.owner = deque.Start(r.script[p.at], 1, r.size, p.pushed+1)
	}
	p.m, p.owner = deque.Step(p.m, p.owner)
	p.took(p.owner)
	if p.owner.Kind == deque.Push && p.owner.Out == deque.Done {
		p.pushed++
	}
	return p, true
}

// steals lets thief i do a step, if it has one.
func (r race) steals(p point, i int) (point, bool) {
	p = p.copy()
	if p.thief[i].Out != deque.Going {
		if p.left[i] == 0 {
			return p, false
		}
		p.left[i]--
		p.thief[i] = deque.Start(deque.Steal, 1, r.size, 0)
	}
	p.m, p.thief[i] = deque.Step(p.m, p.thief[i])
	p.took(p.thief[i])
	return p, true
}

// inHand tells what the owner has made its own, and not brought home yet: none
// or one.
func (r race) inHand(p point) []int {
	d := p.owner
	if d.Kind != deque.Pop || d.Out != deque.Going {
		return nil
	}
	if d.PC == 3 && d.T != d.B-1 {
		return []int{int(p.m[placed(1, r.size, d.B-1)])}
	}
	if d.PC == 6 {
		return []int{d.X}
	}
	return nil
}

// sound tells whether each that was pushed is in one place, once, and nothing
// beside the deque was turned.
func (r race) sound(p point) bool {
	l := slices.Concat(deque.Items(p.m, 1, r.size, p.owner), p.taken, r.inHand(p))
	slices.Sort(l)
	for i, x := range l {
		if x != i+1 {
			return false
		}
	}
	return len(l) == p.pushed && p.m[0] == 9 && p.m[len(p.m)-1] == 9
}

// key tells p as a text: two points of one text go on alike.
func (p point) key() string {
	var b []byte
	put := func(l ...int) {
		for _, x := range l {
			b = append(strconv.AppendInt(b, int64(x), 10), ' ')
		}
	}
	for _, v := range p.m {
		put(int(v))
	}
	for _, d := range slices.Concat(p.thief, []deque.Machine{p.owner}) {
		put(d.Kind, d.PC, int(d.B), int(d.T), d.X, d.Out)
	}
	put(p.at, p.pushed)
	put(p.left...)
	l := slices.Sorted(slices.Values(p.taken))
	put(l...)
	return string(b)
}

// ends tells whether each machine that goes on comes to its end, if all others
// have stopped where they are.
func (r race) ends(p point) bool {
	for _, d := range slices.Concat(p.thief, []deque.Machine{p.owner}) {
		m := p.m
		for range 7 {
			m, d = deque.Step(m, d)
		}
		if d.Out == deque.Going {
			return false
		}
	}
	return true
}

// walk goes through all points that the race may come to, and tells how many
// they are.
func (r race) walk(t *testing.T) int {
	first := r.start()
	seen := map[string]bool{first.key(): true}
	work := []point{first}
	for len(work) > 0 {
		p := work[len(work)-1]
		work = work[:len(work)-1]
		if !r.sound(p) || !r.ends(p) {
			t.Fatalf("%+v: %+v", r, p)
		}
		next := func(q point, ok bool) {
			if k := q.key(); ok && !seen[k] {
				seen[k] = true
				work = append(work, q)
			}
		}
		next(r.owns(p))
		for i := range p.thief {
			next(r.steals(p, i))
		}
	}
	return len(seen)
}

// P7.4: in whatever order one that pushes and pops, and two that steal, step,
// what was pushed is in one place, once; and who stops stops others not.
func TestEveryOrder(t *testing.T) {
	const u, o = deque.Push, deque.Pop
	for _, r := range []race{
		{2, []int{u, o}, 2, 2},
		{1, []int{u, u, o, u, o}, 2, 1},
		{1, []int{u, o, u, o}, 2, 2},
		{2, []int{u, u, o, o}, 2, 2},
		{2, []int{u, u, u, o, o}, 2, 1},
		{2, []int{o, u, o, o, u}, 2, 1},
		{3, []int{u, u, u, o, o, o}, 2, 1},
		{2, []int{u, u, o, o, u}, 3, 1},
	} {
		if n := r.walk(t); n < 300 {
			t.Errorf("%+v: %d points alone", r, n)
		}
	}
}

// byChance goes one way of the race, to its end, and tells how often each kind
// came to each end.
func (r race) byChance(t *testing.T, by *random) map[[2]int]int {
	ends := map[[2]int]int{}
	p := r.start()
	for step, stopped := 0, 0; stopped < 1000; step++ {
		i := by.under(2 * r.thieves)
		q, ok := p, false
		d := &q.owner
		if i < r.thieves {
			q, ok = r.steals(p, i)
			d = &q.thief[i]
		} else {
			q, ok = r.owns(p)
		}
		if !ok {
			stopped++
			continue
		}
		stopped, p = 0, q
		ends[[2]int{d.Kind, d.Out}]++
		if step%64 == 0 && !r.sound(p) {
			t.Fatalf("%d places: %+v", r.size, p)
		}
	}
	if !r.sound(p) || p.at+1 != len(r.script) {
		t.Fatalf("%d places: %+v", r.size, p)
	}
	return ends
}

// P7.4: so it is where many steal, on longer ways by chance.
func TestLongRaces(t *testing.T) {
	by := random(74)
	for _, size := range []int{1, 2, 3, 16} {
		r := race{size: size, thieves: 8, each: 300}
		for range 3000 {
			r.script = append(r.script, deque.Push+by.under(2))
		}
		ends := r.byChance(t, &by)
		for _, k := range [][2]int{{deque.Push, deque.Done}, {deque.Pop, deque.Done}, {deque.Pop, deque.Empty}, {deque.Steal, deque.Done}, {deque.Steal, deque.Empty}, {deque.Steal, deque.Lost}} {
			if ends[k] == 0 {
				t.Errorf("%d places: none of %v", size, k)
			}
		}
	}
}
